/-
  Part of the engine that the claim is proved with: it states nothing of the document by itself.
-/
import Derived.Test.YtigckjhbmeameaaGreatDoorCoreEvK

namespace Go.Ev
open Go.RowKit

theorem Rel.init {μ0 μ' : Nat → Option Loc} {H0 H1 : AHeap} {w w' : World} (h0 : Rel μ0 H0 w) (h1 : Rel μ' H1 w') (hle : H0.next ≤ H1.next) (hg : ∀ i, i < H0.next → H1.get i = H0.get i) : Rel μ0 H1 w := by
  have hlt : ∀ i p, μ0 i = some p → i < H0.next := fun i p hp => by
    rcases Nat.lt_or_ge i H0.next with h | h
    · exact h
    · rw [h0.fresh i h] at hp; cases hp
  refine ⟨fun i hi => h0.fresh i (by omega), h1.below, h1.top, h1.mlt, fun i cs e esz m ro p hgi hp => ?_, fun i st pend F ps as_ bd p hgi hp => ?_, fun i p hgi hp => ?_, fun i j p q hij hgi hgj hp hq e => ?_⟩
  · exact h0.cells i cs e esz m ro p ((hg i (hlt i p hp)).symm.trans hgi) hp
  · exact h0.loops i st pend F ps as_ bd p ((hg i (hlt i p hp)).symm.trans hgi) hp
  · exact h0.defs i p ((hg i (hlt i p hp)).symm.trans hgi) hp
  · have e1 := hg i (hlt i p hp)
    have e2 := hg j (hlt j q hq)
    have := h0.excl i j p q hij (by rw [← e1]; exact hgi) (by rw [← e2]; exact hgj) hp hq e
    rwa [← AHeap.ro_congr e1, ← AHeap.ro_congr e2, ← AHeap.mate_congr e1, ← AHeap.mate_congr e2] at this

theorem Rel.bare (μ : Nat → Option Loc) {N : Nat} (w : World) : Rel (cut μ N) { t := .leaf, next := N, wlow := N } w where
  fresh i hi := by unfold cut; rw [if_neg (by show ¬ i < N; exact Nat.not_lt.2 hi)]
  below i hi := absurd rfl hi
  top := trivial
  mlt := trivial
  cells i cs e esz m ro p hg := by simp [AHeap.get, T.get_leaf] at hg
  loops i st pend F ps a b p hg := by simp [AHeap.get, T.get_leaf] at hg
  defs i p hg := by simp [AHeap.get, T.get_leaf] at hg
  excl i j p q _ hi := absurd rfl hi

/-- Nothing that was there has changed. -/
structure Idle (w w' : World) : Prop where
  still : ∀ b, b < w.heap.size → w'.heap[b]? = w.heap[b]?
  grown : w.heap.size ≤ w'.heap.size
  os : w'.os = w.os
  tape : w'.tape = w.tape
  output : w'.output = w.output
theorem Post.idle {μ : Nat → Option Loc} {H : AHeap} {w w' : World} (hr : Rel μ H w) (h : Idle w w') : Post μ H w μ H w' :=
  ⟨.refl _, fun _ _ => rfl, hr.world h.still, h.os, h.tape, h.output, h.grown, Nat.le_refl _, Nat.le_refl _, fun _ _ _ => rfl, fun T N _ hN hμ => ⟨fun b hb => h.still b (by omega), hμ⟩⟩

/-- Before the tail: nothing old is turned. -/
structure Phase1 (ops : Array Oper) (hs : Nat → AHeap) (T : Nat) (μ0 : Nat → Option Loc) (w0 : World) (L : Array Bool) (w : World) (μ : Nat → Option Loc) : Prop where
  rel : ∀ k, k ≤ T → Rel (cut μ (hs k).next) (hs k) w
  un : ∀ i, i < T → L.getD i false = false → ∀ d, (hs i).next ≤ d → d < (hs (i + 1)).next → μ d = none
  top : ∀ d, (hs T).next ≤ d → μ d = none
  far : ∀ i o, T ≤ i → ops[i]? = some o → heapFree o.op = false → L.getD i false = false
  idle : Idle w0 w
  news : ∀ i p, (hs 0).next ≤ i → μ i = some p → w0.heap.size ≤ p.b

/-- In the tail, at j. -/
structure Phase2 (ops : Array Oper) (hs : Nat → AHeap) (T : Nat) (μ0 : Nat → Option Loc) (w0 : World) (L : Array Bool) (w : World) (μ : Nat → Option Loc) (j : Nat) : Prop where
  ge : T ≤ j
  le : j ≤ ops.size
  listed : ∀ i o, ops[i]? = some o → heapFree o.op = false → (L.getD i false = true ↔ i < j)
  post : Post μ0 (hs 0) w0 μ (hs j) w

section
variable {P : Program} {call : Call → TypeId → AFrame → AHeap → Option (Value × AHeap)} {ops : Array Oper}
variable {Fs : Nat → AFrame} {hs : Nat → AHeap} {vs : Nat → Value} {T : Nat} {μ0 : Nat → Option Loc} {w0 : World} {a0 : Act}

theorem Known.same (K : Known P call ops Fs hs vs T μ0 w0 a0) (j : Nat) : ∀ d, j + d ≤ ops.size → (∀ i o, j ≤ i → i < j + d → ops[i]? = some o → heapFree o.op = true) → hs (j + d) = hs j
  | 0, _, _ => rfl
  | d + 1, hd, h => by
    have ho : ops[j + d]? = some ops[j + d] := Array.getElem?_eq_getElem (by omega)
    have := (K.free (by omega) ho (h (j + d) _ (by omega) (by omega) ho)).1
    exact this.trans (K.same j d (by omega) fun i o h1 h2 h3 => h i o h1 (by omega) h3)

def St (ops : Array Oper) (hs : Nat → AHeap) (vs : Nat → Value) (T : Nat) (μ0 : Nat → Option Loc) (w0 : World) (a0 : Act) (L : Array Bool) (a : Act) (w : World) : Prop :=
  ∃ μ, Slots ops hs vs μ0 a0 L a μ ∧ (Phase1 ops hs T μ0 w0 L w μ ∨ ∃ j, Phase2 ops hs T μ0 w0 L w μ j)

theorem St.init (K : Known0 P call ops Fs hs vs T μ0 w0 a0) {L : Array Bool} (hL : ∀ i, L.getD i false = false) : St ops hs vs T μ0 w0 a0 L a0 w0 := by
  refine ⟨μ0, ⟨fun _ _ => rfl, fun i d _ h => (by rw [hL] at h; cases h), fun _ _ => rfl, rfl, rfl⟩, .inl ⟨fun k hk => ?_, fun i hi _ d h1 h2 => K.rel.fresh d (Nat.le_trans (K.nx (Nat.zero_le i) (Nat.le_trans (by omega) K.le)) h1), fun d hd => K.rel.fresh d (Nat.le_trans (K.nx (Nat.zero_le T) K.le) hd), fun i o _ _ _ => hL i, ⟨fun _ _ => rfl, Nat.le_refl _, rfl, rfl, rfl⟩, fun i p hi hp => (by rw [K.rel.fresh i hi] at hp; cases hp)⟩⟩
  obtain ⟨⟨μ', w', a', hr, _⟩, hall⟩ := K.facts k hk
  obtain ⟨h1, h2, _⟩ := hall 0 (Nat.zero_le _)
  have e : cut μ0 (hs k).next = μ0 := by
    funext i
    unfold cut
    split
    · rfl
    · exact (K.rel.fresh i (by omega)).symm
  rw [e]
  exact K.rel.init hr h1 h2

/-- The prefix is done: the tail begins. -/
theorem Phase1.turn (K : Known0 P call ops Fs hs vs T μ0 w0 a0) {L : Array Bool} {a : Act} {w : World} {μ : Nat → Option Loc} (S : Slots ops hs vs μ0 a0 L a μ) (I : Phase1 ops hs T μ0 w0 L w μ)
    (hall : ∀ i o, i < T → ops[i]? = some o → heapFree o.op = false → L.getD i false = true) : Phase2 ops hs T μ0 w0 L w μ T := by
  obtain ⟨hn, hget, hw⟩ := (K.facts T (Nat.le_refl _)).2 0 (Nat.zero_le _)
  have e : cut μ (hs T).next = μ := by
    funext i
    unfold cut
    split
    · rfl
    · exact (I.top i (by omega)).symm
  have hr := I.rel T (Nat.le_refl _)
  rw [e] at hr
  refine ⟨Nat.le_refl _, K.le, fun i o ho hf => ⟨fun h => ?_, fun h => hall i o h ho hf⟩, fun d p hp => ?_, fun i hi => S.only i hi, hr, I.idle.os, I.idle.tape, I.idle.output, I.idle.grown, by rw [hw]; exact Nat.le_refl _, hn, fun i _ hi => hget i hi, fun S' N hS hN hμ => ⟨fun b hb => I.idle.still b (by omega), fun i p hi hp => ?_⟩⟩
  · rcases Nat.lt_or_ge i T with h' | h'
    · exact h'
    · rw [I.far i o h' ho hf] at h; cases h
  · exact (cut_some.1 (K.gen.ext0 S.only K.le d p hp)).2
  · rcases Nat.lt_or_ge i (hs 0).next with h | h
    · rw [S.only i h] at hp; exact hμ i p hi hp
    · exact Nat.le_trans hN (I.news i p h hp)

theorem Phase1.idles {L : Array Bool} {w w' : World} {μ : Nat → Option Loc} (I : Phase1 ops hs T μ0 w0 L w μ) (hi : Idle w w') {j : Nat} {o : Oper} (ho : ops[j]? = some o) (hf : heapFree o.op = true) (hLs : j < L.size) :
    Phase1 ops hs T μ0 w0 (L.setIfInBounds j true) w' μ := by
  refine ⟨fun k hk => (I.rel k hk).world hi.still, fun i h1 h2 => I.un i h1 ?_, I.top, fun i oi h1 h2 h3 => ?_, ⟨fun b hb => (hi.still b (Nat.lt_of_lt_of_le hb I.idle.grown)).trans (I.idle.still b hb), Nat.le_trans I.idle.grown hi.grown, hi.os.trans I.idle.os, hi.tape.trans I.idle.tape, hi.output.trans I.idle.output⟩, I.news⟩
  · rw [getD_set hLs] at h2
    split at h2
    · cases h2
    · exact h2
  · rw [getD_set hLs]
    split
    · rename_i e; subst e; rw [ho] at h2; cases h2; rw [hf] at h3; cases h3
    · exact I.far i oi h1 h2 h3

theorem Phase2.idles {L : Array Bool} {w w' : World} {μ : Nat → Option Loc} {j' : Nat} (I : Phase2 ops hs T μ0 w0 L w μ j') (hi : Idle w w') {j : Nat} {o : Oper} (ho : ops[j]? = some o) (hf : heapFree o.op = true) (hLs : j < L.size) :
    Phase2 ops hs T μ0 w0 (L.setIfInBounds j true) w' μ j' := by
  refine ⟨I.ge, I.le, fun i oi h2 h3 => ?_, I.post.trans (Post.idle I.post.rel hi)⟩
  rw [getD_set hLs, if_neg ?_]
  · exact I.listed i oi h2 h3
  · intro e; subst e; rw [ho] at h2; cases h2; rw [hf] at h3; cases h3

/-- An operation that never looks at the heap, whenever it comes. -/
theorem St.free (K : Known P call ops Fs hs vs T μ0 w0 a0) {L : Array Bool} {a : Act} {w : World} (hS : St ops hs vs T μ0 w0 a0 L a w) (hD : Down ops L) {j : Nat} (hj : j < ops.size) (hLj : L.getD j false = false) (hLs : j < L.size) {o : Oper} (ho : ops[j]? = some o)
    (haft : ∀ e, e ∈ o.after.toList → Region.binds .any e = true → L.getD e.on false = true) (hf : heapFree o.op = true) {rd : Option Nat} {n : Nat} {Q : Exit → Act → World → Prop} {C : Act → World → Prop}
    (hC : ∀ a' w', St ops hs vs T μ0 w0 a0 (L.setIfInBounds j true) a' w' → C a' w') : wpOpIn (FNC rd) n P ops Q j C a w := by
  obtain ⟨μ, S, hph⟩ := hS
  obtain ⟨hρ, hfetch⟩ := S.look K hD hj hLj ho haft
  have hmem : o ∈ ops.toList := by rw [Array.mem_toList_iff]; exact Array.mem_of_getElem? ho
  have go : ∀ v' w', Idle w w' → VR (cut μ (hs (j + 1)).next) (vs j) v' → C (a.put o.dst v') w' := fun v' w' hi hv =>
    hC _ _ ⟨μ, S.next K hj hLs ho (.refl _) S.only hv, hph.imp (fun I => I.idles hi ho hf hLs) (fun ⟨j', I⟩ => ⟨j', I.idles hi ho hf hLs⟩)⟩
  obtain ⟨hnx, hst⟩ := K.free hj ho hf
  unfold wpOpIn
  simp only [ho]
  rw [hfetch]
  rcases hst with ⟨hft, hany⟩ | ⟨hft, hv⟩
  · rw [hft, if_pos rfl]
    have hbare := Rel.bare μ (N := (hs j).next) w
    refine opA_wp K.calls (hany _) (K.ok o hmem) hbare hρ fun μ' v' w' hv hp => ?_
    obtain ⟨q1, _⟩ := Post.quiet hbare hp (Nat.le_refl _)
    refine go v' w' ⟨q1, hp.size, hp.os, hp.tape, hp.output⟩ (hv.mono fun x p hx => ?_)
    have hxl : x < (hs j).next := by
      rcases Nat.lt_or_ge x (hs j).next with h | h
      · exact h
      · rw [hp.rel.fresh x h] at hx; cases hx
    rw [hp.only x hxl] at hx
    rw [hnx]; exact hx
  · rw [hft, if_neg (by simp)]
    exact ⟨fun _ _ => trivial, go undef w ⟨fun _ _ => rfl, Nat.le_refl _, rfl, rfl, rfl⟩ (by rw [hv]; exact .undef _)⟩

/-- An operation of the prefix. -/
theorem Phase1.next (K : Known0 P call ops Fs hs vs T μ0 w0 a0) {L : Array Bool} {a : Act} {w : World} {μ : Nat → Option Loc} (S : Slots ops hs vs μ0 a0 L a μ) (I : Phase1 ops hs T μ0 w0 L w μ) {j : Nat} (hj : j < T) (hLj : L.getD j false = false) (hLs : j < L.size) {o : Oper} (ho : ops[j]? = some o)
    {μ' : Nat → Option Loc} {h1 : AHeap} {w' : World} {v' : Value} (hp : Post (cut μ (hs j).next) { hs j with wlow := (hs j).next } w μ' h1 w') (hq : (hs j).next ≤ h1.wlow) (e : hs (j + 1) = { h1 with wlow := (hs j).wlow }) (hv : VR μ' (vs j) v') :
    St ops hs vs T μ0 w0 a0 (L.setIfInBounds j true) (a.put o.dst v') w' := by
  have hTN := K.le
  obtain ⟨q1, q2⟩ := Post.quiet ((I.rel j (by omega)).wlow _) hp hq
  have hB : Rel μ' (hs (j + 1)) w' := by rw [e]; exact hp.rel.wlow _
  have honly : ∀ i, i < (hs j).next → μ' i = μ i := fun i hi => by
    rw [hp.only i hi]; unfold cut; rw [if_pos hi]
  have hun : ∀ i, (hs j).next ≤ i → i < (hs (j + 1)).next → μ i = none := I.un j hj hLj
  generalize hμ2 : (fun i => if (hs j).next ≤ i ∧ i < (hs (j + 1)).next then μ' i else μ i) = μ2
  have m2 : ∀ i, μ2 i = if (hs j).next ≤ i ∧ i < (hs (j + 1)).next then μ' i else μ i := fun i => by rw [← hμ2]
  have ex : Ext μ μ2 := fun i p hi => by
    rw [m2]
    by_cases h : (hs j).next ≤ i ∧ i < (hs (j + 1)).next
    · rw [hun i h.1 h.2] at hi; cases hi
    · rw [if_neg h]; exact hi
  have hjj : (hs j).next ≤ (hs (j + 1)).next := K.nx (Nat.le_succ j) (show j + 1 ≤ ops.size by omega)
  have h0j : (hs 0).next ≤ (hs j).next := K.nx (Nat.zero_le j) (by omega)
  have hjT : (hs (j + 1)).next ≤ (hs T).next := K.nx (show j + 1 ≤ T by omega) K.le
  refine ⟨μ2, S.next K.gen (by omega) hLs ho ex (fun i hi => by rw [m2, if_neg (by omega)]; exact S.only i hi) (hv.mono fun x p hx => ?_), .inl ⟨fun k hk => ?_, fun i hi hL d h1 h2 => ?_, fun d hd => ?_, fun i oi h1 h2 h3 => ?_, ⟨fun b hb => (q1 b (Nat.lt_of_lt_of_le hb I.idle.grown)).trans (I.idle.still b hb), Nat.le_trans I.idle.grown hp.size, hp.os.trans I.idle.os, hp.tape.trans I.idle.tape, hp.output.trans I.idle.output⟩, fun i p hi h => ?_⟩⟩
  · have hxl : x < (hs (j + 1)).next := by
      rcases Nat.lt_or_ge x (hs (j + 1)).next with h | h
      · exact h
      · rw [hB.fresh x h] at hx; cases hx
    refine cut_some.2 ⟨hxl, ?_⟩
    rw [m2]
    by_cases h : (hs j).next ≤ x
    · rw [if_pos ⟨h, hxl⟩]; exact hx
    · rw [if_neg (by omega), ← honly x (by omega)]; exact hx
  · by_cases hkj : k ≤ j
    · have hnk := K.nx hkj (by omega)
      have ec : cut μ2 (hs k).next = cut μ (hs k).next := by
        funext i; unfold cut
        split
        · rw [m2, if_neg (by omega)]
        · rfl
      rw [ec]
      exact (I.rel k hk).world q1
    · have hnk := K.nx (show j + 1 ≤ k by omega) (show k ≤ ops.size by omega)
      have hA := I.rel k hk
      have := Rel.glue (lo := (hs j).next) hA hB (fun i hi => by rw [honly i hi]; unfold cut; rw [if_pos (by omega)])
        (fun i h1 h2 => by unfold cut; rw [if_pos (by omega)]; exact hun i h1 h2) q1 q2 (fun i hi => ((K.facts k hk).2 (j + 1) (by omega)).2.1 i hi) hnk
      have ec : cut μ2 (hs k).next = (fun i => if (hs j).next ≤ i ∧ i < (hs (j + 1)).next then μ' i else cut μ (hs k).next i) := by
        funext i; unfold cut
        by_cases h : (hs j).next ≤ i ∧ i < (hs (j + 1)).next
        · rw [if_pos (by omega), m2, if_pos h, if_pos h]
        · rw [m2, if_neg h, if_neg h]
      rw [ec]; exact this
  · rw [getD_set hLs] at hL
    by_cases eij : i = j
    · rw [if_pos eij] at hL; cases hL
    · rw [if_neg eij] at hL
      rw [m2, if_neg ?_]
      · exact I.un i hi hL d h1 h2
      · rcases Nat.lt_or_ge i j with h | h
        · have := K.nx (show i + 1 ≤ j by omega) (by omega); omega
        · have := K.nx (show j + 1 ≤ i by omega) (by omega); omega
  · rw [m2, if_neg (by omega)]; exact I.top d hd
  · rw [getD_set hLs, if_neg (by omega)]; exact I.far i oi h1 h2 h3
  · rw [m2] at h
    by_cases hh : (hs j).next ≤ i ∧ i < (hs (j + 1)).next
    · rw [if_pos hh] at h
      exact Nat.le_trans I.idle.grown (q2 i p hh.1 h)
    · rw [if_neg hh] at h; exact I.news i p hi h
end
end Go.Ev
