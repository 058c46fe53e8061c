/-
  Part of the engine that the claim is proved with: it states nothing of the document by itself.
-/
import Derived.Test.YtigckjhbmeameaaGreatDoorCoreEvJ

namespace Go.Ev
open Go.RowKit

section
variable {P : Program} {call : Call → TypeId → AFrame → AHeap → Option (Value × AHeap)} {ops : Array Oper}

/-- What the evaluator did with one operation of the tail. -/
def StepT (P : Program) (call : Call → TypeId → AFrame → AHeap → Option (Value × AHeap)) (ops : Array Oper) (j : Nat) (F : AFrame) (h : AHeap) (v : Value) (F1 : AFrame) (h1 : AHeap) : Prop :=
  ∃ o, ops[j]? = some o ∧ F.put o.dst v = some F1 ∧
    ((fetch F ops o = true ∧ opA call P F o.op o.type h = some (v, h1)) ∨ (fetch F ops o = false ∧ v = undef ∧ h1 = h))

theorem tail_trace : ∀ (l : List Oper) (k : Nat) (F F' : AFrame) (h h' : AHeap), (∀ i o, l[i]? = some o → ops[k + i]? = some o) → stepOps call P ops l F h = some (F', h') →
    ∃ (Fs : Nat → AFrame) (hs : Nat → AHeap) (vs : Nat → Value), Fs k = F ∧ hs k = h ∧ Fs (k + l.length) = F' ∧ hs (k + l.length) = h' ∧ ∀ j, k ≤ j → j < k + l.length → StepT P call ops j (Fs j) (hs j) (vs j) (Fs (j + 1)) (hs (j + 1))
  | [], k, F, F', h, h', _, he => by
    simp only [stepOps, Option.some.injEq, Prod.mk.injEq] at he
    obtain ⟨rfl, rfl⟩ := he
    exact ⟨fun _ => F, fun _ => h, fun _ => undef, rfl, rfl, rfl, rfl, fun j h1 h2 => by simp at h2; omega⟩
  | o :: l, k, F, F', h, h', hl, he => by
    have ho : ops[k]? = some o := by simpa using hl 0 o rfl
    have hl' : ∀ i o', l[i]? = some o' → ops[k + 1 + i]? = some o' := fun i o' hi => by
      have := hl (i + 1) o' (by simpa using hi)
      rwa [show k + 1 + i = k + (i + 1) by omega]
    have key : ∀ (v : Value) (F1 : AFrame) (h1 : AHeap), F.put o.dst v = some F1 → stepOps call P ops l F1 h1 = some (F', h') →
        ((fetch F ops o = true ∧ opA call P F o.op o.type h = some (v, h1)) ∨ (fetch F ops o = false ∧ v = undef ∧ h1 = h)) →
        ∃ (Fs : Nat → AFrame) (hs : Nat → AHeap) (vs : Nat → Value), Fs k = F ∧ hs k = h ∧ Fs (k + (o :: l).length) = F' ∧ hs (k + (o :: l).length) = h' ∧ ∀ j, k ≤ j → j < k + (o :: l).length → StepT P call ops j (Fs j) (hs j) (vs j) (Fs (j + 1)) (hs (j + 1)) := by
      intro v F1 h1 hput hrest hst
      obtain ⟨Fs, hs, vs, e1, e2, e3, e4, hj⟩ := tail_trace l (k + 1) F1 F' h1 h' hl' hrest
      refine ⟨fun j => if j = k then F else Fs j, fun j => if j = k then h else hs j, fun j => if j = k then v else vs j, if_pos rfl, if_pos rfl, ?_, ?_, fun j h1' h2' => ?_⟩
      · simp only [List.length_cons]; rw [if_neg (by omega)]; rw [← e3]; congr 1; omega
      · simp only [List.length_cons]; rw [if_neg (by omega)]; rw [← e4]; congr 1; omega
      · by_cases e : j = k
        · subst e
          show StepT P call ops j (if j = j then F else Fs j) (if j = j then h else hs j) (if j = j then v else vs j) (if j + 1 = j then F else Fs (j + 1)) (if j + 1 = j then h else hs (j + 1))
          rw [if_pos rfl, if_pos rfl, if_pos rfl, if_neg (Nat.succ_ne_self j), if_neg (Nat.succ_ne_self j), e1, e2]
          exact ⟨o, ho, hput, hst⟩
        · have hj' := hj j (by omega) (by simp only [List.length_cons] at h2'; omega)
          have e' : ¬ j + 1 = k := by omega
          show StepT P call ops j (if j = k then F else Fs j) (if j = k then h else hs j) (if j = k then v else vs j) (if j + 1 = k then F else Fs (j + 1)) (if j + 1 = k then h else hs (j + 1))
          rw [if_neg e, if_neg e, if_neg e, if_neg e', if_neg e']
          exact hj'
    simp only [stepOps] at he
    cases hf : fetch F ops o with
    | true =>
      rw [hf] at he
      simp only [cond_true] at he
      split at he
      · rename_i v h1 hop
        rw [forceV_eq] at he
        split at he
        · rename_i F1 hput
          exact key v F1 _ hput he (.inl ⟨hf, hop⟩)
        · cases he
      · cases he
    | false =>
      rw [hf] at he
      simp only [cond_false] at he
      split at he
      · rename_i F1 hput
        exact key undef F1 h hput he (.inr ⟨hf, rfl, rfl⟩)
      · cases he

/-- All that is known of the trace: up to T nothing old is turned. -/
structure Known0 (P : Program) (call : Call → TypeId → AFrame → AHeap → Option (Value × AHeap)) (ops : Array Oper) (Fs : Nat → AFrame) (hs : Nat → AHeap) (vs : Nat → Value) (T : Nat) (μ0 : Nat → Option Loc) (w0 : World) (a0 : Act) : Prop where
  calls : CallOK P call
  ok : ∀ o, o ∈ ops.toList → okOpB o.op = true
  le : T ≤ ops.size
  step : ∀ j, j < T → StepJ P call ops Fs hs vs j
  tail : ∀ j, T ≤ j → j < ops.size → StepT P call ops j (Fs j) (hs j) (vs j) (Fs (j + 1)) (hs (j + 1))
  rel : Rel μ0 (hs 0) w0
  fr : FR μ0 (Fs 0) a0.tmps
  ndst : ∀ i j d, i < j → dstOf ops i = some d → dstOf ops j ≠ some d
  dep : ∀ i j oi oj, i < j → ops[i]? = some oi → ops[j]? = some oj → oi.apart ops oj = true ∨ ((masks ops.toList []).getD j 0).testBit i = true
  grd : ∀ j oj g b, ops[j]? = some oj → oj.guard = some (g, b) → g < j ∧ ((masks ops.toList []).getD j 0).testBit g = true
  edges : edgesOK ops.toList 0 = true
  forced : ∀ i j oi oj, T ≤ j → i < j → ops[i]? = some oi → ops[j]? = some oj → heapFree oj.op = false → heapFree oi.op = false → ((masks ops.toList []).getD j 0).testBit i = true

variable {Fs : Nat → AFrame} {hs : Nat → AHeap} {vs : Nat → Value} {T : Nat} {μ0 : Nat → Option Loc} {w0 : World} {a0 : Act}

theorem Known0.put (K : Known0 P call ops Fs hs vs T μ0 w0 a0) (j : Nat) (hj : j < ops.size) : ∃ o, ops[j]? = some o ∧ (Fs j).put o.dst (vs j) = some (Fs (j + 1)) := by
  rcases Nat.lt_or_ge j T with h | h
  · obtain ⟨o, a, b, _⟩ := K.step j h; exact ⟨o, a, b⟩
  · obtain ⟨o, a, b, _⟩ := K.tail j h hj; exact ⟨o, a, b⟩

/-- What never looks at the heap leaves it, and would do the same in each. -/
theorem Known0.free (K : Known0 P call ops Fs hs vs T μ0 w0 a0) {j : Nat} (hj : j < ops.size) {o : Oper} (ho : ops[j]? = some o) (hfree : heapFree o.op = true) : hs (j + 1) = hs j ∧
    ((fetch (Fs j) ops o = true ∧ ∀ H', opA call P (Fs j) o.op o.type H' = some (vs j, H')) ∨ (fetch (Fs j) ops o = false ∧ vs j = undef)) := by
  rcases Nat.lt_or_ge j T with h | h
  · obtain ⟨o', a, b, c⟩ := K.step j h
    rw [ho] at a; cases a
    rcases c with ⟨c1, h2, c2, c3, c4⟩ | ⟨c1, c2, c3⟩
    · obtain ⟨e1, e2⟩ := free_any hfree c2
      exact ⟨by rw [c4, e1], .inl ⟨c1, e2⟩⟩
    · exact ⟨c3, .inr ⟨c1, c2⟩⟩
  · obtain ⟨o', a, b, c⟩ := K.tail j h hj
    rw [ho] at a; cases a
    rcases c with ⟨c1, c2⟩ | ⟨c1, c2, c3⟩
    · obtain ⟨e1, e2⟩ := free_any hfree c2
      exact ⟨e1, .inl ⟨c1, e2⟩⟩
    · exact ⟨c3, .inr ⟨c1, c2⟩⟩

theorem Known0.facts (K : Known0 P call ops Fs hs vs T μ0 w0 a0) (j : Nat) (hj : j ≤ T) : (∃ (μ' : Nat → Option Loc) (w' : World) (a' : Act), Rel μ' (hs j) w' ∧ FR μ' (Fs j) a'.tmps) ∧
      ∀ i, i ≤ j → (hs i).next ≤ (hs j).next ∧ (∀ k, k < (hs i).next → (hs j).get k = (hs i).get k) ∧ (hs j).wlow = (hs i).wlow :=
  trace_facts K.calls K.ok K.step K.rel K.fr j hj

theorem Known0.all (K : Known0 P call ops Fs hs vs T μ0 w0 a0) : ∀ d, T + d ≤ ops.size → (∃ (μ' : Nat → Option Loc) (w' : World) (a' : Act), Rel μ' (hs (T + d)) w' ∧ FR μ' (Fs (T + d)) a'.tmps) ∧ ∀ i, i ≤ T + d → (hs i).next ≤ (hs (T + d)).next
  | 0, _ => ⟨(K.facts T (Nat.le_refl _)).1, fun i hi => ((K.facts T (Nat.le_refl _)).2 i hi).1⟩
  | d + 1, hd => by
    obtain ⟨⟨μ1, w1, a1, hr, hF⟩, hall⟩ := K.all d (by omega)
    obtain ⟨o, ho, hput, h⟩ := K.tail (T + d) (by omega) (by omega)
    have hmem : o ∈ ops.toList := by rw [Array.mem_toList_iff]; exact Array.mem_of_getElem? ho
    rcases h with ⟨_, hop⟩ | ⟨_, hv, e⟩
    · obtain ⟨μ', v', w', hv, hp⟩ := opA_post K.calls hop (K.ok o hmem) hr (fun x hx => evalR hF (okOpB_operands (K.ok o hmem) x hx))
      obtain ⟨hF', _⟩ := FR.put (hF.mono hp.ext) hv hput
      refine ⟨⟨μ', w', a1.put o.dst v', hp.rel, hF'⟩, fun i hi => ?_⟩
      by_cases ei : i = T + (d + 1)
      · subst ei; exact Nat.le_refl _
      · exact Nat.le_trans (hall i (by omega)) hp.nxt
    · rw [hv] at hput
      obtain ⟨hF', _⟩ := FR.put hF (.undef μ1) hput
      have e' : hs (T + (d + 1)) = hs (T + d) := e
      refine ⟨⟨μ1, w1, a1.put o.dst undef, by rw [e']; exact hr, hF'⟩, fun i hi => ?_⟩
      by_cases ei : i = T + (d + 1)
      · subst ei; exact Nat.le_refl _
      · rw [e']; exact hall i (by omega)

theorem Known0.nx (K : Known0 P call ops Fs hs vs T μ0 w0 a0) {i j : Nat} (h : i ≤ j) (hj : j ≤ ops.size) : (hs i).next ≤ (hs j).next := by
  rcases Nat.lt_or_ge j T with h' | h'
  · exact ((K.facts j (by omega)).2 i h).1
  · obtain ⟨d, rfl⟩ : ∃ d, j = T + d := ⟨j - T, by omega⟩
    exact (K.all d hj).2 i h
theorem Known0.relOf (K : Known0 P call ops Fs hs vs T μ0 w0 a0) {j : Nat} (hj : j ≤ ops.size) : ∃ (μ' : Nat → Option Loc) (w' : World), Rel μ' (hs j) w' := by
  rcases Nat.lt_or_ge j T with h' | h'
  · obtain ⟨⟨a, b, _, c, _⟩, _⟩ := K.facts j (by omega); exact ⟨a, b, c⟩
  · obtain ⟨d, rfl⟩ : ∃ d, j = T + d := ⟨j - T, by omega⟩
    obtain ⟨⟨a, b, _, c, _⟩, _⟩ := K.all d hj; exact ⟨a, b, c⟩

/-- What is known of a trace, however it came to be. -/
structure Known (P : Program) (call : Call → TypeId → AFrame → AHeap → Option (Value × AHeap)) (ops : Array Oper) (Fs : Nat → AFrame) (hs : Nat → AHeap) (vs : Nat → Value) (T : Nat) (μ0 : Nat → Option Loc) (w0 : World) (a0 : Act) : Prop where
  calls : CallOK P call
  ok : ∀ o, o ∈ ops.toList → okOpB o.op = true
  le : T ≤ ops.size
  put : ∀ j, j < ops.size → ∃ o, ops[j]? = some o ∧ (Fs j).put o.dst (vs j) = some (Fs (j + 1))
  free : ∀ {j : Nat}, j < ops.size → ∀ {o : Oper}, ops[j]? = some o → heapFree o.op = true → hs (j + 1) = hs j ∧
    ((fetch (Fs j) ops o = true ∧ ∀ H', opA call P (Fs j) o.op o.type H' = some (vs j, H')) ∨ (fetch (Fs j) ops o = false ∧ vs j = undef))
  nx : ∀ {i j : Nat}, i ≤ j → j ≤ ops.size → (hs i).next ≤ (hs j).next
  tail : ∀ j, T ≤ j → j < ops.size → StepT P call ops j (Fs j) (hs j) (vs j) (Fs (j + 1)) (hs (j + 1))
  rel : Rel μ0 (hs 0) w0
  fr : FR μ0 (Fs 0) a0.tmps
  ndst : ∀ i j d, i < j → dstOf ops i = some d → dstOf ops j ≠ some d
  dep : ∀ i j oi oj, i < j → ops[i]? = some oi → ops[j]? = some oj → oi.apart ops oj = true ∨ ((masks ops.toList []).getD j 0).testBit i = true
  grd : ∀ j oj g b, ops[j]? = some oj → oj.guard = some (g, b) → g < j ∧ ((masks ops.toList []).getD j 0).testBit g = true
  edges : edgesOK ops.toList 0 = true
  forced : ∀ i j oi oj, T ≤ j → i < j → ops[i]? = some oi → ops[j]? = some oj → heapFree oj.op = false → heapFree oi.op = false → ((masks ops.toList []).getD j 0).testBit i = true

theorem Known0.gen (K : Known0 P call ops Fs hs vs T μ0 w0 a0) : Known P call ops Fs hs vs T μ0 w0 a0 :=
  ⟨K.calls, K.ok, K.le, K.put, fun hj _ ho hf => K.free hj ho hf, fun h hj => K.nx h hj, K.tail, K.rel, K.fr, K.ndst, K.dep, K.grd, K.edges, K.forced⟩

theorem Known.frame (K : Known P call ops Fs hs vs T μ0 w0 a0) : ∀ j, j ≤ ops.size → (Fs j).size = (Fs 0).size ∧ (Fs j).marks = (Fs 0).marks ∧
      (∀ t, (∀ i, i < j → dstOf ops i ≠ some t) → (Fs j).get t = (Fs 0).get t) ∧ (∀ i t, i < j → dstOf ops i = some t → (Fs j).get t = vs i) := by
  intro j
  induction j with
  | zero => exact fun _ => ⟨rfl, rfl, fun _ _ => rfl, fun i t hi => by omega⟩
  | succ j ih =>
    intro hj
    obtain ⟨s1, m1, g1, g2⟩ := ih (by omega)
    obtain ⟨o, ho, hput⟩ := K.put j (by omega)
    obtain ⟨s2, m2, g3⟩ := put_get hput (by rw [s1]; exact K.fr.2.1)
    have hdj : dstOf ops j = o.dst := by simp [dstOf, ho]
    refine ⟨s2.trans s1, m2.trans m1, fun t ht => ?_, fun i t hi ht => ?_⟩
    · rw [g3, if_neg (by rw [← hdj]; exact ht j (by omega))]
      exact g1 t fun i hi => ht i (by omega)
    · rw [g3]
      by_cases e : i = j
      · subst e; rw [if_pos (by rw [← hdj]; exact ht)]
      · rw [if_neg (by rw [← hdj]; exact K.ndst i j t (by omega) ht)]
        exact g2 i t (by omega) ht

/-- The slots, with the operations of L done. -/
structure Slots (ops : Array Oper) (hs : Nat → AHeap) (vs : Nat → Value) (μ0 : Nat → Option Loc) (a0 : Act) (L : Array Bool) (a : Act) (μ : Nat → Option Loc) : Prop where
  only : ∀ i, i < (hs 0).next → μ i = μ0 i
  put : ∀ i d, i < ops.size → L.getD i false = true → dstOf ops i = some d → VR (cut μ (hs (i + 1)).next) (vs i) (a.tmps.getD d undef)
  unput : ∀ d, (∀ i, i < ops.size → L.getD i false = true → dstOf ops i ≠ some d) → a.tmps.getD d undef = a0.tmps.getD d undef
  size : a.tmps.size = a0.tmps.size
  defers : a.defers = a0.defers

theorem Slots.next (K : Known P call ops Fs hs vs T μ0 w0 a0) {L : Array Bool} {a : Act} {μ μ2 : Nat → Option Loc} (S : Slots ops hs vs μ0 a0 L a μ) {j : Nat} (hj : j < ops.size) (hLs : j < L.size) {o : Oper} (ho : ops[j]? = some o)
    (ex : Ext μ μ2) (ho2 : ∀ i, i < (hs 0).next → μ2 i = μ0 i) {v' : Value} (hv : VR (cut μ2 (hs (j + 1)).next) (vs j) v') : Slots ops hs vs μ0 a0 (L.setIfInBounds j true) (a.put o.dst v') μ2 := by
  have hdj : dstOf ops j = o.dst := by simp [dstOf, ho]
  refine ⟨ho2, fun i d hi hL hd => ?_, fun d hd => ?_, by rw [put_defers.2]; exact S.size, by rw [put_defers.1]; exact S.defers⟩
  · rw [put_getD]
    by_cases eij : i = j
    · subst eij
      have hod : o.dst = some d := by rw [← hdj]; exact hd
      have hsz : d < a.tmps.size := by
        rw [S.size]
        obtain ⟨s1, _⟩ := K.frame i (by omega)
        rw [← K.fr.1, ← s1]
        obtain ⟨o', ho', hput⟩ := K.put i hi
        rw [ho] at ho'; cases ho'
        rw [hod] at hput
        simp only [AFrame.put] at hput
        cases hlt : Nat.blt d (Fs i).size with
        | false => rw [hlt] at hput; cases hput
        | true => exact Nat.le_of_ble_eq_true hlt
      rw [if_pos ⟨hod, hsz⟩]
      exact hv
    · rw [getD_set hLs, if_neg eij] at hL
      have hne : ¬ (o.dst = some d ∧ d < a.tmps.size) := fun h => by
        rw [← hdj] at h
        rcases Nat.lt_or_gt_of_ne eij with h' | h'
        · exact K.ndst i j d h' hd h.1
        · exact K.ndst j i d h' h.1 hd
      rw [if_neg hne]
      refine (S.put i d hi hL hd).mono fun x p hx => ?_
      obtain ⟨b1, b2⟩ := cut_some.1 hx
      exact cut_some.2 ⟨b1, ex x p b2⟩
  · have hnj : ¬ (o.dst = some d ∧ d < a.tmps.size) := fun h => hd j hj (by rw [getD_set hLs, if_pos rfl]) (by rw [hdj]; exact h.1)
    rw [put_getD, if_neg hnj]
    refine S.unput d fun i hi hL => hd i hi ?_
    rw [getD_set hLs]; split
    · rfl
    · exact hL

theorem Known.ext0 (K : Known P call ops Fs hs vs T μ0 w0 a0) {μ : Nat → Option Loc} (h : ∀ i, i < (hs 0).next → μ i = μ0 i) {j : Nat} (hj : j ≤ ops.size) : Ext μ0 (cut μ (hs j).next) := fun d p hp => by
  have hd : d < (hs 0).next := by
    rcases Nat.lt_or_ge d (hs 0).next with h | h
    · exact h
    · rw [K.rel.fresh d h] at hp; cases hp
  exact cut_some.2 ⟨Nat.lt_of_lt_of_le hd (K.nx (Nat.zero_le j) hj), (h d hd).trans hp⟩

/-- An operation whose turn has come sees what the evaluator saw. -/
theorem Slots.look (K : Known P call ops Fs hs vs T μ0 w0 a0) {L : Array Bool} {a : Act} {μ : Nat → Option Loc} (S : Slots ops hs vs μ0 a0 L a μ) (hD : Down ops L) {j : Nat} (hj : j < ops.size) (hLj : L.getD j false = false) {o : Oper} (ho : ops[j]? = some o)
    (haft : ∀ e, e ∈ o.after.toList → Region.binds .any e = true → L.getD e.on false = true) :
    (∀ x, x ∈ o.op.operands.toList → VR (cut μ (hs j).next) (aeval (Fs j) x) (a.eval x)) ∧ Region.wanted o (yielded ops a.tmps) = fetch (Fs j) ops o := by
  have hbef : ∀ i, ((masks ops.toList []).getD j 0).testBit i = true → L.getD i false = true := fun i hb => mask_in hD K.edges j o i ho haft hb
  obtain ⟨_, _, g1, g2⟩ := K.frame j (by omega)
  have hmem : o ∈ ops.toList := by rw [Array.mem_toList_iff]; exact Array.mem_of_getElem? ho
  have ext0 := K.ext0 S.only (show j ≤ ops.size by omega)
  have hslot : ∀ i t, i < j → dstOf ops i = some t → L.getD i false = true → VR (cut μ (hs j).next) ((Fs j).get t) (a.tmps.getD t undef) := fun i t hi ht hL => by
    rw [g2 i t hi ht]
    exact (S.put i t (by omega) hL ht).mono (cut_mono μ (K.nx (show i + 1 ≤ j by omega) (by omega)))
  refine ⟨fun x hx => ?_, fetch_eq' (μ := cut μ (hs j).next) fun g b d hg hd => ?_⟩
  · have hokx := okOpB_operands (K.ok o hmem) x hx
    cases x with
    | const v => exact (evalR K.fr hokx).mono ext0
    | global g => simp [okOperand] at hokx
    | func f => exact (evalR K.fr hokx).mono ext0
    | tmp t =>
      have hlook : t ∈ o.looksAt ops := List.mem_append_left _ (List.mem_filterMap.2 ⟨.tmp t, hx, rfl⟩)
      show VR _ ((Fs j).get t) (a.tmps.getD t undef)
      by_cases hex : ∃ i, i < j ∧ dstOf ops i = some t
      · obtain ⟨i, hi, ht⟩ := hex
        cases hoi : ops[i]? with
        | none => simp [dstOf, hoi] at ht
        | some oi =>
          have hdi : oi.dst = some t := by simpa [dstOf, hoi] using ht
          rcases K.dep i j oi o hi hoi ho with h | h
          · exact absurd hlook ((Oper.apart_spec h).1 t hdi)
          · exact hslot i t hi ht (hbef i h)
      · have hno : ∀ i, i < j → dstOf ops i ≠ some t := fun i hi ht => hex ⟨i, hi, ht⟩
        rw [g1 t hno, S.unput t ?_]
        · exact (K.fr.2.2 t).mono ext0
        · intro i hi hL ht
          rcases Nat.lt_trichotomy i j with h | h | h
          · exact hno i h ht
          · subst h; rw [hLj] at hL; cases hL
          · cases hoi : ops[i]? with
            | none => simp [dstOf, hoi] at ht
            | some oi =>
              have hdi : oi.dst = some t := by simpa [dstOf, hoi] using ht
              rcases K.dep j i o oi h ho hoi with h' | h'
              · exact absurd hlook ((Oper.apart_spec h').2.2 t hdi)
              · have := mask_in hD K.edges i oi j hoi (fun e he hb => hD i oi hL hoi e he hb) h'
                rw [hLj] at this; cases this
  · obtain ⟨h1, h2⟩ := K.grd j o g b ho hg
    exact hslot g d h1 hd (hbef g h2)
end
end Go.Ev
