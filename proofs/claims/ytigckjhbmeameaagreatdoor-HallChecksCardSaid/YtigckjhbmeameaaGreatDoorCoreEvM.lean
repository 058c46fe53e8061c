/-
  Part of the engine that the claim is proved with: it states nothing of the document by itself.
-/
import Derived.Test.YtigckjhbmeameaaGreatDoorCoreEvL

namespace Go.Ev
open Go.RowKit

section
variable {P : Program} {call : Call → TypeId → AFrame → AHeap → Option (Value × AHeap)} {ops : Array Oper}

theorem count_step {L : Array Bool} {i fuel : Nat} (hi : i < L.size) (hL : L.getD i false = false) (hc : L.toList.count false ≤ fuel + 1) : (L.setIfInBounds i true).toList.count false ≤ fuel := by
  have hli : L.toList[i]'(by simpa using hi) = false := by
    rw [Array.getD_eq_getD_getElem?, Array.getElem?_eq_getElem hi] at hL; simpa using hL
  rw [Array.toList_setIfInBounds, List.count_set (by simpa using hi), hli]
  simp only [beq_self_eq_true, if_true, show (true == false) = false from rfl, Bool.false_eq_true, if_false]
  omega

theorem count_pos {L : Array Bool} {i : Nat} (hi : i < L.size) (hL : L.getD i false = false) : 0 < L.toList.count false := by
  refine List.count_pos_iff.2 ?_
  rw [Array.getD_eq_getD_getElem?, Array.getElem?_eq_getElem hi] at hL
  simp only [Option.getD_some] at hL
  rw [← hL]; simp

theorem getD_size {L : Array Bool} {i : Nat} (h : L.getD i false = true) : i < L.size := by
  rcases Nat.lt_or_ge i L.size with h' | h'
  · exact h'
  · rw [Array.getD_eq_getD_getElem?, Array.getElem?_eq_none h'] at h; cases h

theorem Down.set {L : Array Bool} (hD : Down ops L) {j : Nat} {o : Oper} (ho : ops[j]? = some o) (hLs : j < L.size) (haft : ∀ e, e ∈ o.after.toList → Region.binds .any e = true → L.getD e.on false = true) : Down ops (L.setIfInBounds j true) := by
  intro k o' hk hko e he hb
  rw [getD_set hLs] at hk ⊢
  split
  · rfl
  · by_cases ekj : k = j
    · subst ekj; rw [ho] at hko; cases hko; exact haft e he hb
    · rw [if_neg ekj] at hk; exact hD k o' hk hko e he hb


variable {Fs : Nat → AFrame} {hs : Nat → AHeap} {vs : Nat → Value} {T : Nat} {μ0 : Nat → Option Loc} {w0 : World} {a0 : Act}

theorem Phase1.step (K : Known0 P call ops Fs hs vs T μ0 w0 a0) {L : Array Bool} {a : Act} {w : World} {μ : Nat → Option Loc} (S : Slots ops hs vs μ0 a0 L a μ) (I : Phase1 ops hs T μ0 w0 L w μ) (hD : Down ops L) {j : Nat} (hj : j < T) (hLj : L.getD j false = false) (hLs : j < L.size) {o : Oper} (ho : ops[j]? = some o)
    (haft : ∀ e, e ∈ o.after.toList → Region.binds .any e = true → L.getD e.on false = true) {rd : Option Nat} {n : Nat} {Q : Exit → Act → World → Prop} {C : Act → World → Prop}
    (hC : ∀ a' w', St ops hs vs T μ0 w0 a0 (L.setIfInBounds j true) a' w' → C a' w') : wpOpIn (FNC rd) n P ops Q j C a w := by
  have hTN := K.le
  obtain ⟨hρ, hfetch⟩ := S.look K.gen hD (by omega) hLj ho haft
  have hmem : o ∈ ops.toList := by rw [Array.mem_toList_iff]; exact Array.mem_of_getElem? ho
  obtain ⟨o', ho', hput, hst⟩ := K.step j hj
  rw [ho] at ho'; cases ho'
  unfold wpOpIn
  simp only [ho]
  rw [hfetch]
  rcases hst with ⟨hf, h1, hop, hq, e⟩ | ⟨hf, hv, e⟩
  · rw [hf, if_pos rfl]
    exact opA_wp K.calls hop (K.ok o hmem) ((I.rel j (by omega)).wlow _) hρ fun μ' v' w' hv hp => hC _ _ (I.next K S hj hLj hLs ho hp hq e hv)
  · rw [hf, if_neg (by simp)]
    have hrj := I.rel j (by omega)
    have htop : (hs j).next ≤ (hs j).next := Nat.le_refl _
    exact ⟨fun _ _ => trivial, hC _ _ (I.next K S hj hLj hLs ho (v' := undef) (Post.refl (hrj.wlow _)) htop (by rw [e]) (by rw [hv]; exact .undef _))⟩

theorem Phase2.step2 (K : Known P call ops Fs hs vs T μ0 w0 a0) {L : Array Bool} {a : Act} {w : World} {μ : Nat → Option Loc} (S : Slots ops hs vs μ0 a0 L a μ) {j' : Nat} (I : Phase2 ops hs T μ0 w0 L w μ j') (hD : Down ops L) {j : Nat} (hj : j < ops.size) (hLj : L.getD j false = false) (hLs : j < L.size) {o : Oper} (ho : ops[j]? = some o)
    (haft : ∀ e, e ∈ o.after.toList → Region.binds .any e = true → L.getD e.on false = true) (hnf : heapFree o.op = false) {rd : Option Nat} {n : Nat} {Q : Exit → Act → World → Prop} {C : Act → World → Prop}
    (hC : ∀ a' w' μ' j', Slots ops hs vs μ0 a0 (L.setIfInBounds j true) a' μ' → Phase2 ops hs T μ0 w0 (L.setIfInBounds j true) w' μ' j' → C a' w') : wpOpIn (FNC rd) n P ops Q j C a w := by
  obtain ⟨hρ, hfetch⟩ := S.look K hD hj hLj ho haft
  have hmem : o ∈ ops.toList := by rw [Array.mem_toList_iff]; exact Array.mem_of_getElem? ho
  have hge : j' ≤ j := by
    rcases Nat.lt_or_ge j j' with h | h
    · have := (I.listed j o ho hnf).2 h; rw [hLj] at this; cases this
    · exact h
  have hTj : T ≤ j := Nat.le_trans I.ge hge
  have hdone : ∀ i oi, i < j → ops[i]? = some oi → heapFree oi.op = false → L.getD i false = true := fun i oi hi hoi hfi =>
    mask_in hD K.edges j o i ho haft (K.forced i j oi o hTj hi hoi ho hnf hfi)
  have hsame : hs j = hs j' := by
    obtain ⟨d, rfl⟩ : ∃ d, j = j' + d := ⟨j - j', by omega⟩
    refine K.same j' d (by omega) fun i oi h1 h2 h3 => ?_
    cases hfi : heapFree oi.op with
    | true => rfl
    | false => have := (I.listed i oi h3 hfi).1 (hdone i oi h2 h3 hfi); omega
  have hpost : Post μ0 (hs 0) w0 μ (hs j) w := by rw [hsame]; exact I.post
  have h0j := K.nx (Nat.zero_le j) (show j ≤ ops.size by omega)
  have hlist : ∀ i oi, ops[i]? = some oi → heapFree oi.op = false → ((L.setIfInBounds j true).getD i false = true ↔ i < j + 1) := fun i oi hoi hfi => by
    rw [getD_set hLs]
    by_cases e : i = j
    · subst e; simp
    · rw [if_neg e, I.listed i oi hoi hfi]
      constructor
      · intro h; omega
      · intro h; exact (I.listed i oi hoi hfi).1 (hdone i oi (by omega) hoi hfi)
  obtain ⟨o', ho', hput, hst⟩ := K.tail j hTj hj
  rw [ho] at ho'; cases ho'
  unfold wpOpIn
  simp only [ho]
  rw [hfetch]
  rcases hst with ⟨hf, hop⟩ | ⟨hf, hv, e⟩
  · rw [hf, if_pos rfl]
    refine opA_wp K.calls hop (K.ok o hmem) hpost.rel (fun x hx => (hρ x hx).mono (cut_ext μ _)) fun μ' v' w' hv hp => ?_
    refine hC _ _ μ' (j + 1) (S.next K hj hLs ho hp.ext (fun i hi => (hp.only i (by omega)).trans (S.only i hi)) (hv.mono fun x p hx => cut_some.2 ⟨?_, hx⟩)) ⟨Nat.le_succ_of_le hTj, hj, hlist, hpost.trans hp⟩
    rcases Nat.lt_or_ge x (hs (j + 1)).next with h | h
    · exact h
    · rw [hp.rel.fresh x h] at hx; cases hx
  · rw [hf, if_neg (by simp)]
    exact ⟨fun _ _ => trivial, hC _ _ μ (j + 1) (S.next K hj hLs ho (.refl _) S.only (by rw [hv]; exact .undef _)) ⟨Nat.le_succ_of_le hTj, hj, hlist, by rw [e]; exact hpost⟩⟩

theorem Phase2.step (K : Known P call ops Fs hs vs T μ0 w0 a0) {L : Array Bool} {a : Act} {w : World} {μ : Nat → Option Loc} (S : Slots ops hs vs μ0 a0 L a μ) {j' : Nat} (I : Phase2 ops hs T μ0 w0 L w μ j') (hD : Down ops L) {j : Nat} (hj : j < ops.size) (hLj : L.getD j false = false) (hLs : j < L.size) {o : Oper} (ho : ops[j]? = some o)
    (haft : ∀ e, e ∈ o.after.toList → Region.binds .any e = true → L.getD e.on false = true) (hnf : heapFree o.op = false) {rd : Option Nat} {n : Nat} {Q : Exit → Act → World → Prop} {C : Act → World → Prop}
    (hC : ∀ a' w', St ops hs vs T μ0 w0 a0 (L.setIfInBounds j true) a' w' → C a' w') : wpOpIn (FNC rd) n P ops Q j C a w := Phase2.step2 K S I hD hj hLj hLs ho haft hnf fun a' w' μ' j' S' I' => hC a' w' ⟨μ', S', .inr ⟨j', I'⟩⟩

theorem any_ok (K : Known0 P call ops Fs hs vs T μ0 w0 a0) (hM : MR μ0 (Fs 0).marks a0.defers)
    {rd : Option Nat} {n : Nat} {Q : Exit → Act → World → Prop} (hQ : ∀ (μ' : Nat → Option Loc) (a' : Act) (w' : World), FR μ' (Fs ops.size) a'.tmps → MR μ' (Fs ops.size).marks a'.defers → Post μ0 (hs 0) w0 μ' (hs ops.size) w' → Q .normal a' w') :
    ∀ (fuel : Nat) (L : Array Bool) (a : Act) (w : World), L.size = ops.size → L.toList.count false ≤ fuel → Down ops L → St ops hs vs T μ0 w0 a0 L a w → wpAnyIn (FNC rd) n P .any ops Q fuel L a w := by
  have nil : ∀ (L : Array Bool) (a : Act) (w : World), L.size = ops.size → St ops hs vs T μ0 w0 a0 L a w → Region.ready .any ops L = [] → Q .normal a w := by
    intro L a w hLs ⟨μ, S, hph⟩ hnil
    have hall := all_listed K.edges hLs hnil
    have hidx : ∀ i o, ops[i]? = some o → i < ops.size := fun i o h => (Array.getElem?_eq_some_iff.1 h).1
    obtain ⟨j, I⟩ : ∃ j, Phase2 ops hs T μ0 w0 L w μ j := by
      rcases hph with I | I
      · exact ⟨T, I.turn K S fun i o _ ho _ => hall i (hidx i o ho)⟩
      · exact I
    have hsame : hs ops.size = hs j := by
      have hle := I.le
      obtain ⟨d, hd⟩ : ∃ d, ops.size = j + d := ⟨ops.size - j, by omega⟩
      rw [hd]
      refine K.gen.same j d (by omega) fun i oi h1 h2 h3 => ?_
      cases hfi : heapFree oi.op with
      | true => rfl
      | false => have := (I.listed i oi h3 hfi).1 (hall i (hidx i oi h3)); omega
    have hpost : Post μ0 (hs 0) w0 μ (hs ops.size) w := by rw [hsame]; exact I.post
    obtain ⟨s1, m1, g1, g2⟩ := K.gen.frame ops.size (Nat.le_refl _)
    refine hQ μ a w ⟨?_, ?_, fun t => ?_⟩ (by rw [m1, S.defers]; exact hM.mono hpost.ext) hpost
    · rw [s1, S.size]; exact K.fr.1
    · rw [s1]; exact K.fr.2.1
    · by_cases hex : ∃ i, i < ops.size ∧ dstOf ops i = some t
      · obtain ⟨i, hi, ht⟩ := hex
        rw [g2 i t hi ht]
        exact (S.put i t hi (hall i hi) ht).mono (cut_ext μ _)
      · rw [g1 t fun i hi ht => hex ⟨i, hi, ht⟩, S.unput t fun i hi _ ht => hex ⟨i, hi, ht⟩]
        exact (K.fr.2.2 t).mono hpost.ext
  intro fuel
  induction fuel with
  | zero =>
    intro L a w hLs hcnt hD hS
    have hnil : Region.ready .any ops L = [] := by
      cases hr : Region.ready .any ops L with
      | nil => rfl
      | cons i r =>
        obtain ⟨o, ho, hLi, _⟩ := mem_ready (ops := ops) (L := L) (i := i) (by rw [hr]; simp)
        have hi : i < L.size := by rw [hLs]; exact (Array.getElem?_eq_some_iff.1 ho).1
        have := count_pos hi (by rw [Array.getD_eq_getD_getElem?, Array.getElem?_eq_getElem hi] at hLi ⊢; simpa using hLi)
        omega
    exact ⟨hnil, nil L a w hLs hS hnil⟩
  | succ fuel ih =>
    intro L a w hLs hcnt hD hS
    refine ⟨nil L a w hLs hS, fun i hi => ?_⟩
    obtain ⟨o, ho, hLt, haft⟩ := mem_ready hi
    have hiN : i < ops.size := (Array.getElem?_eq_some_iff.1 ho).1
    have hLi : L.getD i false = false := by rw [Array.getD_eq_getD_getElem?, Array.getElem?_eq_getElem (by omega)] at hLt ⊢; simpa using hLt
    have hC : ∀ a' w', St ops hs vs T μ0 w0 a0 (L.setIfInBounds i true) a' w' → wpAnyIn (FNC rd) n P .any ops Q fuel (L.setIfInBounds i true) a' w' :=
      fun a' w' hS' => ih _ a' w' (by simpa using hLs) (count_step (by omega) hLi hcnt) (hD.set ho (by omega) haft) hS'
    cases hfree : heapFree o.op with
    | true => exact hS.free K.gen hD hiN hLi (by omega) ho haft hfree hC
    | false =>
      obtain ⟨μ, S, hph⟩ := hS
      rcases hph with I | ⟨j, I⟩
      · by_cases hiT : i < T
        · exact I.step K S hD hiT hLi (by omega) ho haft hC
        · have I2 := I.turn K S fun k ok hk hok hfk => mask_in hD K.edges i o k ho haft (K.forced k i ok o (by omega) (by omega) hok ho hfree hfk)
          exact I2.step K.gen S hD hiN hLi (by omega) ho haft hfree hC
      · exact I.step K.gen S hD hiN hLi (by omega) ho haft hfree hC

theorem tailFrom_le (free : List Bool) (ms : List Nat) : ∀ k, tailFrom free ms k ≤ k
  | 0 => Nat.le_refl _
  | k + 1 => by
    simp only [tailFrom]
    cases forcedB free ms k with
    | true => exact Nat.le_succ_of_le (tailFrom_le free ms k)
    | false => exact Nat.le_refl _

theorem draw_ok (hc : CallOK P call) (hok : ∀ o, o ∈ ops.toList → okOpB o.op = true) {T : Nat} (hTN : T ≤ ops.size) {F F' : AFrame} {h h' : AHeap} (hev : evDraw call P ops (masks ops.toList []) T F h = some (F', h'))
    {μ : Nat → Option Loc} {a : Act} {w : World} (hr : Rel μ h w) (hF : FR μ F a.tmps) (hM : MR μ F.marks a.defers) {rd : Option Nat} {n : Nat} {Q : Exit → Act → World → Prop}
    (hQ : ∀ (μ' : Nat → Option Loc) (a' : Act) (w' : World), FR μ' F' a'.tmps → MR μ' F'.marks a'.defers → Post μ h w μ' h' w' → Q .normal a' w') : wpAnyIn (FNC rd) n P .any ops Q ops.size (Array.replicate ops.size false) a w := by
  unfold evDraw at hev
  cases hd : drawOK ops (masks ops.toList []) T with
  | false => rw [hd] at hev; cases hev
  | true =>
    rw [hd] at hev
    simp only [cond_true] at hev
    split at hev
    · rename_i F1 h1 hpre
      obtain ⟨Fs1, hs1, vs1, e1, e2, e3, e4, hst⟩ := pre_trace (ops.toList.take T) 0 F F1 h h1 (fun i o hi => by
        rw [Nat.zero_add]
        rw [List.getElem?_take] at hi
        split at hi
        · simpa using hi
        · cases hi) hpre
      obtain ⟨Fs2, hs2, vs2, f1, f2, f3, f4, hst2⟩ := tail_trace (ops.toList.drop T) T F1 F' h1 h' (fun i o hi => by
        rw [List.getElem?_drop] at hi
        simpa using hi) hev
      have hlen : (ops.toList.take T).length = T := by simp [hTN]
      have hlen2 : T + (ops.toList.drop T).length = ops.size := by simp; omega
      rw [hlen] at e3 e4 hst
      rw [hlen2] at f3 f4 hst2
      rw [Nat.zero_add] at e3 e4
      simp only [drawOK, Bool.and_eq_true] at hd
      obtain ⟨⟨⟨⟨hed, hdep⟩, hgrd⟩, hnd⟩, htl⟩ := hd
      have hml : (masks ops.toList []).length = ops.size := by
        obtain ⟨r, h1, h2, _⟩ := masks_get ops.toList []
        rw [h1]; simpa using h2
      have zmem : ∀ (j : Nat) (o : Oper), ops[j]? = some o → (o, j) ∈ ops.toList.zipIdx := fun j o ho => by
        rw [List.mem_zipIdx_iff_getElem?]; simpa using ho
      have hfreeD : ∀ (j : Nat) (o : Oper), ops[j]? = some o → (freeOf ops).getD j false = heapFree o.op := fun j o ho => by
        have : ops.toList[j]? = some o := by simpa using ho
        simp [freeOf, List.getD_eq_getElem?_getD, this]
      generalize hFs : (fun j => if j ≤ T then Fs1 j else Fs2 j) = Fs
      generalize hhs : (fun j => if j ≤ T then hs1 j else hs2 j) = hs
      generalize hvs : (fun j => if j < T then vs1 j else vs2 j) = vs
      have aF : ∀ j, j ≤ T → Fs j = Fs1 j := fun j hj => by rw [← hFs]; exact if_pos hj
      have aH : ∀ j, j ≤ T → hs j = hs1 j := fun j hj => by rw [← hhs]; exact if_pos hj
      have bF : ∀ j, T ≤ j → Fs j = Fs2 j := fun j hj => by
        rcases Nat.eq_or_lt_of_le hj with h | h
        · subst h; rw [aF _ (Nat.le_refl _), e3, f1]
        · rw [← hFs]; exact if_neg (by omega)
      have bH : ∀ j, T ≤ j → hs j = hs2 j := fun j hj => by
        rcases Nat.eq_or_lt_of_le hj with h | h
        · subst h; rw [aH _ (Nat.le_refl _), e4, f2]
        · rw [← hhs]; exact if_neg (by omega)
      have aV : ∀ j, j < T → vs j = vs1 j := fun j hj => by rw [← hvs]; exact if_pos hj
      have bV : ∀ j, T ≤ j → vs j = vs2 j := fun j hj => by rw [← hvs]; exact if_neg (by omega)
      have z1 : Fs 0 = F := (aF 0 (Nat.zero_le _)).trans e1
      have z2 : hs 0 = h := (aH 0 (Nat.zero_le _)).trans e2
      have z3 : Fs ops.size = F' := (bF _ hTN).trans f3
      have z4 : hs ops.size = h' := (bH _ hTN).trans f4
      have K : Known0 P call ops Fs hs vs T μ w a := by
        refine ⟨hc, hok, hTN, fun j hj => ?_, fun j hj hjN => ?_, by rw [z2]; exact hr, by rw [z1]; exact hF, fun i j d hij hi => ?_, fun i j oi oj hij hi hj => ?_, fun j oj g b hj hg => ?_, hed, fun i j oi oj hTj hij hi hj hfj hfi => ?_⟩
        · have := hst j (Nat.zero_le _) (by omega)
          unfold StepJ at this ⊢
          rw [aF j (by omega), aF (j + 1) (by omega), aH j (by omega), aH (j + 1) (by omega), aV j hj]
          exact this
        · have := hst2 j hj hjN
          rw [bF j hj, bF (j + 1) (by omega), bH j hj, bH (j + 1) (by omega), bV j hj]
          exact this
        · have := nodup_dst ops.toList hnd i j d hij (by simpa [dstOf] using hi)
          simpa [dstOf] using this
        · have h1 := List.all_eq_true.1 hdep (oj, j) (zmem j oj hj)
          have h2 := List.all_eq_true.1 h1 (oi, i) (zmem i oi hi)
          simp only [Bool.or_eq_true, Bool.not_eq_true'] at h2
          rcases h2 with (h2 | h2) | h2
          · have := Nat.ble_eq_true_of_le hij
            rw [show Nat.blt i j = Nat.ble (i + 1) j from rfl, this] at h2; cases h2
          · exact .inl h2
          · exact .inr h2
        · have h1 := List.all_eq_true.1 hgrd (oj, j) (zmem j oj hj)
          simp only [hg, Bool.and_eq_true] at h1
          exact ⟨Nat.le_of_ble_eq_true h1.1, h1.2⟩
        · have hjN : j < ops.size := (Array.getElem?_eq_some_iff.1 hj).1
          have h1 := List.all_eq_true.1 htl j (by rw [List.mem_range, hml]; exact hjN)
          simp only [Bool.or_eq_true, forcedB] at h1
          rcases h1 with h1 | h1 | h1
          · have : j + 1 ≤ T := Nat.le_of_ble_eq_true h1
            omega
          · rw [hfreeD j oj hj, hfj] at h1; cases h1
          · have h2 := List.all_eq_true.1 h1 i (List.mem_range.2 hij)
            simp only [Bool.or_eq_true] at h2
            rcases h2 with h2 | h2
            · rw [hfreeD i oi hi, hfi] at h2; cases h2
            · exact h2
      have hrep : ∀ i, (Array.replicate ops.size false).getD i false = false := fun i => by
        rw [Array.getD_eq_getD_getElem?, Array.getElem?_replicate]; split <;> rfl
      exact any_ok K (by rw [z1]; exact hM) (by rw [z2, z3, z4]; exact hQ) ops.size _ a w (by simp) (by simp) (fun k o hk => by rw [hrep] at hk; cases hk) (St.init K hrep)
    · cases hev
end
end Go.Ev
