/-
  Part of the engine that the claim is proved with: it states nothing of the document by itself.
-/
import Derived.Test.YtigckjhbmeameaaGreatDoorCoreEvD

namespace Go.Ev
open Go.RowKit

section
variable {P : Program} {call : Call → TypeId → AFrame → AHeap → Option (Value × AHeap)} {ops : Array Oper}

theorem put_get {F F' : AFrame} {d : Option Tmp} {v : Value} (h : F.put d v = some F') (ht : F.size ≤ TOP) : F'.size = F.size ∧ F'.marks = F.marks ∧ ∀ t, F'.get t = if d = some t then v else F.get t := by
  cases d with
  | none => simp only [AFrame.put, Option.some.injEq] at h; subst h; exact ⟨rfl, rfl, fun t => by simp⟩
  | some d =>
    simp only [AFrame.put] at h
    cases hlt : Nat.blt d F.size with
    | false => rw [hlt] at h; cases h
    | true =>
      rw [hlt] at h
      have hlt' : d + 1 ≤ F.size := Nat.le_of_ble_eq_true hlt
      simp only [cond_true, Option.some.injEq] at h
      subst h
      refine ⟨rfl, rfl, fun t => ?_⟩
      rw [AFrame.get_eq]
      simp only [T.get_set40 (some v) F.t d t (Nat.le_trans (Nat.le_of_lt hlt') ht)]
      by_cases e : t = d
      · subst e; simp
      · have e' : ¬ d = t := fun x => e x.symm
        simp [e, e', AFrame.get_eq]

/-- What the evaluator did with one operation. -/
def StepV (P : Program) (call : Call → TypeId → AFrame → AHeap → Option (Value × AHeap)) (ops : Array Oper) (j : Nat) (F : AFrame) (h : AHeap) (v : Value) (F1 : AFrame) (h1 : AHeap) : Prop :=
  ∃ o, ops[j]? = some o ∧ F.put o.dst v = some F1 ∧
    ((fetch F ops o = true ∧ ∃ h2, opA call P F o.op o.type { h with wlow := h.next } = some (v, h2) ∧ h.next ≤ h2.wlow ∧ h1 = { h2 with wlow := h.wlow }) ∨
     (fetch F ops o = false ∧ v = undef ∧ h1 = h))
def StepJ (P : Program) (call : Call → TypeId → AFrame → AHeap → Option (Value × AHeap)) (ops : Array Oper) (Fs : Nat → AFrame) (hs : Nat → AHeap) (vs : Nat → Value) (j : Nat) : Prop :=
  StepV P call ops j (Fs j) (hs j) (vs j) (Fs (j + 1)) (hs (j + 1))

theorem pre_trace : ∀ (l : List Oper) (k : Nat) (F F' : AFrame) (h h' : AHeap), (∀ i o, l[i]? = some o → ops[k + i]? = some o) → preOps call P ops l F h = some (F', h') →
    ∃ Fs hs vs, Fs k = F ∧ hs k = h ∧ Fs (k + l.length) = F' ∧ hs (k + l.length) = h' ∧ ∀ j, k ≤ j → j < k + l.length → StepJ P call ops Fs hs vs j
  | [], k, F, F', h, h', _, he => by
    simp only [preOps, Option.some.injEq, Prod.mk.injEq] at he
    obtain ⟨rfl, rfl⟩ := he
    exact ⟨fun _ => F, fun _ => h, fun _ => undef, rfl, rfl, rfl, rfl, fun j h1 h2 => by simp at h2; omega⟩
  | o :: l, k, F, F', h, h', hl, he => by
    have ho : ops[k]? = some o := by simpa using hl 0 o rfl
    have hl' : ∀ i o', l[i]? = some o' → ops[k + 1 + i]? = some o' := fun i o' hi => by
      have := hl (i + 1) o' (by simpa using hi)
      rwa [show k + 1 + i = k + (i + 1) by omega]
    have key : ∀ (v : Value) (F1 : AFrame) (h1 : AHeap), F.put o.dst v = some F1 → preOps call P ops l F1 h1 = some (F', h') →
        ((fetch F ops o = true ∧ ∃ h2, opA call P F o.op o.type { h with wlow := h.next } = some (v, h2) ∧ h.next ≤ h2.wlow ∧ h1 = { h2 with wlow := h.wlow }) ∨ (fetch F ops o = false ∧ v = undef ∧ h1 = h)) →
        ∃ Fs hs vs, Fs k = F ∧ hs k = h ∧ Fs (k + (o :: l).length) = F' ∧ hs (k + (o :: l).length) = h' ∧ ∀ j, k ≤ j → j < k + (o :: l).length → StepJ P call ops Fs hs vs j := by
      intro v F1 h1 hput hrest hst
      obtain ⟨Fs, hs, vs, e1, e2, e3, e4, hj⟩ := pre_trace l (k + 1) F1 F' h1 h' hl' hrest
      refine ⟨fun j => if j = k then F else Fs j, fun j => if j = k then h else hs j, fun j => if j = k then v else vs j, if_pos rfl, if_pos rfl, ?_, ?_, fun j h1' h2' => ?_⟩
      · simp only [List.length_cons]; rw [if_neg (by omega)]; rw [← e3]; congr 1; omega
      · simp only [List.length_cons]; rw [if_neg (by omega)]; rw [← e4]; congr 1; omega
      · by_cases e : j = k
        · subst e
          show StepV P call ops j (if j = j then F else Fs j) (if j = j then h else hs j) (if j = j then v else vs j) (if j + 1 = j then F else Fs (j + 1)) (if j + 1 = j then h else hs (j + 1))
          rw [if_pos rfl, if_pos rfl, if_pos rfl, if_neg (Nat.succ_ne_self j), if_neg (Nat.succ_ne_self j), e1, e2]
          exact ⟨o, ho, hput, hst⟩
        · have hj' := hj j (by omega) (by simp only [List.length_cons] at h2'; omega)
          have e' : ¬ j + 1 = k := by omega
          show StepV P call ops j (if j = k then F else Fs j) (if j = k then h else hs j) (if j = k then v else vs j) (if j + 1 = k then F else Fs (j + 1)) (if j + 1 = k then h else hs (j + 1))
          rw [if_neg e, if_neg e, if_neg e, if_neg e', if_neg e']
          exact hj'
    simp only [preOps] at he
    cases hf : fetch F ops o with
    | true =>
      rw [hf] at he
      simp only [cond_true] at he
      split at he
      · rename_i v h1 hop
        cases hq : Nat.ble h.next h1.wlow with
        | false => rw [hq] at he; simp at he
        | true =>
          rw [hq] at he
          simp only [cond_true] at he
          rw [forceV_eq] at he
          split at he
          · rename_i F1 hput
            exact key v F1 _ hput he (.inl ⟨hf, h1, hop, Nat.le_of_ble_eq_true hq, rfl⟩)
          · cases he
      · cases he
    | false =>
      rw [hf] at he
      simp only [cond_false] at he
      split at he
      · rename_i F1 hput
        exact key undef F1 h hput he (.inr ⟨hf, rfl, rfl⟩)
      · cases he

/-- One step of the trace, from a state of the program's. -/
theorem step_post (hc : CallOK P call) (hok : ∀ o, o ∈ ops.toList → okOpB o.op = true) {Fs : Nat → AFrame} {hs : Nat → AHeap} {vs : Nat → Value} {j : Nat} (hst : StepJ P call ops Fs hs vs j) {μ : Nat → Option Loc} {w : World} {a : Act}
    (hr : Rel μ (hs j) w) (hF : FR μ (Fs j) a.tmps) : ∃ (μ' : Nat → Option Loc) (w' : World) (a' : Act), Rel μ' (hs (j + 1)) w' ∧ FR μ' (Fs (j + 1)) a'.tmps ∧ (hs j).next ≤ (hs (j + 1)).next ∧ (∀ i, i < (hs j).next → (hs (j + 1)).get i = (hs j).get i) ∧ (hs (j + 1)).wlow = (hs j).wlow := by
  obtain ⟨o, ho, hput, h⟩ := hst
  have hmem : o ∈ ops.toList := by rw [Array.mem_toList_iff]; exact Array.mem_of_getElem? ho
  rcases h with ⟨_, h1, hop, hq, e⟩ | ⟨_, hv, e⟩
  · obtain ⟨μ', v', w', hv, hp⟩ := opA_post hc hop (hok o hmem) (hr.wlow _) (fun x hx => evalR hF (okOpB_operands (hok o hmem) x hx))
    obtain ⟨hF', _⟩ := FR.put (hF.mono hp.ext) hv hput
    refine ⟨μ', w', a.put o.dst v', ?_, hF', ?_, ?_, ?_⟩
    · rw [e]; exact hp.rel.wlow _
    · rw [e]; exact hp.nxt
    · intro i hi; rw [e]; exact hp.old i (Nat.lt_of_lt_of_le hi hq) hi
    · rw [e]
  · rw [hv] at hput
    obtain ⟨hF', _⟩ := FR.put hF (.undef μ) hput
    exact ⟨μ, w, a.put o.dst undef, by rw [e]; exact hr, hF', by rw [e]; exact Nat.le_refl _, fun i _ => by rw [e], by rw [e]⟩

theorem trace_facts (hc : CallOK P call) (hok : ∀ o, o ∈ ops.toList → okOpB o.op = true) {Fs : Nat → AFrame} {hs : Nat → AHeap} {vs : Nat → Value} {T : Nat} (hst : ∀ j, j < T → StepJ P call ops Fs hs vs j) {μ : Nat → Option Loc} {w : World} {a : Act}
    (hr : Rel μ (hs 0) w) (hF : FR μ (Fs 0) a.tmps) : ∀ j, j ≤ T → (∃ (μ' : Nat → Option Loc) (w' : World) (a' : Act), Rel μ' (hs j) w' ∧ FR μ' (Fs j) a'.tmps) ∧
      ∀ i, i ≤ j → (hs i).next ≤ (hs j).next ∧ (∀ k, k < (hs i).next → (hs j).get k = (hs i).get k) ∧ (hs j).wlow = (hs i).wlow := by
  intro j
  induction j with
  | zero =>
    refine fun _ => ⟨⟨μ, w, a, hr, hF⟩, fun i hi => ?_⟩
    have h0 : i = 0 := by omega
    subst h0; exact ⟨Nat.le_refl _, fun _ _ => rfl, rfl⟩
  | succ j ih =>
    intro hj
    obtain ⟨⟨μ1, w1, a1, hr1, hF1⟩, hall⟩ := ih (by omega)
    obtain ⟨μ', w', a', hr', hF', hn, hget, hw⟩ := step_post hc hok (hst j (by omega)) hr1 hF1
    refine ⟨⟨μ', w', a', hr', hF'⟩, fun i hi => ?_⟩
    by_cases e : i = j + 1
    · subst e; exact ⟨Nat.le_refl _, fun _ _ => rfl, rfl⟩
    · obtain ⟨b1, b2, b3⟩ := hall i (by omega)
      exact ⟨Nat.le_trans b1 hn, fun k hk => (hget k (Nat.lt_of_lt_of_le hk b1)).trans (b2 k hk), hw.trans b3⟩

/-- The frame of the trace. -/
theorem trace_frame {Fs : Nat → AFrame} {hs : Nat → AHeap} {vs : Nat → Value} {T : Nat} (hst : ∀ j, j < T → StepJ P call ops Fs hs vs j) (hsz : (Fs 0).size ≤ TOP)
    (hnd : ∀ i j d, i < j → dstOf ops i = some d → dstOf ops j ≠ some d) : ∀ j, j ≤ T → (Fs j).size = (Fs 0).size ∧ (Fs j).marks = (Fs 0).marks ∧
      (∀ t, (∀ i, i < j → dstOf ops i ≠ some t) → (Fs j).get t = (Fs 0).get t) ∧ (∀ i t, i < j → dstOf ops i = some t → (Fs j).get t = vs i) := by
  intro j
  induction j with
  | zero => exact fun _ => ⟨rfl, rfl, fun _ _ => rfl, fun i t hi => by omega⟩
  | succ j ih =>
    intro hj
    obtain ⟨s1, m1, g1, g2⟩ := ih (by omega)
    obtain ⟨o, ho, hput, _⟩ := hst j (by omega)
    obtain ⟨s2, m2, g3⟩ := put_get hput (by rw [s1]; exact hsz)
    have hdj : dstOf ops j = o.dst := by simp [dstOf, ho]
    refine ⟨s2.trans s1, m2.trans m1, fun t ht => ?_, fun i t hi ht => ?_⟩
    · rw [g3, if_neg (by rw [← hdj]; exact ht j (by omega))]
      exact g1 t fun i hi => ht i (by omega)
    · rw [g3]
      by_cases e : i = j
      · subst e; rw [if_pos (by rw [← hdj]; exact ht)]
      · rw [if_neg (by rw [← hdj]; exact hnd i j t (by omega) ht)]
        exact g2 i t (by omega) ht

theorem nodup_dst : ∀ (l : List Oper), nodupB (l.map (·.dst)) = true → ∀ (i j : Nat) (d : Tmp), i < j → (l[i]?).bind (fun o : Oper => o.dst) = some d → (l[j]?).bind (fun o : Oper => o.dst) ≠ some d
  | [], _, i, j, d, _, hi => by simp at hi
  | o :: l, h, i, j, d, hij, hi => by
    cases j with
    | zero => omega
    | succ j =>
      have hl : nodupB (l.map (·.dst)) = true := by
        simp only [List.map_cons] at h
        cases hd : o.dst with
        | none => rw [hd] at h; exact h
        | some d' => rw [hd] at h; simp only [nodupB, Bool.and_eq_true] at h; exact h.2
      cases i with
      | succ i => simpa using nodup_dst l hl i j d (by omega) (by simpa using hi)
      | zero =>
        simp only [List.getElem?_cons_zero, Option.bind_some] at hi
        simp only [List.map_cons, hi, nodupB, Bool.and_eq_true, Bool.not_eq_true'] at h
        simp only [List.getElem?_cons_succ]
        intro hj
        have hmem : some d ∈ l.map (·.dst) := by
          cases hlj : l[j]? with
          | none => rw [hlj] at hj; cases hj
          | some o' =>
            rw [hlj] at hj
            exact List.mem_map.2 ⟨o', List.mem_of_getElem? hlj, hj⟩
        have : (l.map (·.dst)).contains (some d) = true := by simpa using hmem
        rw [this] at h; cases h.1
end
end Go.Ev
