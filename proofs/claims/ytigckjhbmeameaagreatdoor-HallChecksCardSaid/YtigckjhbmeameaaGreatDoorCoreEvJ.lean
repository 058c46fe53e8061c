/-
  Part of the engine that the claim is proved with: it states nothing of the document by itself.
-/
import Derived.Test.YtigckjhbmeameaaGreatDoorCoreEvF

namespace Go.Ev
open Go.RowKit

section
variable {P : Program} {call : Call → TypeId → AFrame → AHeap → Option (Value × AHeap)} {ops : Array Oper}

theorem flatVal_any {s : Sem Value} {H H1 : AHeap} {v : Value} (h : flatVal P s H = some (v, H1)) : H1 = H ∧ ∀ H', flatVal P s H' = some (v, H') := by
  unfold flatVal at h ⊢
  cases hs : s.val? P with
  | none => rw [hs] at h; cases h
  | some u =>
    rw [hs] at h
    simp only at h ⊢
    cases hf : Ev.flat u with
    | false => rw [hf] at h; cases h
    | true => rw [hf] at h; simp only [cond_true, Option.some.injEq, Prod.mk.injEq] at h; obtain ⟨rfl, rfl⟩ := h; exact ⟨rfl, fun _ => rfl⟩
theorem valA_any {x : Option Value} {H H1 : AHeap} {v : Value} (h : valA x H = some (v, H1)) : H1 = H ∧ ∀ H', valA x H' = some (v, H') := by
  cases x with
  | none => cases h
  | some u => simp only [valA, Option.some.injEq, Prod.mk.injEq] at h; obtain ⟨rfl, rfl⟩ := h; exact ⟨rfl, fun _ => rfl⟩
theorem cond_any {b : Bool} {f : AHeap → Option (Value × AHeap)} {H H1 : AHeap} {v : Value} (h : cond b (f H) none = some (v, H1)) (hf : f H = some (v, H1) → H1 = H ∧ ∀ H', f H' = some (v, H')) : H1 = H ∧ ∀ H', cond b (f H') none = some (v, H') := by
  cases b with
  | false => cases h
  | true => exact hf h

/-- What never looks at the heap does the same in each. -/
theorem free_any {o : Op} (ho : heapFree o = true) {F : AFrame} {t : TypeId} {H H1 : AHeap} {v : Value} (h : opA call P F o t H = some (v, H1)) : H1 = H ∧ ∀ H', opA call P F o t H' = some (v, H') := by
  cases o <;> simp only [heapFree, Bool.false_eq_true] at ho
  case move x => simp only [opA, moveA, Option.some.injEq, Prod.mk.injEq] at h ⊢; obtain ⟨rfl, rfl⟩ := h; simp
  case assign x => simp only [opA, moveA, Option.some.injEq, Prod.mk.injEq] at h ⊢; obtain ⟨rfl, rfl⟩ := h; simp
  case pick c a b =>
    simp only [opA] at h ⊢
    cases hc : aeval F c with
    | bool t => rw [hc] at h; simp only [pickA, Option.some.injEq, Prod.mk.injEq] at h ⊢; obtain ⟨rfl, rfl⟩ := h; simp
    | _ => rw [hc] at h; cases h
  case extract x ix =>
    simp only [opA] at h ⊢
    cases hc : aeval F x with
    | tuple vs => rw [hc] at h; exact valA_any h
    | _ => rw [hc] at h; cases h
  case field t x f =>
    simp only [opA] at h ⊢
    unfold fieldO at h ⊢
    split at h
    · exact valA_any h
    · cases h
  case index t x ix =>
    simp only [opA] at h ⊢
    unfold indexO at h ⊢
    split at h
    · split at h
      · split at h
        · exact cond_any (f := fun H => valA _ H) h valA_any
        · cases h
      · cases h
    · exact flatVal_any h
    · cases h
  case unOp op t x => simp only [opA] at h ⊢; exact cond_any (f := fun H => flatVal P _ H) h flatVal_any
  case binOp op t x y z =>
    simp only [opA] at h ⊢
    unfold binA at h ⊢
    split at h
    · split at h
      · rename_i k a k' b _ _ v' hv
        simp only [Option.some.injEq, Prod.mk.injEq] at h
        obtain ⟨rfl, rfl⟩ := h
        exact ⟨rfl, fun _ => by simp_all⟩
      · rename_i hv
        obtain ⟨h1, h2⟩ := flatVal_any h
        exact ⟨h1, fun H' => by simpa [hv] using h2 H'⟩
    · split at h
      · rename_i v' hv
        simp only [Option.some.injEq, Prod.mk.injEq] at h
        obtain ⟨rfl, rfl⟩ := h
        exact ⟨rfl, fun _ => by simp_all⟩
      · rename_i hv
        obtain ⟨h1, h2⟩ := cond_any (f := fun H => flatVal P _ H) h flatVal_any
        exact ⟨h1, fun H' => by simpa [hv] using h2 H'⟩
end
end Go.Ev
