/-
  Part of the engine that the claim is proved with: it states nothing of the document by itself.
-/
import Derived.Test.YtehipkhbnhagbaaGreatDoorCoreNumCard
namespace Go.Proofs.YtehipkhbnhagbaaGreatDoor
open Go Go.ChangeShapes Go.WideShapes Go.ChangeAt Go.RowKit
theorem and_t {a b : Bool} (ha : a = true) (hb : b = true) : (a && b) = true := by rw [ha, hb]; rfl
set_option maxRecDepth 100000 in
set_option maxHeartbeats 40000000 in
theorem hallNumbers_facts : joinedFacts Tryz.pinned.checked.prog 16 Tryz.f16 Rows.hallNumbersSpec Rows.hallNumbersRow = true := by
  unfold joinedFacts
  repeat' with_reducible refine and_t ?_ ?_
  all_goals as_aux_lemma => kernel_rfl
#print axioms hallNumbers_facts
theorem hallNumbers_named : Tryz.pinned.checked.prog.funcNamed Rows.hallNumbersRow.func = some 16 := by kernel_rfl
theorem hallNumbers_inst : Tryz.f16.isInstance Tryz.pinned.checked.prog Rows.hallNumbersRow.origin Rows.hallNumbersRow.targs := of_decide_eq_true (by kernel_rfl)
theorem hallNumbers_wrap : Tryz.f16.isWrapper Tryz.pinned.checked.prog Rows.hallNumbersRow.wrapper Rows.hallNumbersRow.mainSum := by
  unfold Func.isWrapper
  first | (rw [if_pos (by decide +kernel)]; kernel_rfl) | (rw [if_neg (by decide +kernel)]; exact ⟨rfl, rfl⟩)
theorem hallNumbers_holds : Rows.HallNumbersSaid :=
  OpenClaim.holds_of_wide 16 Tryz.f16 rfl rfl rfl rfl rfl rfl rfl ⟨rfl, rfl, rfl, rfl, rfl⟩ rfl rfl rfl rfl rfl hallNumbers_named Tryz.func16 hallNumbers_facts
    hallNumbers_inst hallNumbers_wrap (fun os started H enc _ => hallNumbers_lifted os started H enc)
#print axioms hallNumbers_holds
end Go.Proofs.YtehipkhbnhagbaaGreatDoor
