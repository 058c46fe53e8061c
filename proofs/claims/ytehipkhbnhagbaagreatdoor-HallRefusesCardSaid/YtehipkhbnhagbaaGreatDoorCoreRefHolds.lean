/-
  Part of the engine that the claim is proved with: it states nothing of the document by itself.
-/
import Derived.Test.YtehipkhbnhagbaaGreatDoorCoreRefCard
namespace Go.Proofs.YtehipkhbnhagbaaGreatDoor
open Go Go.ChangeShapes Go.WideShapes Go.ChangeAt Go.RowKit
theorem and_t {a b : Bool} (ha : a = true) (hb : b = true) : (a && b) = true := by rw [ha, hb]; rfl
set_option maxRecDepth 100000 in
set_option maxHeartbeats 40000000 in
theorem hallRefuses_facts : joinedFacts Tryz.pinned.checked.prog 18 Tryz.f18 Rows.hallRefusesSpec Rows.hallRefusesRow = true := by
  unfold joinedFacts
  repeat' with_reducible refine and_t ?_ ?_
  all_goals as_aux_lemma => kernel_rfl
#print axioms hallRefuses_facts
theorem hallRefuses_named : Tryz.pinned.checked.prog.funcNamed Rows.hallRefusesRow.func = some 18 := by kernel_rfl
theorem hallRefuses_inst : Tryz.f18.isInstance Tryz.pinned.checked.prog Rows.hallRefusesRow.origin Rows.hallRefusesRow.targs := of_decide_eq_true (by kernel_rfl)
theorem hallRefuses_wrap : Tryz.f18.isWrapper Tryz.pinned.checked.prog Rows.hallRefusesRow.wrapper Rows.hallRefusesRow.mainSum := by
  unfold Func.isWrapper
  first | (rw [if_pos (by decide +kernel)]; kernel_rfl) | (rw [if_neg (by decide +kernel)]; exact ⟨rfl, rfl⟩)
theorem hallRefuses_holds : Rows.HallRefusesSaid :=
  OpenClaim.holds_of_wide 18 Tryz.f18 rfl rfl rfl rfl rfl rfl rfl ⟨rfl, rfl, rfl, rfl, rfl⟩ rfl rfl rfl rfl rfl hallRefuses_named Tryz.func18 hallRefuses_facts
    hallRefuses_inst hallRefuses_wrap (fun os started H enc _ => hallRefuses_lifted os started H enc)
#print axioms hallRefuses_holds
end Go.Proofs.YtehipkhbnhagbaaGreatDoor
