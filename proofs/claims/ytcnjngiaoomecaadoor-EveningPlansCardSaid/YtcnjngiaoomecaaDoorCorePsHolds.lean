/-
  Part of the engine that the claim is proved with: it states nothing of the document by itself.
-/
import Derived.Test.YtcnjngiaoomecaaDoorCorePsCard
namespace Go.Proofs.YtcnjngiaoomecaaDoor
open Go Go.ChangeShapes Go.WideShapes Go.ChangeAt Go.RowKit
theorem and_t {a b : Bool} (ha : a = true) (hb : b = true) : (a && b) = true := by rw [ha, hb]; rfl
set_option maxRecDepth 100000 in
set_option maxHeartbeats 40000000 in
theorem eveningPlans_facts : joinedFacts Tryd.pinned.checked.prog 3 Tryd.f3 Rows.eveningPlansSpec Rows.eveningPlansRow = true := by
 unfold joinedFacts
 repeat' with_reducible refine and_t ?_ ?_
 all_goals as_aux_lemma => kernel_rfl
theorem eveningPlans_named : Tryd.pinned.checked.prog.funcNamed Rows.eveningPlansRow.func = some 3 := by kernel_rfl
theorem eveningPlans_inst : Tryd.f3.isInstance Tryd.pinned.checked.prog Rows.eveningPlansRow.origin Rows.eveningPlansRow.targs := of_decide_eq_true (by kernel_rfl)
theorem eveningPlans_wrap : Tryd.f3.isWrapper Tryd.pinned.checked.prog Rows.eveningPlansRow.wrapper Rows.eveningPlansRow.mainSum := by
 unfold Func.isWrapper
 first | (rw [if_pos (by decide +kernel)]; kernel_rfl) | (rw [if_neg (by decide +kernel)]; exact ⟨rfl, rfl⟩)
theorem eveningPlans_holds : Rows.EveningPlansSaid :=
 OpenClaim.holds_of_wide 3 Tryd.f3 rfl rfl rfl rfl rfl rfl rfl ⟨rfl, rfl, rfl, rfl, rfl⟩ rfl rfl rfl rfl rfl eveningPlans_named Tryd.func3 eveningPlans_facts
  eveningPlans_inst eveningPlans_wrap (fun os started H enc _ => eveningPlans_lifted os started H enc)
end Go.Proofs.YtcnjngiaoomecaaDoor
