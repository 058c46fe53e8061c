/-
  Part of the engine that the claim is proved with: it states nothing of the document by itself.
-/
import Derived.Test.YtenmglepjkflhaaGreatDoorCoreMeCard
namespace Go.Proofs.YtenmglepjkflhaaGreatDoor
open Go Go.ChangeShapes Go.WideShapes Go.ChangeAt Go.RowKit
theorem and_t {a b : Bool} (ha : a = true) (hb : b = true) : (a && b) = true := by rw [ha, hb]; rfl
set_option maxRecDepth 100000 in
set_option maxHeartbeats 40000000 in
theorem eveningMeets_facts : joinedFacts Tryz.pinned.checked.prog 3 Tryz.f3 Rows.eveningMeetsSpec Rows.eveningMeetsRow = true := by
 unfold joinedFacts
 repeat' with_reducible refine and_t ?_ ?_
 all_goals as_aux_lemma => kernel_rfl
theorem eveningMeets_named : Tryz.pinned.checked.prog.funcNamed Rows.eveningMeetsRow.func = some 3 := by kernel_rfl
theorem eveningMeets_inst : Tryz.f3.isInstance Tryz.pinned.checked.prog Rows.eveningMeetsRow.origin Rows.eveningMeetsRow.targs := of_decide_eq_true (by kernel_rfl)
theorem eveningMeets_wrap : Tryz.f3.isWrapper Tryz.pinned.checked.prog Rows.eveningMeetsRow.wrapper Rows.eveningMeetsRow.mainSum := by
 unfold Func.isWrapper
 first | (rw [if_pos (by decide +kernel)]; kernel_rfl) | (rw [if_neg (by decide +kernel)]; exact ⟨rfl, rfl⟩)
theorem eveningMeets_holds : Rows.EveningMeetsSaid :=
 OpenClaim.holds_of_wide 3 Tryz.f3 rfl rfl rfl rfl rfl rfl rfl ⟨rfl, rfl, rfl, rfl, rfl⟩ rfl rfl rfl rfl rfl eveningMeets_named Tryz.func3 eveningMeets_facts
  eveningMeets_inst eveningMeets_wrap (fun os started H enc _ => eveningMeets_lifted os started H enc)
end Go.Proofs.YtenmglepjkflhaaGreatDoor
