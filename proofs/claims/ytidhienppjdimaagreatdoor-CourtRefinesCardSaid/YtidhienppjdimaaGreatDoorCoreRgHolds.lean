/-
  Part of the engine that the claim is proved with: it states nothing of the document by itself.
-/
import Derived.Test.YtidhienppjdimaaGreatDoorCoreRgCard
namespace Go.Proofs.YtidhienppjdimaaGreatDoor
open Go Go.ChangeShapes Go.WideShapes Go.ChangeAt Go.RowKit
theorem and_t {a b : Bool} (ha : a = true) (hb : b = true) : (a && b) = true := by rw [ha, hb]; rfl
set_option maxRecDepth 100000 in
set_option maxHeartbeats 40000000 in
theorem courtRefines_facts : joinedFacts Tryz.pinned.checked.prog 5 Tryz.f5 Rows.courtRefinesSpec Rows.courtRefinesRow = true := by
 unfold joinedFacts
 repeat' with_reducible refine and_t ?_ ?_
 all_goals as_aux_lemma => kernel_rfl
theorem courtRefines_named : Tryz.pinned.checked.prog.funcNamed Rows.courtRefinesRow.func = some 5 := by kernel_rfl
theorem courtRefines_inst : Tryz.f5.isInstance Tryz.pinned.checked.prog Rows.courtRefinesRow.origin Rows.courtRefinesRow.targs := of_decide_eq_true (by kernel_rfl)
theorem courtRefines_wrap : Tryz.f5.isWrapper Tryz.pinned.checked.prog Rows.courtRefinesRow.wrapper Rows.courtRefinesRow.mainSum := by
 unfold Func.isWrapper
 first | (rw [if_pos (by decide +kernel)]; kernel_rfl) | (rw [if_neg (by decide +kernel)]; exact ⟨rfl, rfl⟩)
theorem courtRefines_holds : Rows.CourtRefinesSaid :=
 OpenClaim.holds_of_wide 5 Tryz.f5 rfl rfl rfl rfl rfl rfl rfl ⟨rfl, rfl, rfl, rfl, rfl⟩ rfl rfl rfl rfl rfl courtRefines_named Tryz.func5 courtRefines_facts
  courtRefines_inst courtRefines_wrap (fun os started H enc _ => courtRefines_lifted os started H enc)
end Go.Proofs.YtidhienppjdimaaGreatDoor
