/-
  Part of the engine that the claim is proved with: it states nothing of the document by itself.
-/
import Derived.Test.YtidhienppjdimaaGreatDoorCoreCmCard
namespace Go.Proofs.YtidhienppjdimaaGreatDoor
open Go Go.ChangeShapes Go.WideShapes Go.ChangeAt Go.RowKit
theorem and_t {a b : Bool} (ha : a = true) (hb : b = true) : (a && b) = true := by rw [ha, hb]; rfl
set_option maxRecDepth 100000 in
set_option maxHeartbeats 40000000 in
theorem courtCompares_facts : joinedFacts Tryz.pinned.checked.prog 3 Tryz.f3 Rows.courtComparesSpec Rows.courtComparesRow = true := by
 unfold joinedFacts
 repeat' with_reducible refine and_t ?_ ?_
 all_goals as_aux_lemma => kernel_rfl
theorem courtCompares_named : Tryz.pinned.checked.prog.funcNamed Rows.courtComparesRow.func = some 3 := by kernel_rfl
theorem courtCompares_inst : Tryz.f3.isInstance Tryz.pinned.checked.prog Rows.courtComparesRow.origin Rows.courtComparesRow.targs := of_decide_eq_true (by kernel_rfl)
theorem courtCompares_wrap : Tryz.f3.isWrapper Tryz.pinned.checked.prog Rows.courtComparesRow.wrapper Rows.courtComparesRow.mainSum := by
 unfold Func.isWrapper
 first | (rw [if_pos (by decide +kernel)]; kernel_rfl) | (rw [if_neg (by decide +kernel)]; exact ⟨rfl, rfl⟩)
theorem courtCompares_holds : Rows.CourtComparesSaid :=
 OpenClaim.holds_of_wide 3 Tryz.f3 rfl rfl rfl rfl rfl rfl rfl ⟨rfl, rfl, rfl, rfl, rfl⟩ rfl rfl rfl rfl rfl courtCompares_named Tryz.func3 courtCompares_facts
  courtCompares_inst courtCompares_wrap (fun os started H enc _ => courtCompares_lifted os started H enc)
end Go.Proofs.YtidhienppjdimaaGreatDoor
