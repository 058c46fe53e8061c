/-
  Part of the engine that the claim is proved with: it states nothing of the document by itself.
-/
import Derived.Test.YtfplgbngodmbiaaGreatDoorCoreHonCard
namespace Go.Proofs.YtfplgbngodmbiaaGreatDoor
open Go Go.ChangeShapes Go.WideShapes Go.ChangeAt Go.RowKit
theorem and_t {a b : Bool} (ha : a = true) (hb : b = true) : (a && b) = true := by rw [ha, hb]; rfl
set_option maxRecDepth 100000 in
set_option maxHeartbeats 40000000 in
theorem hallHonours_facts : joinedFacts Tryz.pinned.checked.prog 5 Tryz.f5 Rows.hallHonoursSpec Rows.hallHonoursRow = true := by
 unfold joinedFacts
 repeat' with_reducible refine and_t ?_ ?_
 all_goals as_aux_lemma => kernel_rfl
theorem hallHonours_named : Tryz.pinned.checked.prog.funcNamed Rows.hallHonoursRow.func = some 5 := by kernel_rfl
theorem hallHonours_inst : Tryz.f5.isInstance Tryz.pinned.checked.prog Rows.hallHonoursRow.origin Rows.hallHonoursRow.targs := of_decide_eq_true (by kernel_rfl)
theorem hallHonours_wrap : Tryz.f5.isWrapper Tryz.pinned.checked.prog Rows.hallHonoursRow.wrapper Rows.hallHonoursRow.mainSum := by
 unfold Func.isWrapper
 first | (rw [if_pos (by decide +kernel)]; kernel_rfl) | (rw [if_neg (by decide +kernel)]; exact ⟨rfl, rfl⟩)
theorem hallHonours_holds : Rows.HallHonoursSaid :=
 OpenClaim.holds_of_wide 5 Tryz.f5 rfl rfl rfl rfl rfl rfl rfl ⟨rfl, rfl, rfl, rfl, rfl⟩ rfl rfl rfl rfl rfl hallHonours_named Tryz.func5 hallHonours_facts
  hallHonours_inst hallHonours_wrap (fun os started H enc _ => hallHonours_lifted os started H enc)
end Go.Proofs.YtfplgbngodmbiaaGreatDoor
