/-
  Part of the engine that the claim is proved with: it states nothing of the document by itself.
-/
import Derived.Test.YtfplgbngodmbiaaGreatDoorCoreHleCard
namespace Go.Proofs.YtfplgbngodmbiaaGreatDoor
open Go Go.ChangeShapes Go.WideShapes Go.ChangeAt Go.RowKit
theorem and_t {a b : Bool} (ha : a = true) (hb : b = true) : (a && b) = true := by rw [ha, hb]; rfl
set_option maxRecDepth 100000 in
set_option maxHeartbeats 40000000 in
theorem hallLevels_facts : joinedFacts Tryz.pinned.checked.prog 15 Tryz.f15 Rows.hallLevelsSpec Rows.hallLevelsRow = true := by
  unfold joinedFacts
  repeat' with_reducible refine and_t ?_ ?_
  all_goals as_aux_lemma => kernel_rfl
theorem hallLevels_named : Tryz.pinned.checked.prog.funcNamed Rows.hallLevelsRow.func = some 15 := by kernel_rfl
theorem hallLevels_inst : Tryz.f15.isInstance Tryz.pinned.checked.prog Rows.hallLevelsRow.origin Rows.hallLevelsRow.targs := of_decide_eq_true (by kernel_rfl)
theorem hallLevels_wrap : Tryz.f15.isWrapper Tryz.pinned.checked.prog Rows.hallLevelsRow.wrapper Rows.hallLevelsRow.mainSum := by
  unfold Func.isWrapper
  first | (rw [if_pos (by decide +kernel)]; kernel_rfl) | (rw [if_neg (by decide +kernel)]; exact ⟨rfl, rfl⟩)
theorem hallLevels_holds : Rows.HallLevelsSaid :=
  OpenClaim.holds_of_wide 15 Tryz.f15 rfl rfl rfl rfl rfl rfl rfl ⟨rfl, rfl, rfl, rfl, rfl⟩ rfl rfl rfl rfl rfl hallLevels_named Tryz.func15 hallLevels_facts
    hallLevels_inst hallLevels_wrap (fun os started H enc _ => hallLevels_lifted os started H enc)
end Go.Proofs.YtfplgbngodmbiaaGreatDoor
