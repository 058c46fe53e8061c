/-
  Part of the engine that the claim is proved with: it states nothing of the document by itself.
-/
import Derived.Test.YtfplgbngodmbiaaGreatDoorCoreFmtCard
namespace Go.Proofs.YtfplgbngodmbiaaGreatDoor
open Go Go.ChangeShapes Go.WideShapes Go.ChangeAt Go.RowKit
theorem and_t {a b : Bool} (ha : a = true) (hb : b = true) : (a && b) = true := by rw [ha, hb]; rfl
set_option maxRecDepth 100000 in
set_option maxHeartbeats 40000000 in
theorem hallFormats_facts : joinedFacts Tryz.pinned.checked.prog 9 Tryz.f9 Rows.hallFormatsSpec Rows.hallFormatsRow = true := by
  unfold joinedFacts
  repeat' with_reducible refine and_t ?_ ?_
  all_goals as_aux_lemma => kernel_rfl
theorem hallFormats_named : Tryz.pinned.checked.prog.funcNamed Rows.hallFormatsRow.func = some 9 := by kernel_rfl
theorem hallFormats_inst : Tryz.f9.isInstance Tryz.pinned.checked.prog Rows.hallFormatsRow.origin Rows.hallFormatsRow.targs := of_decide_eq_true (by kernel_rfl)
theorem hallFormats_wrap : Tryz.f9.isWrapper Tryz.pinned.checked.prog Rows.hallFormatsRow.wrapper Rows.hallFormatsRow.mainSum := by
  unfold Func.isWrapper
  first | (rw [if_pos (by decide +kernel)]; kernel_rfl) | (rw [if_neg (by decide +kernel)]; exact ⟨rfl, rfl⟩)
theorem hallFormats_holds : Rows.HallFormatsSaid :=
  OpenClaim.holds_of_wide 9 Tryz.f9 rfl rfl rfl rfl rfl rfl rfl ⟨rfl, rfl, rfl, rfl, rfl⟩ rfl rfl rfl rfl rfl hallFormats_named Tryz.func9 hallFormats_facts
    hallFormats_inst hallFormats_wrap (fun os started H enc _ => hallFormats_lifted os started H enc)
end Go.Proofs.YtfplgbngodmbiaaGreatDoor
