/-
  Part of the engine that the claim is proved with: it states nothing of the document by itself.
-/
import Derived.Test.YtpcokmpipjcndaaGreatDoorCoreHrCard
namespace Go.Proofs.YtpcokmpipjcndaaGreatDoor
open Go Go.ChangeShapes Go.WideShapes Go.ChangeAt Go.RowKit
theorem and_t {a b : Bool} (ha : a = true) (hb : b = true) : (a && b) = true := by rw [ha, hb]; rfl
set_option maxRecDepth 100000 in
set_option maxHeartbeats 40000000 in
theorem hallRound_facts : joinedFacts Tryz.pinned.checked.prog 4 Tryz.f4 Rows.hallRoundSpec Rows.hallRoundRow = true := by
 unfold joinedFacts
 repeat' with_reducible refine and_t ?_ ?_
 all_goals as_aux_lemma => kernel_rfl
theorem hallRound_named : Tryz.pinned.checked.prog.funcNamed Rows.hallRoundRow.func = some 4 := by kernel_rfl
theorem hallRound_inst : Tryz.f4.isInstance Tryz.pinned.checked.prog Rows.hallRoundRow.origin Rows.hallRoundRow.targs := of_decide_eq_true (by kernel_rfl)
theorem hallRound_wrap : Tryz.f4.isWrapper Tryz.pinned.checked.prog Rows.hallRoundRow.wrapper Rows.hallRoundRow.mainSum := by
 unfold Func.isWrapper
 first | (rw [if_pos (by decide +kernel)]; kernel_rfl) | (rw [if_neg (by decide +kernel)]; exact ⟨rfl, rfl⟩)
theorem hallRound_holds : Rows.HallRoundSaid :=
 OpenClaim.holds_of_wide 4 Tryz.f4 rfl rfl rfl rfl rfl rfl rfl ⟨rfl, rfl, rfl, rfl, rfl⟩ rfl rfl rfl rfl rfl hallRound_named Tryz.func4 hallRound_facts
  hallRound_inst hallRound_wrap (fun os started H enc _ => hallRound_lifted os started H enc)
end Go.Proofs.YtpcokmpipjcndaaGreatDoor
