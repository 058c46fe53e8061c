/-
  Part of the engine that the claim is proved with: it states nothing of the document by itself.
-/
import Derived.Test.YtpopdemanadllaaGreatDoorCoreWgCard
namespace Go.Proofs.YtpopdemanadllaaGreatDoor
open Go Go.ChangeShapes Go.WideShapes Go.ChangeAt Go.RowKit
theorem and_t {a b : Bool} (ha : a = true) (hb : b = true) : (a && b) = true := by rw [ha, hb]; rfl
set_option maxRecDepth 100000 in
set_option maxHeartbeats 40000000 in
theorem eveningWrong_facts : joinedFacts Tryz.pinned.checked.prog 3 Tryz.f3 Rows.eveningWrongSpec Rows.eveningWrongRow = true := by
 unfold joinedFacts
 repeat' with_reducible refine and_t ?_ ?_
 all_goals as_aux_lemma => kernel_rfl
theorem eveningWrong_named : Tryz.pinned.checked.prog.funcNamed Rows.eveningWrongRow.func = some 3 := by kernel_rfl
theorem eveningWrong_inst : Tryz.f3.isInstance Tryz.pinned.checked.prog Rows.eveningWrongRow.origin Rows.eveningWrongRow.targs := of_decide_eq_true (by kernel_rfl)
theorem eveningWrong_wrap : Tryz.f3.isWrapper Tryz.pinned.checked.prog Rows.eveningWrongRow.wrapper Rows.eveningWrongRow.mainSum := by
 unfold Func.isWrapper
 first | (rw [if_pos (by decide +kernel)]; kernel_rfl) | (rw [if_neg (by decide +kernel)]; exact ⟨rfl, rfl⟩)
theorem eveningWrong_holds : Rows.EveningWrongSaid :=
 OpenClaim.holds_of_wide 3 Tryz.f3 rfl rfl rfl rfl rfl rfl rfl ⟨rfl, rfl, rfl, rfl, rfl⟩ rfl rfl rfl rfl rfl eveningWrong_named Tryz.func3 eveningWrong_facts
  eveningWrong_inst eveningWrong_wrap (fun os started H enc _ => eveningWrong_lifted os started H enc)
end Go.Proofs.YtpopdemanadllaaGreatDoor
