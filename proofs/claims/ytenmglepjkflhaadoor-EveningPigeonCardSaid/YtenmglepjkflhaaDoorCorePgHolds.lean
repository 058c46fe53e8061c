/-
  Part of the engine that the claim is proved with: it states nothing of the document by itself.
-/
import Derived.Test.YtenmglepjkflhaaDoorCorePgCard
namespace Go.Proofs.YtenmglepjkflhaaDoor
open Go Go.ChangeShapes Go.WideShapes Go.ChangeAt Go.RowKit
theorem and_t {a b : Bool} (ha : a = true) (hb : b = true) : (a && b) = true := by rw [ha, hb]; rfl
set_option maxRecDepth 100000 in
set_option maxHeartbeats 40000000 in
theorem eveningPigeon_facts : joinedFacts Tryd.pinned.checked.prog 3 Tryd.f3 Rows.eveningPigeonSpec Rows.eveningPigeonRow = true := by
 unfold joinedFacts
 repeat' with_reducible refine and_t ?_ ?_
 all_goals as_aux_lemma => kernel_rfl
theorem eveningPigeon_named : Tryd.pinned.checked.prog.funcNamed Rows.eveningPigeonRow.func = some 3 := by kernel_rfl
theorem eveningPigeon_inst : Tryd.f3.isInstance Tryd.pinned.checked.prog Rows.eveningPigeonRow.origin Rows.eveningPigeonRow.targs := of_decide_eq_true (by kernel_rfl)
theorem eveningPigeon_wrap : Tryd.f3.isWrapper Tryd.pinned.checked.prog Rows.eveningPigeonRow.wrapper Rows.eveningPigeonRow.mainSum := by
 unfold Func.isWrapper
 first | (rw [if_pos (by decide +kernel)]; kernel_rfl) | (rw [if_neg (by decide +kernel)]; exact ⟨rfl, rfl⟩)
theorem eveningPigeon_holds : Rows.EveningPigeonSaid :=
 OpenClaim.holds_of_wide 3 Tryd.f3 rfl rfl rfl rfl rfl rfl rfl ⟨rfl, rfl, rfl, rfl, rfl⟩ rfl rfl rfl rfl rfl eveningPigeon_named Tryd.func3 eveningPigeon_facts
  eveningPigeon_inst eveningPigeon_wrap (fun os started H enc _ => eveningPigeon_lifted os started H enc)
end Go.Proofs.YtenmglepjkflhaaDoor
