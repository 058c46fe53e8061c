/-
  Part of the engine that the claim is proved with: it states nothing of the document by itself.
-/
import Derived.Test.YtcnjngiaoomecaaDoorCorePdCard
namespace Go.Proofs.YtcnjngiaoomecaaDoor
open Go Go.ChangeShapes Go.WideShapes Go.ChangeAt Go.RowKit
theorem and_t {a b : Bool} (ha : a = true) (hb : b = true) : (a && b) = true := by rw [ha, hb]; rfl
set_option maxRecDepth 100000 in
set_option maxHeartbeats 40000000 in
theorem eveningPlanned_facts : joinedFacts Tryd.pinned.checked.prog 4 Tryd.f4 Rows.eveningPlannedSpec Rows.eveningPlannedRow = true := by
 unfold joinedFacts
 repeat' with_reducible refine and_t ?_ ?_
 all_goals as_aux_lemma => kernel_rfl
theorem eveningPlanned_named : Tryd.pinned.checked.prog.funcNamed Rows.eveningPlannedRow.func = some 4 := by kernel_rfl
theorem eveningPlanned_inst : Tryd.f4.isInstance Tryd.pinned.checked.prog Rows.eveningPlannedRow.origin Rows.eveningPlannedRow.targs := of_decide_eq_true (by kernel_rfl)
theorem eveningPlanned_wrap : Tryd.f4.isWrapper Tryd.pinned.checked.prog Rows.eveningPlannedRow.wrapper Rows.eveningPlannedRow.mainSum := by
 unfold Func.isWrapper
 first | (rw [if_pos (by decide +kernel)]; kernel_rfl) | (rw [if_neg (by decide +kernel)]; exact ⟨rfl, rfl⟩)
theorem eveningPlanned_holds : Rows.EveningPlannedSaid :=
 OpenClaim.holds_of_wide 4 Tryd.f4 rfl rfl rfl rfl rfl rfl rfl ⟨rfl, rfl, rfl, rfl, rfl⟩ rfl rfl rfl rfl rfl eveningPlanned_named Tryd.func4 eveningPlanned_facts
  eveningPlanned_inst eveningPlanned_wrap (fun os started H enc _ => eveningPlanned_lifted os started H enc)
end Go.Proofs.YtcnjngiaoomecaaDoor
