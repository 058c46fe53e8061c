/-
  Part of the engine that the claim is proved with: it states nothing of the document by itself.
-/
import Derived.Test.YtdcamlgidccamaaGreatDoorCoreMetCard
namespace Go.Proofs.YtdcamlgidccamaaGreatDoor
open Go Go.ChangeShapes Go.WideShapes Go.ChangeAt Go.RowKit
theorem and_t {a b : Bool} (ha : a = true) (hb : b = true) : (a && b) = true := by rw [ha, hb]; rfl
set_option maxRecDepth 100000 in
set_option maxHeartbeats 40000000 in
theorem hallMetric_facts : joinedFacts Tryz.pinned.checked.prog 11 Tryz.f11 Rows.hallMetricSpec Rows.hallMetricRow = true := by
  unfold joinedFacts
  repeat' with_reducible refine and_t ?_ ?_
  all_goals as_aux_lemma => kernel_rfl
theorem hallMetric_named : Tryz.pinned.checked.prog.funcNamed Rows.hallMetricRow.func = some 11 := by kernel_rfl
theorem hallMetric_inst : Tryz.f11.isInstance Tryz.pinned.checked.prog Rows.hallMetricRow.origin Rows.hallMetricRow.targs := of_decide_eq_true (by kernel_rfl)
theorem hallMetric_wrap : Tryz.f11.isWrapper Tryz.pinned.checked.prog Rows.hallMetricRow.wrapper Rows.hallMetricRow.mainSum := by
  unfold Func.isWrapper
  first | (rw [if_pos (by decide +kernel)]; kernel_rfl) | (rw [if_neg (by decide +kernel)]; exact ⟨rfl, rfl⟩)
theorem hallMetric_holds : Rows.HallMetricSaid :=
  OpenClaim.holds_of_wide 11 Tryz.f11 rfl rfl rfl rfl rfl rfl rfl ⟨rfl, rfl, rfl, rfl, rfl⟩ rfl rfl rfl rfl rfl hallMetric_named Tryz.func11 hallMetric_facts
    hallMetric_inst hallMetric_wrap (fun os started H enc _ => hallMetric_lifted os started H enc)
end Go.Proofs.YtdcamlgidccamaaGreatDoor
