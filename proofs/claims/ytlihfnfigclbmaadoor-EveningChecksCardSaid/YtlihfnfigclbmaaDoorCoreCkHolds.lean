/-
  Part of the engine that the claim is proved with: it states nothing of the document by itself.
-/
import Derived.Test.YtlihfnfigclbmaaDoorCoreCkCard
namespace Go.Proofs.YtlihfnfigclbmaaDoor
open Go Go.ChangeShapes Go.WideShapes Go.ChangeAt Go.RowKit
theorem and_t {a b : Bool} (ha : a = true) (hb : b = true) : (a && b) = true := by rw [ha, hb]; rfl
set_option maxRecDepth 100000 in
set_option maxHeartbeats 40000000 in
theorem eveningChecks_facts : joinedFacts Tryd.pinned.checked.prog 6 Tryd.f6 Rows.eveningChecksSpec Rows.eveningChecksRow = true := by
 unfold joinedFacts
 repeat' with_reducible refine and_t ?_ ?_
 all_goals as_aux_lemma => kernel_rfl
theorem eveningChecks_named : Tryd.pinned.checked.prog.funcNamed Rows.eveningChecksRow.func = some 6 := by kernel_rfl
theorem eveningChecks_inst : Tryd.f6.isInstance Tryd.pinned.checked.prog Rows.eveningChecksRow.origin Rows.eveningChecksRow.targs := of_decide_eq_true (by kernel_rfl)
theorem eveningChecks_wrap : Tryd.f6.isWrapper Tryd.pinned.checked.prog Rows.eveningChecksRow.wrapper Rows.eveningChecksRow.mainSum := by
 unfold Func.isWrapper
 first | (rw [if_pos (by decide +kernel)]; kernel_rfl) | (rw [if_neg (by decide +kernel)]; exact ⟨rfl, rfl⟩)
theorem eveningChecks_holds : Rows.EveningChecksSaid :=
 OpenClaim.holds_of_wide 6 Tryd.f6 rfl rfl rfl rfl rfl rfl rfl ⟨rfl, rfl, rfl, rfl, rfl⟩ rfl rfl rfl rfl rfl eveningChecks_named Tryd.func6 eveningChecks_facts
  eveningChecks_inst eveningChecks_wrap (fun os started H enc _ => eveningChecks_lifted os started H enc)
end Go.Proofs.YtlihfnfigclbmaaDoor
