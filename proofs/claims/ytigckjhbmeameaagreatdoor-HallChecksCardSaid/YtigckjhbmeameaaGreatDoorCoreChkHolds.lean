/-
  Part of the engine that the claim is proved with: it states nothing of the document by itself.
-/
import Derived.Test.YtigckjhbmeameaaGreatDoorCoreChkCard
namespace Go.Proofs.YtigckjhbmeameaaGreatDoor
open Go Go.ChangeShapes Go.WideShapes Go.ChangeAt Go.RowKit
theorem and_t {a b : Bool} (ha : a = true) (hb : b = true) : (a && b) = true := by rw [ha, hb]; rfl
set_option maxRecDepth 100000 in
set_option maxHeartbeats 40000000 in
theorem hallChecks_facts : joinedFacts Tryz.pinned.checked.prog 3 Tryz.f3 Rows.hallChecksSpec Rows.hallChecksRow = true := by
  unfold joinedFacts
  repeat' with_reducible refine and_t ?_ ?_
  all_goals as_aux_lemma => kernel_rfl
#print axioms hallChecks_facts
theorem hallChecks_named : Tryz.pinned.checked.prog.funcNamed Rows.hallChecksRow.func = some 3 := by kernel_rfl
theorem hallChecks_inst : Tryz.f3.isInstance Tryz.pinned.checked.prog Rows.hallChecksRow.origin Rows.hallChecksRow.targs := of_decide_eq_true (by kernel_rfl)
theorem hallChecks_wrap : Tryz.f3.isWrapper Tryz.pinned.checked.prog Rows.hallChecksRow.wrapper Rows.hallChecksRow.mainSum := by
  unfold Func.isWrapper
  first | (rw [if_pos (by decide +kernel)]; kernel_rfl) | (rw [if_neg (by decide +kernel)]; exact ⟨rfl, rfl⟩)
theorem hallChecks_holds : Rows.HallChecksSaid :=
  OpenClaim.holds_of_wide 3 Tryz.f3 rfl rfl rfl rfl rfl rfl rfl ⟨rfl, rfl, rfl, rfl, rfl⟩ rfl rfl rfl rfl rfl hallChecks_named Tryz.func3 hallChecks_facts
    hallChecks_inst hallChecks_wrap (fun os started H enc _ => hallChecks_lifted os started H enc)
#print axioms hallChecks_holds
end Go.Proofs.YtigckjhbmeameaaGreatDoor
