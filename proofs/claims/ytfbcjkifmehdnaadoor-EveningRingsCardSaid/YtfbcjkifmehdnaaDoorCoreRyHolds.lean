/-
  Part of the engine that the claim is proved with: it states nothing of the document by itself.
-/
import Derived.Test.YtfbcjkifmehdnaaDoorCoreRyCard
namespace Go.Proofs.YtfbcjkifmehdnaaDoor
open Go Go.ChangeShapes Go.WideShapes Go.ChangeAt Go.RowKit
theorem and_t {a b : Bool} (ha : a = true) (hb : b = true) : (a && b) = true := by rw [ha, hb]; rfl
set_option maxRecDepth 100000 in
set_option maxHeartbeats 40000000 in
theorem eveningRings_facts : joinedFacts Tryd.pinned.checked.prog 3 Tryd.f3 Rows.eveningRingsSpec Rows.eveningRingsRow = true := by
 unfold joinedFacts
 repeat' with_reducible refine and_t ?_ ?_
 all_goals as_aux_lemma => kernel_rfl
theorem eveningRings_named : Tryd.pinned.checked.prog.funcNamed Rows.eveningRingsRow.func = some 3 := by kernel_rfl
theorem eveningRings_inst : Tryd.f3.isInstance Tryd.pinned.checked.prog Rows.eveningRingsRow.origin Rows.eveningRingsRow.targs := of_decide_eq_true (by kernel_rfl)
theorem eveningRings_wrap : Tryd.f3.isWrapper Tryd.pinned.checked.prog Rows.eveningRingsRow.wrapper Rows.eveningRingsRow.mainSum := by
 unfold Func.isWrapper
 first | (rw [if_pos (by decide +kernel)]; kernel_rfl) | (rw [if_neg (by decide +kernel)]; exact ⟨rfl, rfl⟩)
theorem eveningRings_holds : Rows.EveningRingsSaid :=
 OpenClaim.holds_of_wide 3 Tryd.f3 rfl rfl rfl rfl rfl rfl rfl ⟨rfl, rfl, rfl, rfl, rfl⟩ rfl rfl rfl rfl rfl eveningRings_named Tryd.func3 eveningRings_facts
  eveningRings_inst eveningRings_wrap (fun os started H enc _ => eveningRings_lifted os started H enc)
end Go.Proofs.YtfbcjkifmehdnaaDoor
