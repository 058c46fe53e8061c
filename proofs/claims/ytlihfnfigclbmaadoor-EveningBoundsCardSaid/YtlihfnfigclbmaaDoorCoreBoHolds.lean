/-
  Part of the engine that the claim is proved with: it states nothing of the document by itself.
-/
import Derived.Test.YtlihfnfigclbmaaDoorCoreBoCard
namespace Go.Proofs.YtlihfnfigclbmaaDoor
open Go Go.ChangeShapes Go.WideShapes Go.ChangeAt Go.RowKit
theorem and_t {a b : Bool} (ha : a = true) (hb : b = true) : (a && b) = true := by rw [ha, hb]; rfl
set_option maxRecDepth 100000 in
set_option maxHeartbeats 40000000 in
theorem eveningBounds_facts : joinedFacts Tryd.pinned.checked.prog 5 Tryd.f5 Rows.eveningBoundsSpec Rows.eveningBoundsRow = true := by
 unfold joinedFacts
 repeat' with_reducible refine and_t ?_ ?_
 all_goals as_aux_lemma => kernel_rfl
theorem eveningBounds_named : Tryd.pinned.checked.prog.funcNamed Rows.eveningBoundsRow.func = some 5 := by kernel_rfl
theorem eveningBounds_inst : Tryd.f5.isInstance Tryd.pinned.checked.prog Rows.eveningBoundsRow.origin Rows.eveningBoundsRow.targs := of_decide_eq_true (by kernel_rfl)
theorem eveningBounds_wrap : Tryd.f5.isWrapper Tryd.pinned.checked.prog Rows.eveningBoundsRow.wrapper Rows.eveningBoundsRow.mainSum := by
 unfold Func.isWrapper
 first | (rw [if_pos (by decide +kernel)]; kernel_rfl) | (rw [if_neg (by decide +kernel)]; exact ⟨rfl, rfl⟩)
theorem eveningBounds_holds : Rows.EveningBoundsSaid :=
 OpenClaim.holds_of_wide 5 Tryd.f5 rfl rfl rfl rfl rfl rfl rfl ⟨rfl, rfl, rfl, rfl, rfl⟩ rfl rfl rfl rfl rfl eveningBounds_named Tryd.func5 eveningBounds_facts
  eveningBounds_inst eveningBounds_wrap (fun os started H enc _ => eveningBounds_lifted os started H enc)
end Go.Proofs.YtlihfnfigclbmaaDoor
