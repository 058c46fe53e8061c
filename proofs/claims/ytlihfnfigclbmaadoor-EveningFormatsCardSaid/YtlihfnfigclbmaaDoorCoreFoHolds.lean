/-
  Part of the engine that the claim is proved with: it states nothing of the document by itself.
-/
import Derived.Test.YtlihfnfigclbmaaDoorCoreFoCard
namespace Go.Proofs.YtlihfnfigclbmaaDoor
open Go Go.ChangeShapes Go.WideShapes Go.ChangeAt Go.RowKit
theorem and_t {a b : Bool} (ha : a = true) (hb : b = true) : (a && b) = true := by rw [ha, hb]; rfl
set_option maxRecDepth 100000 in
set_option maxHeartbeats 40000000 in
theorem eveningFormats_facts : joinedFacts Tryd.pinned.checked.prog 7 Tryd.f7 Rows.eveningFormatsSpec Rows.eveningFormatsRow = true := by
 unfold joinedFacts
 repeat' with_reducible refine and_t ?_ ?_
 all_goals as_aux_lemma => kernel_rfl
theorem eveningFormats_named : Tryd.pinned.checked.prog.funcNamed Rows.eveningFormatsRow.func = some 7 := by kernel_rfl
theorem eveningFormats_inst : Tryd.f7.isInstance Tryd.pinned.checked.prog Rows.eveningFormatsRow.origin Rows.eveningFormatsRow.targs := of_decide_eq_true (by kernel_rfl)
theorem eveningFormats_wrap : Tryd.f7.isWrapper Tryd.pinned.checked.prog Rows.eveningFormatsRow.wrapper Rows.eveningFormatsRow.mainSum := by
 unfold Func.isWrapper
 first | (rw [if_pos (by decide +kernel)]; kernel_rfl) | (rw [if_neg (by decide +kernel)]; exact ⟨rfl, rfl⟩)
theorem eveningFormats_holds : Rows.EveningFormatsSaid :=
 OpenClaim.holds_of_wide 7 Tryd.f7 rfl rfl rfl rfl rfl rfl rfl ⟨rfl, rfl, rfl, rfl, rfl⟩ rfl rfl rfl rfl rfl eveningFormats_named Tryd.func7 eveningFormats_facts
  eveningFormats_inst eveningFormats_wrap (fun os started H enc _ => eveningFormats_lifted os started H enc)
end Go.Proofs.YtlihfnfigclbmaaDoor
