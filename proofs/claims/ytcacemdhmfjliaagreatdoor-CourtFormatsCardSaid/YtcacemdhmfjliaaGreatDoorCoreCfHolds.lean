/-
  Part of the engine that the claim is proved with: it states nothing of the document by itself.
-/
import Derived.Test.YtcacemdhmfjliaaGreatDoorCoreCfCard
namespace Go.Proofs.YtcacemdhmfjliaaGreatDoor
open Go Go.ChangeShapes Go.WideShapes Go.ChangeAt Go.RowKit
theorem and_t {a b : Bool} (ha : a = true) (hb : b = true) : (a && b) = true := by rw [ha, hb]; rfl
set_option maxRecDepth 100000 in
set_option maxHeartbeats 40000000 in
theorem courtFormats_facts : joinedFacts Tryz.pinned.checked.prog 6 Tryz.f6 Rows.courtFormatsSpec Rows.courtFormatsRow = true := by
 unfold joinedFacts
 repeat' with_reducible refine and_t ?_ ?_
 all_goals as_aux_lemma => kernel_rfl
theorem courtFormats_named : Tryz.pinned.checked.prog.funcNamed Rows.courtFormatsRow.func = some 6 := by kernel_rfl
theorem courtFormats_inst : Tryz.f6.isInstance Tryz.pinned.checked.prog Rows.courtFormatsRow.origin Rows.courtFormatsRow.targs := of_decide_eq_true (by kernel_rfl)
theorem courtFormats_wrap : Tryz.f6.isWrapper Tryz.pinned.checked.prog Rows.courtFormatsRow.wrapper Rows.courtFormatsRow.mainSum := by
 unfold Func.isWrapper
 first | (rw [if_pos (by decide +kernel)]; kernel_rfl) | (rw [if_neg (by decide +kernel)]; exact ⟨rfl, rfl⟩)
theorem courtFormats_holds : Rows.CourtFormatsSaid :=
 OpenClaim.holds_of_wide 6 Tryz.f6 rfl rfl rfl rfl rfl rfl rfl ⟨rfl, rfl, rfl, rfl, rfl⟩ rfl rfl rfl rfl rfl courtFormats_named Tryz.func6 courtFormats_facts
  courtFormats_inst courtFormats_wrap (fun os started H enc _ => courtFormats_lifted os started H enc)
end Go.Proofs.YtcacemdhmfjliaaGreatDoor
