/-
  Part of the engine that the claim is proved with: it states nothing of the document by itself.
-/
import Derived.Test.YtlihfnfigclbmaaDoorCoreAxCard
namespace Go.Proofs.YtlihfnfigclbmaaDoor
open Go Go.ChangeShapes Go.WideShapes Go.ChangeAt Go.RowKit
theorem and_t {a b : Bool} (ha : a = true) (hb : b = true) : (a && b) = true := by rw [ha, hb]; rfl
set_option maxRecDepth 100000 in
set_option maxHeartbeats 40000000 in
theorem eveningAxioms_facts : joinedFacts Tryd.pinned.checked.prog 4 Tryd.f4 Rows.eveningAxiomsSpec Rows.eveningAxiomsRow = true := by
 unfold joinedFacts
 repeat' with_reducible refine and_t ?_ ?_
 all_goals as_aux_lemma => kernel_rfl
theorem eveningAxioms_named : Tryd.pinned.checked.prog.funcNamed Rows.eveningAxiomsRow.func = some 4 := by kernel_rfl
theorem eveningAxioms_inst : Tryd.f4.isInstance Tryd.pinned.checked.prog Rows.eveningAxiomsRow.origin Rows.eveningAxiomsRow.targs := of_decide_eq_true (by kernel_rfl)
theorem eveningAxioms_wrap : Tryd.f4.isWrapper Tryd.pinned.checked.prog Rows.eveningAxiomsRow.wrapper Rows.eveningAxiomsRow.mainSum := by
 unfold Func.isWrapper
 first | (rw [if_pos (by decide +kernel)]; kernel_rfl) | (rw [if_neg (by decide +kernel)]; exact ⟨rfl, rfl⟩)
theorem eveningAxioms_holds : Rows.EveningAxiomsSaid :=
 OpenClaim.holds_of_wide 4 Tryd.f4 rfl rfl rfl rfl rfl rfl rfl ⟨rfl, rfl, rfl, rfl, rfl⟩ rfl rfl rfl rfl rfl eveningAxioms_named Tryd.func4 eveningAxioms_facts
  eveningAxioms_inst eveningAxioms_wrap (fun os started H enc _ => eveningAxioms_lifted os started H enc)
end Go.Proofs.YtlihfnfigclbmaaDoor
