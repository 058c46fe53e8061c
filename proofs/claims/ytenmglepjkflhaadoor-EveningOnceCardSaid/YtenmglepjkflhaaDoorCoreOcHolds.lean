/-
  Part of the engine that the claim is proved with: it states nothing of the document by itself.
-/
import Derived.Test.YtenmglepjkflhaaDoorCoreOcCard
namespace Go.Proofs.YtenmglepjkflhaaDoor
open Go Go.ChangeShapes Go.WideShapes Go.ChangeAt Go.RowKit
theorem and_t {a b : Bool} (ha : a = true) (hb : b = true) : (a && b) = true := by rw [ha, hb]; rfl
set_option maxRecDepth 100000 in
set_option maxHeartbeats 40000000 in
theorem eveningOnce_facts : joinedFacts Tryd.pinned.checked.prog 4 Tryd.f4 Rows.eveningOnceSpec Rows.eveningOnceRow = true := by
 unfold joinedFacts
 repeat' with_reducible refine and_t ?_ ?_
 all_goals as_aux_lemma => kernel_rfl
theorem eveningOnce_named : Tryd.pinned.checked.prog.funcNamed Rows.eveningOnceRow.func = some 4 := by kernel_rfl
theorem eveningOnce_inst : Tryd.f4.isInstance Tryd.pinned.checked.prog Rows.eveningOnceRow.origin Rows.eveningOnceRow.targs := of_decide_eq_true (by kernel_rfl)
theorem eveningOnce_wrap : Tryd.f4.isWrapper Tryd.pinned.checked.prog Rows.eveningOnceRow.wrapper Rows.eveningOnceRow.mainSum := by
 unfold Func.isWrapper
 first | (rw [if_pos (by decide +kernel)]; kernel_rfl) | (rw [if_neg (by decide +kernel)]; exact ⟨rfl, rfl⟩)
theorem eveningOnce_holds : Rows.EveningOnceSaid :=
 OpenClaim.holds_of_wide 4 Tryd.f4 rfl rfl rfl rfl rfl rfl rfl ⟨rfl, rfl, rfl, rfl, rfl⟩ rfl rfl rfl rfl rfl eveningOnce_named Tryd.func4 eveningOnce_facts
  eveningOnce_inst eveningOnce_wrap (fun os started H enc _ => eveningOnce_lifted os started H enc)
end Go.Proofs.YtenmglepjkflhaaDoor
