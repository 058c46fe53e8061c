/-
  Part of the engine that the claim is proved with: it states nothing of the document by itself.
-/
import Derived.Test.YtenmglepjkflhaaDoorCoreDsCard
namespace Go.Proofs.YtenmglepjkflhaaDoor
open Go Go.ChangeShapes Go.WideShapes Go.ChangeAt Go.RowKit
theorem and_t {a b : Bool} (ha : a = true) (hb : b = true) : (a && b) = true := by rw [ha, hb]; rfl
set_option maxRecDepth 100000 in
set_option maxHeartbeats 40000000 in
theorem eveningDesigned_facts : joinedFacts Tryd.pinned.checked.prog 5 Tryd.f5 Rows.eveningDesignedSpec Rows.eveningDesignedRow = true := by
 unfold joinedFacts
 repeat' with_reducible refine and_t ?_ ?_
 all_goals as_aux_lemma => kernel_rfl
theorem eveningDesigned_named : Tryd.pinned.checked.prog.funcNamed Rows.eveningDesignedRow.func = some 5 := by kernel_rfl
theorem eveningDesigned_inst : Tryd.f5.isInstance Tryd.pinned.checked.prog Rows.eveningDesignedRow.origin Rows.eveningDesignedRow.targs := of_decide_eq_true (by kernel_rfl)
theorem eveningDesigned_wrap : Tryd.f5.isWrapper Tryd.pinned.checked.prog Rows.eveningDesignedRow.wrapper Rows.eveningDesignedRow.mainSum := by
 unfold Func.isWrapper
 first | (rw [if_pos (by decide +kernel)]; kernel_rfl) | (rw [if_neg (by decide +kernel)]; exact ⟨rfl, rfl⟩)
theorem eveningDesigned_holds : Rows.EveningDesignedSaid :=
 OpenClaim.holds_of_wide 5 Tryd.f5 rfl rfl rfl rfl rfl rfl rfl ⟨rfl, rfl, rfl, rfl, rfl⟩ rfl rfl rfl rfl rfl eveningDesigned_named Tryd.func5 eveningDesigned_facts
  eveningDesigned_inst eveningDesigned_wrap (fun os started H enc _ => eveningDesigned_lifted os started H enc)
end Go.Proofs.YtenmglepjkflhaaDoor
