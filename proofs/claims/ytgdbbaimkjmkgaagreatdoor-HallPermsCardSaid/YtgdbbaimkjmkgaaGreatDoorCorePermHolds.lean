/-
  Part of the engine that the claim is proved with: it states nothing of the document by itself.
-/
import Derived.Test.YtgdbbaimkjmkgaaGreatDoorCorePermCard
namespace Go.Proofs.YtgdbbaimkjmkgaaGreatDoor
open Go Go.ChangeShapes Go.WideShapes Go.ChangeAt Go.RowKit
theorem and_t {a b : Bool} (ha : a = true) (hb : b = true) : (a && b) = true := by rw [ha, hb]; rfl
set_option maxRecDepth 100000 in
set_option maxHeartbeats 40000000 in
theorem hallPerms_facts : joinedFacts Tryz.pinned.checked.prog 7 Tryz.f7 Rows.hallPermsSpec Rows.hallPermsRow = true := by
  unfold joinedFacts
  repeat' with_reducible refine and_t ?_ ?_
  all_goals as_aux_lemma => kernel_rfl
#print axioms hallPerms_facts
theorem hallPerms_named : Tryz.pinned.checked.prog.funcNamed Rows.hallPermsRow.func = some 7 := by kernel_rfl
theorem hallPerms_inst : Tryz.f7.isInstance Tryz.pinned.checked.prog Rows.hallPermsRow.origin Rows.hallPermsRow.targs := of_decide_eq_true (by kernel_rfl)
theorem hallPerms_wrap : Tryz.f7.isWrapper Tryz.pinned.checked.prog Rows.hallPermsRow.wrapper Rows.hallPermsRow.mainSum := by
  unfold Func.isWrapper
  first | (rw [if_pos (by decide +kernel)]; kernel_rfl) | (rw [if_neg (by decide +kernel)]; exact ⟨rfl, rfl⟩)
theorem hallPerms_holds : Rows.HallPermsSaid :=
  OpenClaim.holds_of_wide 7 Tryz.f7 rfl rfl rfl rfl rfl rfl rfl ⟨rfl, rfl, rfl, rfl, rfl⟩ rfl rfl rfl rfl rfl hallPerms_named Tryz.func7 hallPerms_facts
    hallPerms_inst hallPerms_wrap (fun os started H enc _ => hallPerms_lifted os started H enc)
#print axioms hallPerms_holds
end Go.Proofs.YtgdbbaimkjmkgaaGreatDoor
