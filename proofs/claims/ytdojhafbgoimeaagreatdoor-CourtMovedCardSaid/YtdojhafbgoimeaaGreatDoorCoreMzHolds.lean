/- Part of the proof. -/
import Derived.Test.YtdojhafbgoimeaaGreatDoorCoreMzCard
namespace Go.Proofs.YtdojhafbgoimeaaGreatDoor
open Go Go.ChangeShapes Go.WideShapes Go.ChangeAt Go.RowKit
theorem and_t {a b:Bool} (ha:a=true) (hb:b=true):(a&&b)=true:=by rw [ha,hb];rfl
set_option maxRecDepth 100000 in
set_option maxHeartbeats 40000000 in
theorem courtMoved_facts:joinedFacts Tryz.pinned.checked.prog 10 Tryz.f10 Rows.courtMovedSpec Rows.courtMovedRow=true:=by
 unfold joinedFacts
 repeat' with_reducible refine and_t ?_ ?_
 all_goals as_aux_lemma=>kernel_rfl
theorem courtMoved_named:Tryz.pinned.checked.prog.funcNamed Rows.courtMovedRow.func=some 10:=by kernel_rfl
theorem courtMoved_inst:Tryz.f10.isInstance Tryz.pinned.checked.prog Rows.courtMovedRow.origin Rows.courtMovedRow.targs:=of_decide_eq_true (by kernel_rfl)
theorem courtMoved_wrap:Tryz.f10.isWrapper Tryz.pinned.checked.prog Rows.courtMovedRow.wrapper Rows.courtMovedRow.mainSum:=by
 unfold Func.isWrapper
 first| (rw [if_pos (by decide+kernel)];kernel_rfl)| (rw [if_neg (by decide+kernel)];exact ⟨rfl,rfl⟩)
theorem courtMoved_holds:Rows.CourtMovedSaid:=
 OpenClaim.holds_of_wide 10 Tryz.f10 rfl rfl rfl rfl rfl rfl rfl ⟨rfl,rfl,rfl,rfl,rfl⟩ rfl rfl rfl rfl rfl courtMoved_named Tryz.func10 courtMoved_facts
  courtMoved_inst courtMoved_wrap (λos started H enc _=>courtMoved_lifted os started H enc)
end Go.Proofs.YtdojhafbgoimeaaGreatDoor
