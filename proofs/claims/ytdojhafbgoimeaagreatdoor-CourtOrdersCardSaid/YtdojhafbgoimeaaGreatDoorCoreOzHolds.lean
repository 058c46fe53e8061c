/- Part of the proof. -/
import Derived.Test.YtdojhafbgoimeaaGreatDoorCoreOzCard
namespace Go.Proofs.YtdojhafbgoimeaaGreatDoor
open Go Go.ChangeShapes Go.WideShapes Go.ChangeAt Go.RowKit
theorem and_t {a b:Bool} (ha:a=true) (hb:b=true):(a&&b)=true:=by rw [ha,hb];rfl
set_option maxRecDepth 100000 in
set_option maxHeartbeats 40000000 in
theorem courtOrders_facts:joinedFacts Tryz.pinned.checked.prog 3 Tryz.f3 Rows.courtOrdersSpec Rows.courtOrdersRow=true:=by
 unfold joinedFacts
 repeat' with_reducible refine and_t ?_ ?_
 all_goals as_aux_lemma=>kernel_rfl
theorem courtOrders_named:Tryz.pinned.checked.prog.funcNamed Rows.courtOrdersRow.func=some 3:=by kernel_rfl
theorem courtOrders_inst:Tryz.f3.isInstance Tryz.pinned.checked.prog Rows.courtOrdersRow.origin Rows.courtOrdersRow.targs:=of_decide_eq_true (by kernel_rfl)
theorem courtOrders_wrap:Tryz.f3.isWrapper Tryz.pinned.checked.prog Rows.courtOrdersRow.wrapper Rows.courtOrdersRow.mainSum:=by
 unfold Func.isWrapper
 first| (rw [if_pos (by decide+kernel)];kernel_rfl)| (rw [if_neg (by decide+kernel)];exact ⟨rfl,rfl⟩)
theorem courtOrders_holds:Rows.CourtOrdersSaid:=
 OpenClaim.holds_of_wide 3 Tryz.f3 rfl rfl rfl rfl rfl rfl rfl ⟨rfl,rfl,rfl,rfl,rfl⟩ rfl rfl rfl rfl rfl courtOrders_named Tryz.func3 courtOrders_facts
  courtOrders_inst courtOrders_wrap (λos started H enc _=>courtOrders_lifted os started H enc)
end Go.Proofs.YtdojhafbgoimeaaGreatDoor
