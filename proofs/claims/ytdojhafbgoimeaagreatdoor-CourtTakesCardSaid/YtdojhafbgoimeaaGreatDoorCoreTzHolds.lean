/- Part of the proof. -/
import Derived.Test.YtdojhafbgoimeaaGreatDoorCoreTzCard
namespace Go.Proofs.YtdojhafbgoimeaaGreatDoor
open Go Go.ChangeShapes Go.WideShapes Go.ChangeAt Go.RowKit
theorem and_t {a b:Bool} (ha:a=true) (hb:b=true):(a&&b)=true:=by rw [ha,hb];rfl
set_option maxRecDepth 100000 in
set_option maxHeartbeats 40000000 in
theorem courtTakes_facts:joinedFacts Tryz.pinned.checked.prog 11 Tryz.f11 Rows.courtTakesSpec Rows.courtTakesRow=true:=by
 unfold joinedFacts
 repeat' with_reducible refine and_t ?_ ?_
 all_goals as_aux_lemma=>kernel_rfl
theorem courtTakes_named:Tryz.pinned.checked.prog.funcNamed Rows.courtTakesRow.func=some 11:=by kernel_rfl
theorem courtTakes_inst:Tryz.f11.isInstance Tryz.pinned.checked.prog Rows.courtTakesRow.origin Rows.courtTakesRow.targs:=of_decide_eq_true (by kernel_rfl)
theorem courtTakes_wrap:Tryz.f11.isWrapper Tryz.pinned.checked.prog Rows.courtTakesRow.wrapper Rows.courtTakesRow.mainSum:=by
 unfold Func.isWrapper
 first| (rw [if_pos (by decide+kernel)];kernel_rfl)| (rw [if_neg (by decide+kernel)];exact ⟨rfl,rfl⟩)
theorem courtTakes_holds:Rows.CourtTakesSaid:=
 OpenClaim.holds_of_wide 11 Tryz.f11 rfl rfl rfl rfl rfl rfl rfl ⟨rfl,rfl,rfl,rfl,rfl⟩ rfl rfl rfl rfl rfl courtTakes_named Tryz.func11 courtTakes_facts
  courtTakes_inst courtTakes_wrap (λos started H enc _=>courtTakes_lifted os started H enc)
end Go.Proofs.YtdojhafbgoimeaaGreatDoor
