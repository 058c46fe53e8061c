/- Part of the proof. -/
import Derived.Test.YtdojhafbgoimeaaGreatDoorCoreWzCard
namespace Go.Proofs.YtdojhafbgoimeaaGreatDoor
open Go Go.ChangeShapes Go.WideShapes Go.ChangeAt Go.RowKit
theorem and_t {a b:Bool} (ha:a=true) (hb:b=true):(a&&b)=true:=by rw [ha,hb];rfl
set_option maxRecDepth 100000 in
set_option maxHeartbeats 40000000 in
theorem courtWeak_facts:joinedFacts Tryz.pinned.checked.prog 8 Tryz.f8 Rows.courtWeakSpec Rows.courtWeakRow=true:=by
 unfold joinedFacts
 repeat' with_reducible refine and_t ?_ ?_
 all_goals as_aux_lemma=>kernel_rfl
theorem courtWeak_named:Tryz.pinned.checked.prog.funcNamed Rows.courtWeakRow.func=some 8:=by kernel_rfl
theorem courtWeak_inst:Tryz.f8.isInstance Tryz.pinned.checked.prog Rows.courtWeakRow.origin Rows.courtWeakRow.targs:=of_decide_eq_true (by kernel_rfl)
theorem courtWeak_wrap:Tryz.f8.isWrapper Tryz.pinned.checked.prog Rows.courtWeakRow.wrapper Rows.courtWeakRow.mainSum:=by
 unfold Func.isWrapper
 first| (rw [if_pos (by decide+kernel)];kernel_rfl)| (rw [if_neg (by decide+kernel)];exact ⟨rfl,rfl⟩)
theorem courtWeak_holds:Rows.CourtWeakSaid:=
 OpenClaim.holds_of_wide 8 Tryz.f8 rfl rfl rfl rfl rfl rfl rfl ⟨rfl,rfl,rfl,rfl,rfl⟩ rfl rfl rfl rfl rfl courtWeak_named Tryz.func8 courtWeak_facts
  courtWeak_inst courtWeak_wrap (λos started H enc _=>courtWeak_lifted os started H enc)
end Go.Proofs.YtdojhafbgoimeaaGreatDoor
