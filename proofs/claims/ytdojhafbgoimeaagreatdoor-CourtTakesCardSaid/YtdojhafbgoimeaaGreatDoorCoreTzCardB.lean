/-
  CourtTakes: for every list of exchanges of codes and every list of persons the call returns true and leaves its arguments as they were; the package variables that the card lists hold what the program's text lays, and the project is the pruned copy that the seat's page names.
-/
import Derived.Test.YtdojhafbgoimeaaGreatDoorCoreTzHolds
namespace Go.Proofs.YtdojhafbgoimeaaGreatDoor
open Go Go.ChangeShapes Go.WideShapes Go.ChangeAt Go.RowKit
theorem courtTakes_at:Tryz.prog.funcNamed "trestle/trestlelaw03.CourtTakes" =some 11:=by kernel_rfl
theorem courtTakes_card:Rows.CourtTakesCardSaid:=
 Claim7.holds_tied_plain_at .later [] [.data,.data,.data,.data,.sentinel,.sentinel,.data,.pinned] true (true, "5eb11918a698a40c6d5ed483f71d038bd065799aa4b8ddc08c45fa4d2bdd0d34") true
  courtTakes_holds (λ_ h=>by cases h) (by as_aux_lemma=>kernel_rfl) (λ_ h=>by cases h) courtTakes_row_tie rfl ⟨rfl,rfl⟩ (by as_aux_lemma=>kernel_rfl) rfl
  (λf fn hf hfn=>by
   obtain rfl:f=11:=Option.some.inj (courtTakes_at.symm.trans hf)|>.symm
   obtain rfl:fn=Tryz.f11:=(Option.some.inj (Tryz.func11.symm.trans hfn)).symm
   exact ⟨by as_aux_lemma=>kernel_rfl,λj t ht=>by
    rw [Tryz.params11] at ht
    have hm:t∈ [76,48]:=by simpa using Array.mem_of_getElem? ht
    have hall:([76,48].all λu=> !Tryz.prog.wantsStandIn u)=true:=by as_aux_lemma=>kernel_rfl
    exact (show Tryz.prog.wantsStandIn t=false by simpa using List.all_eq_true.1 hall t hm)⟩)
  (by as_aux_lemma=>kernel_rfl)
#print axioms courtTakes_card
end Go.Proofs.YtdojhafbgoimeaaGreatDoor
