/-
  EveningHosts returns true and leaves its arguments as they are, whatever the codes and the exchanges are: of the schedule that Made makes of them, Hosts names for each table of each evening one of its guests, and none of the others at the table was a host less often before, nor as often with a lesser number; and the chapter's examples hold. Condition: the listed package variables of the standard library hold what the program's text lays in them.
-/
import Derived.Test.YteabedmomepihaaDoorCoreHxHolds
namespace Go.Proofs.YteabedmomepihaaDoor
open Go Go.ChangeShapes Go.WideShapes Go.ChangeAt Go.RowKit
theorem eveningHosts_at : Tryd.prog.funcNamed "trestle/trestlelaw09.EveningHosts" = some 3 := by kernel_rfl
theorem eveningHosts_card : Rows.EveningHostsCardSaid :=
 Claim7.holds_tied_plain_at .later [] [.data, .data, .data] true (true, "3af06d8e6db1d209998e06e403094e586cac7b2782019c5c35f462469d32642c") false
  eveningHosts_holds (fun _ h => by cases h) (by as_aux_lemma => kernel_rfl) (fun _ h => by cases h) eveningHosts_row_tie rfl ⟨rfl, rfl⟩ (by as_aux_lemma => kernel_rfl) rfl
  (fun f fn hf hfn => by
   obtain rfl : f = 3 := Option.some.inj (eveningHosts_at.symm.trans hf) |>.symm
   obtain rfl : fn = Tryd.f3 := (Option.some.inj (Tryd.func3.symm.trans hfn)).symm
   exact ⟨by as_aux_lemma => kernel_rfl, fun j t ht => by
    rw [Tryd.params3] at ht
    have hm : t ∈ [22, 23] := by simpa using Array.mem_of_getElem? ht
    have hall : ([22, 23].all fun u => !Tryd.prog.wantsStandIn u) = true := by as_aux_lemma => kernel_rfl
    exact (show Tryd.prog.wantsStandIn t = false by simpa using List.all_eq_true.1 hall t hm)⟩)
  (by as_aux_lemma => kernel_rfl)
#print axioms eveningHosts_card
end Go.Proofs.YteabedmomepihaaDoor
