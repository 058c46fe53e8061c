/-
  EveningMeets: for every number, every schedule and any two numbers the call returns true and leaves its arguments as they were; the package variables that the card lists hold what the program's text lays, and the project is the pruned copy that the seat's page names.
-/
import Derived.Test.YtenmglepjkflhaaGreatDoorCoreMeHolds
namespace Go.Proofs.YtenmglepjkflhaaGreatDoor
open Go Go.ChangeShapes Go.WideShapes Go.ChangeAt Go.RowKit
theorem eveningMeets_at : Tryz.prog.funcNamed "trestle/trestlelaw09.EveningMeets" = some 3 := by kernel_rfl
theorem eveningMeets_card : Rows.EveningMeetsCardSaid :=
 Claim7.holds_tied_plain_at .later [] [.data, .data, .data] true (true, "9474fa5acd627c970a0605d8388d3e1c11fad177e86652d3e17bfff41e77331f") false
  eveningMeets_holds (fun _ h => by cases h) (by as_aux_lemma => kernel_rfl) (fun _ h => by cases h) eveningMeets_row_tie rfl ⟨rfl, rfl⟩ (by as_aux_lemma => kernel_rfl) rfl
  (fun f fn hf hfn => by
   obtain rfl : f = 3 := Option.some.inj (eveningMeets_at.symm.trans hf) |>.symm
   obtain rfl : fn = Tryz.f3 := (Option.some.inj (Tryz.func3.symm.trans hfn)).symm
   exact ⟨by as_aux_lemma => kernel_rfl, fun j t ht => by
    rw [Tryz.params3] at ht
    have hm : t ∈ [3, 22, 3, 3] := by simpa using Array.mem_of_getElem? ht
    have hall : ([3, 22, 3, 3].all fun u => !Tryz.prog.wantsStandIn u) = true := by as_aux_lemma => kernel_rfl
    exact (show Tryz.prog.wantsStandIn t = false by simpa using List.all_eq_true.1 hall t hm)⟩)
  (by as_aux_lemma => kernel_rfl)
#print axioms eveningMeets_card
end Go.Proofs.YtenmglepjkflhaaGreatDoor
