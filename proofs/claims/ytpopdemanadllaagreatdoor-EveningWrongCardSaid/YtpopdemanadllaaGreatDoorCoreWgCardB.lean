/-
  EveningWrong: for every list of codes, every list of lists of exchanges (pairs of bytes), every three bytes and every number the call returns true and leaves its arguments as they were; the package variables that the card lists hold what the program's text lays, and the project is the pruned copy that the seat's page names.
-/
import Derived.Test.YtpopdemanadllaaGreatDoorCoreWgHolds
namespace Go.Proofs.YtpopdemanadllaaGreatDoor
open Go Go.ChangeShapes Go.WideShapes Go.ChangeAt Go.RowKit
theorem eveningWrong_at : Tryz.prog.funcNamed "trestle/trestlelaw09.EveningWrong" = some 3 := by kernel_rfl
theorem eveningWrong_card : Rows.EveningWrongCardSaid :=
 Claim7.holds_tied_plain_at .later [] [.data, .data, .data] true (true, "b1dace608b4d5623be3fd2dc70dc94c90800901bd920d0c9ccfef0913bccd350") false
  eveningWrong_holds (fun _ h => by cases h) (by as_aux_lemma => kernel_rfl) (fun _ h => by cases h) eveningWrong_row_tie rfl ⟨rfl, rfl⟩ (by as_aux_lemma => kernel_rfl) rfl
  (fun f fn hf hfn => by
   obtain rfl : f = 3 := Option.some.inj (eveningWrong_at.symm.trans hf) |>.symm
   obtain rfl : fn = Tryz.f3 := (Option.some.inj (Tryz.func3.symm.trans hfn)).symm
   exact ⟨by as_aux_lemma => kernel_rfl, fun j t ht => by
    rw [Tryz.params3] at ht
    have hm : t ∈ [22, 23, 5, 5, 5, 3] := by simpa using Array.mem_of_getElem? ht
    have hall : ([22, 23, 5, 5, 5, 3].all fun u => !Tryz.prog.wantsStandIn u) = true := by as_aux_lemma => kernel_rfl
    exact (show Tryz.prog.wantsStandIn t = false by simpa using List.all_eq_true.1 hall t hm)⟩)
  (by as_aux_lemma => kernel_rfl)
#print axioms eveningWrong_card
end Go.Proofs.YtpopdemanadllaaGreatDoor
