/-
  EveningDesigned: for every three bytes the call returns true and leaves its arguments as they were; the package variables that the card lists hold what the program's text lays, and the project is the pruned copy that the seat's page names.
-/
import Derived.Test.YtenmglepjkflhaaDoorCoreDsHolds
namespace Go.Proofs.YtenmglepjkflhaaDoor
open Go Go.ChangeShapes Go.WideShapes Go.ChangeAt Go.RowKit
theorem eveningDesigned_at : Tryd.prog.funcNamed "trestle/trestlelaw09.EveningDesigned" = some 5 := by kernel_rfl
theorem eveningDesigned_card : Rows.EveningDesignedCardSaid :=
 Claim7.holds_tied_plain_at .later [] [.data, .data, .data] true (true, "7e71679c9d68de5d3a83d94c0c7822b85069c524c5e7bec6749d28e210b112e6") false
  eveningDesigned_holds (fun _ h => by cases h) (by as_aux_lemma => kernel_rfl) (fun _ h => by cases h) eveningDesigned_row_tie rfl ⟨rfl, rfl⟩ (by as_aux_lemma => kernel_rfl) rfl
  (fun f fn hf hfn => by
   obtain rfl : f = 5 := Option.some.inj (eveningDesigned_at.symm.trans hf) |>.symm
   obtain rfl : fn = Tryd.f5 := (Option.some.inj (Tryd.func5.symm.trans hfn)).symm
   exact ⟨by as_aux_lemma => kernel_rfl, fun j t ht => by
    rw [Tryd.params5] at ht
    have hm : t ∈ [5, 5, 5] := by simpa using Array.mem_of_getElem? ht
    have hall : ([5, 5, 5].all fun u => !Tryd.prog.wantsStandIn u) = true := by as_aux_lemma => kernel_rfl
    exact (show Tryd.prog.wantsStandIn t = false by simpa using List.all_eq_true.1 hall t hm)⟩)
  (by as_aux_lemma => kernel_rfl)
#print axioms eveningDesigned_card
end Go.Proofs.YtenmglepjkflhaaDoor
