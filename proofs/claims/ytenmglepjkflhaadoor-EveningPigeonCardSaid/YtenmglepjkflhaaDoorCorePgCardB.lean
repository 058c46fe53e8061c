/-
  EveningPigeon: for every list of codes, every list of lists of exchanges (pairs of bytes) and every byte the call returns true and leaves its arguments as they were; the package variables that the card lists hold what the program's text lays, and the project is the pruned copy that the seat's page names.
-/
import Derived.Test.YtenmglepjkflhaaDoorCorePgHolds
namespace Go.Proofs.YtenmglepjkflhaaDoor
open Go Go.ChangeShapes Go.WideShapes Go.ChangeAt Go.RowKit
theorem eveningPigeon_at : Tryd.prog.funcNamed "trestle/trestlelaw09.EveningPigeon" = some 3 := by kernel_rfl
theorem eveningPigeon_card : Rows.EveningPigeonCardSaid :=
 Claim7.holds_tied_plain_at .later [] [.data, .data, .data] true (true, "7e71679c9d68de5d3a83d94c0c7822b85069c524c5e7bec6749d28e210b112e6") false
  eveningPigeon_holds (fun _ h => by cases h) (by as_aux_lemma => kernel_rfl) (fun _ h => by cases h) eveningPigeon_row_tie rfl ⟨rfl, rfl⟩ (by as_aux_lemma => kernel_rfl) rfl
  (fun f fn hf hfn => by
   obtain rfl : f = 3 := Option.some.inj (eveningPigeon_at.symm.trans hf) |>.symm
   obtain rfl : fn = Tryd.f3 := (Option.some.inj (Tryd.func3.symm.trans hfn)).symm
   exact ⟨by as_aux_lemma => kernel_rfl, fun j t ht => by
    rw [Tryd.params3] at ht
    have hm : t ∈ [22, 23, 5] := by simpa using Array.mem_of_getElem? ht
    have hall : ([22, 23, 5].all fun u => !Tryd.prog.wantsStandIn u) = true := by as_aux_lemma => kernel_rfl
    exact (show Tryd.prog.wantsStandIn t = false by simpa using List.all_eq_true.1 hall t hm)⟩)
  (by as_aux_lemma => kernel_rfl)
#print axioms eveningPigeon_card
end Go.Proofs.YtenmglepjkflhaaDoor
