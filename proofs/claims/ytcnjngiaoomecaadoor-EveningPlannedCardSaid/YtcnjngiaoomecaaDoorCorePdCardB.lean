/-
  EveningPlanned: for every list of codes and every two bytes the call returns true and leaves its arguments as they were; the package variables that the card lists hold what the program's text lays, and the project is the pruned copy that the seat's page names.
-/
import Derived.Test.YtcnjngiaoomecaaDoorCorePdHolds
namespace Go.Proofs.YtcnjngiaoomecaaDoor
open Go Go.ChangeShapes Go.WideShapes Go.ChangeAt Go.RowKit
theorem eveningPlanned_at : Tryd.prog.funcNamed "trestle/trestlelaw09.EveningPlanned" = some 4 := by kernel_rfl
theorem eveningPlanned_card : Rows.EveningPlannedCardSaid :=
 Claim7.holds_tied_plain_at .later [] [.data, .data, .data] true (true, "bfcee845e3966c2b28d26697048d10ae0d89aab479aec9f8f0eff220bf5d46bd") false
  eveningPlanned_holds (fun _ h => by cases h) (by as_aux_lemma => kernel_rfl) (fun _ h => by cases h) eveningPlanned_row_tie rfl ⟨rfl, rfl⟩ (by as_aux_lemma => kernel_rfl) rfl
  (fun f fn hf hfn => by
   obtain rfl : f = 4 := Option.some.inj (eveningPlanned_at.symm.trans hf) |>.symm
   obtain rfl : fn = Tryd.f4 := (Option.some.inj (Tryd.func4.symm.trans hfn)).symm
   exact ⟨by as_aux_lemma => kernel_rfl, fun j t ht => by
    rw [Tryd.params4] at ht
    have hm : t ∈ [34, 5, 5] := by simpa using Array.mem_of_getElem? ht
    have hall : ([34, 5, 5].all fun u => !Tryd.prog.wantsStandIn u) = true := by as_aux_lemma => kernel_rfl
    exact (show Tryd.prog.wantsStandIn t = false by simpa using List.all_eq_true.1 hall t hm)⟩)
  (by as_aux_lemma => kernel_rfl)
#print axioms eveningPlanned_card
end Go.Proofs.YtcnjngiaoomecaaDoor
