/-
  EveningPlans: for every two numbers and every list of sizes the call returns true and leaves its arguments as they were; the package variables that the card lists hold what the program's text lays, and the project is the pruned copy that the seat's page names.
-/
import Derived.Test.YtcnjngiaoomecaaDoorCorePsHolds
namespace Go.Proofs.YtcnjngiaoomecaaDoor
open Go Go.ChangeShapes Go.WideShapes Go.ChangeAt Go.RowKit
theorem eveningPlans_at : Tryd.prog.funcNamed "trestle/trestlelaw09.EveningPlans" = some 3 := by kernel_rfl
theorem eveningPlans_card : Rows.EveningPlansCardSaid :=
 Claim7.holds_tied_plain_at .later [] [.data, .data, .data] true (true, "bfcee845e3966c2b28d26697048d10ae0d89aab479aec9f8f0eff220bf5d46bd") false
  eveningPlans_holds (fun _ h => by cases h) (by as_aux_lemma => kernel_rfl) (fun _ h => by cases h) eveningPlans_row_tie rfl ⟨rfl, rfl⟩ (by as_aux_lemma => kernel_rfl) rfl
  (fun f fn hf hfn => by
   obtain rfl : f = 3 := Option.some.inj (eveningPlans_at.symm.trans hf) |>.symm
   obtain rfl : fn = Tryd.f3 := (Option.some.inj (Tryd.func3.symm.trans hfn)).symm
   exact ⟨by as_aux_lemma => kernel_rfl, fun j t ht => by
    rw [Tryd.params3] at ht
    have hm : t ∈ [3, 22, 3] := by simpa using Array.mem_of_getElem? ht
    have hall : ([3, 22, 3].all fun u => !Tryd.prog.wantsStandIn u) = true := by as_aux_lemma => kernel_rfl
    exact (show Tryd.prog.wantsStandIn t = false by simpa using List.all_eq_true.1 hall t hm)⟩)
  (by as_aux_lemma => kernel_rfl)
#print axioms eveningPlans_card
end Go.Proofs.YtcnjngiaoomecaaDoor
