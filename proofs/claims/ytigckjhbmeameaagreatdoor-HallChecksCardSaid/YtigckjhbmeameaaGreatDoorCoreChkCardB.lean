/-
  For all halls that Few accepts (at most 20 tables, with names of at most 40 bytes and at most 40 open seats each), every name of at most 40 bytes and every number, HallChecks returns true and does not panic: Check, CheckAll, Seats, Count, First and Find answer as the reference does, and the tables are not modified; for larger halls or names it returns true as well. Conditions: those of the given statement HallChecksCardSaid alone.
-/
import Derived.Test.YtigckjhbmeameaaGreatDoorCoreChkHolds
namespace Go.Proofs.YtigckjhbmeameaaGreatDoor
open Go Go.ChangeShapes Go.WideShapes Go.ChangeAt Go.RowKit
theorem hallChecks_at : Tryz.prog.funcNamed "trestle/trestlelaw01.HallChecks" = some 3 := by kernel_rfl
/-- The card. -/
theorem hallChecks_card : Rows.HallChecksCardSaid :=
  Claim7.holds_tied_plain_at .later [] [.data, .data, .data] true (true, "c2b681f60d7f7b576eb2a26b26e28c8f92303ff84580347d4b527fbadc0a5c2c") false
    hallChecks_holds (fun _ h => by cases h) (by as_aux_lemma => kernel_rfl) (fun _ h => by cases h) hallChecks_row_tie rfl ⟨rfl, rfl⟩ (by as_aux_lemma => kernel_rfl) rfl
    (fun f fn hf hfn => by
      obtain rfl : f = 3 := Option.some.inj (hallChecks_at.symm.trans hf) |>.symm
      obtain rfl : fn = Tryz.f3 := (Option.some.inj (Tryz.func3.symm.trans hfn)).symm
      exact ⟨by as_aux_lemma => kernel_rfl, fun j t ht => by
        rw [Tryz.params3] at ht
        have hm : t ∈ [22, 9, 3] := by simpa using Array.mem_of_getElem? ht
        have hall : ([22, 9, 3].all fun u => !Tryz.prog.wantsStandIn u) = true := by as_aux_lemma => kernel_rfl
        exact (show Tryz.prog.wantsStandIn t = false by simpa using List.all_eq_true.1 hall t hm)⟩)
    (by as_aux_lemma => kernel_rfl)
#print axioms hallChecks_card
end Go.Proofs.YtigckjhbmeameaaGreatDoor
