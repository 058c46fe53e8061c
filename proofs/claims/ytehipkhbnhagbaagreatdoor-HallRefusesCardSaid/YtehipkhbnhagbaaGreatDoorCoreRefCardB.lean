/-
  For all codes, bytes and every number: a hall with one table that is not valid, or with a name twice, is refused with the table's index, and nothing is told of it (HallRefuses), at this commit; no further conditions.
-/
import Derived.Test.YtehipkhbnhagbaaGreatDoorCoreRefHolds
namespace Go.Proofs.YtehipkhbnhagbaaGreatDoor
open Go Go.ChangeShapes Go.WideShapes Go.ChangeAt Go.RowKit
theorem hallRefuses_at : Tryz.prog.funcNamed "trestle/trestlelaw01.HallRefuses" = some 18 := by kernel_rfl
/-- The card. -/
theorem hallRefuses_card : Rows.HallRefusesCardSaid :=
  Claim7.holds_tied_plain_at .later [] [.data, .data, .data] true (true, "c2b681f60d7f7b576eb2a26b26e28c8f92303ff84580347d4b527fbadc0a5c2c") false
    hallRefuses_holds (fun _ h => by cases h) (by as_aux_lemma => kernel_rfl) (fun _ h => by cases h) hallRefuses_row_tie rfl ⟨rfl, rfl⟩ (by as_aux_lemma => kernel_rfl) rfl
    (fun f fn hf hfn => by
      obtain rfl : f = 18 := Option.some.inj (hallRefuses_at.symm.trans hf) |>.symm
      obtain rfl : fn = Tryz.f18 := (Option.some.inj (Tryz.func18.symm.trans hfn)).symm
      exact ⟨by as_aux_lemma => kernel_rfl, fun j t ht => by
        rw [Tryz.params18] at ht
        have hm : t ∈ [65, 5, 5, 3] := by simpa using Array.mem_of_getElem? ht
        have hall : ([65, 5, 5, 3].all fun u => !Tryz.prog.wantsStandIn u) = true := by as_aux_lemma => kernel_rfl
        exact (show Tryz.prog.wantsStandIn t = false by simpa using List.all_eq_true.1 hall t hm)⟩)
    (by as_aux_lemma => kernel_rfl)
#print axioms hallRefuses_card
end Go.Proofs.YtehipkhbnhagbaaGreatDoor
