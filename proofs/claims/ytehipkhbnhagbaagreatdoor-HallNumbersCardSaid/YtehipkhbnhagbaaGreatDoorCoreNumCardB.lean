/-
  For all codes and every number: the seats of the hall made of the codes are numbered without gaps, each table is found by its name, and numbers outside belong to no table (HallNumbers), at this commit; no further conditions.
-/
import Derived.Test.YtehipkhbnhagbaaGreatDoorCoreNumHolds
namespace Go.Proofs.YtehipkhbnhagbaaGreatDoor
open Go Go.ChangeShapes Go.WideShapes Go.ChangeAt Go.RowKit
theorem hallNumbers_at : Tryz.prog.funcNamed "trestle/trestlelaw01.HallNumbers" = some 16 := by kernel_rfl
/-- The card. -/
theorem hallNumbers_card : Rows.HallNumbersCardSaid :=
  Claim7.holds_tied_plain_at .later [] [.data, .data, .data] true (true, "c2b681f60d7f7b576eb2a26b26e28c8f92303ff84580347d4b527fbadc0a5c2c") false
    hallNumbers_holds (fun _ h => by cases h) (by as_aux_lemma => kernel_rfl) (fun _ h => by cases h) hallNumbers_row_tie rfl ⟨rfl, rfl⟩ (by as_aux_lemma => kernel_rfl) rfl
    (fun f fn hf hfn => by
      obtain rfl : f = 16 := Option.some.inj (hallNumbers_at.symm.trans hf) |>.symm
      obtain rfl : fn = Tryz.f16 := (Option.some.inj (Tryz.func16.symm.trans hfn)).symm
      exact ⟨by as_aux_lemma => kernel_rfl, fun j t ht => by
        rw [Tryz.params16] at ht
        have hm : t ∈ [65, 3] := by simpa using Array.mem_of_getElem? ht
        have hall : ([65, 3].all fun u => !Tryz.prog.wantsStandIn u) = true := by as_aux_lemma => kernel_rfl
        exact (show Tryz.prog.wantsStandIn t = false by simpa using List.all_eq_true.1 hall t hm)⟩)
    (by as_aux_lemma => kernel_rfl)
#print axioms hallNumbers_card
end Go.Proofs.YtehipkhbnhagbaaGreatDoor
