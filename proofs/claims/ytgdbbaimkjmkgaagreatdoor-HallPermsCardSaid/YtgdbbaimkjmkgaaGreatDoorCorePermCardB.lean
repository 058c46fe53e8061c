/-
  HallPerms holds of the code at its commit: for any two rows of numbers the law returns true and leaves its arguments as they were; condition: the program's own tables lie as its text lays them (the tied card).
-/
import Derived.Test.YtgdbbaimkjmkgaaGreatDoorCorePermHolds
namespace Go.Proofs.YtgdbbaimkjmkgaaGreatDoor
open Go Go.ChangeShapes Go.WideShapes Go.ChangeAt Go.RowKit
theorem hallPerms_at : Tryz.prog.funcNamed "trestle/trestlelaw01.HallPerms" = some 7 := by kernel_rfl
/-- The card. -/
theorem hallPerms_card : Rows.HallPermsCardSaid :=
  Claim7.holds_tied_plain_at .later [] [.data, .data, .data] true (true, "c2b681f60d7f7b576eb2a26b26e28c8f92303ff84580347d4b527fbadc0a5c2c") false
    hallPerms_holds (fun _ h => by cases h) (by as_aux_lemma => kernel_rfl) (fun _ h => by cases h) hallPerms_row_tie rfl ⟨rfl, rfl⟩ (by as_aux_lemma => kernel_rfl) rfl
    (fun f fn hf hfn => by
      obtain rfl : f = 7 := Option.some.inj (hallPerms_at.symm.trans hf) |>.symm
      obtain rfl : fn = Tryz.f7 := (Option.some.inj (Tryz.func7.symm.trans hfn)).symm
      exact ⟨by as_aux_lemma => kernel_rfl, fun j t ht => by
        rw [Tryz.params7] at ht
        have hm : t ∈ [29, 29] := by simpa using Array.mem_of_getElem? ht
        have hall : ([29, 29].all fun u => !Tryz.prog.wantsStandIn u) = true := by as_aux_lemma => kernel_rfl
        exact (show Tryz.prog.wantsStandIn t = false by simpa using List.all_eq_true.1 hall t hm)⟩)
    (by as_aux_lemma => kernel_rfl)
#print axioms hallPerms_card
end Go.Proofs.YtgdbbaimkjmkgaaGreatDoor
