/-
  The law HallFormats answers true for every hall: Format of any hall returns what the document specifies, and the hall reads as it did; listed package variables hold what the program lays.
-/
import Derived.Test.YtfplgbngodmbiaaGreatDoorCoreFmtHolds
namespace Go.Proofs.YtfplgbngodmbiaaGreatDoor
open Go Go.ChangeShapes Go.WideShapes Go.ChangeAt Go.RowKit
theorem hallFormats_at : Tryz.prog.funcNamed "trestle/trestlelaw01.HallFormats" = some 9 := by kernel_rfl
theorem hallFormats_card : Rows.HallFormatsCardSaid :=
  Claim7.holds_tied_plain_at .later [] [.data, .data, .data] true (true, "c2b681f60d7f7b576eb2a26b26e28c8f92303ff84580347d4b527fbadc0a5c2c") false
    hallFormats_holds (fun _ h => by cases h) (by as_aux_lemma => kernel_rfl) (fun _ h => by cases h) hallFormats_row_tie rfl ⟨rfl, rfl⟩ (by as_aux_lemma => kernel_rfl) rfl
    (fun f fn hf hfn => by
      obtain rfl : f = 9 := Option.some.inj (hallFormats_at.symm.trans hf) |>.symm
      obtain rfl : fn = Tryz.f9 := (Option.some.inj (Tryz.func9.symm.trans hfn)).symm
      exact ⟨by as_aux_lemma => kernel_rfl, fun j t ht => by
        rw [Tryz.params9] at ht
        have hm : t ∈ [22] := by simpa using Array.mem_of_getElem? ht
        have hall : ([22].all fun u => !Tryz.prog.wantsStandIn u) = true := by as_aux_lemma => kernel_rfl
        exact (show Tryz.prog.wantsStandIn t = false by simpa using List.all_eq_true.1 hall t hm)⟩)
    (by as_aux_lemma => kernel_rfl)
#print axioms hallFormats_card
end Go.Proofs.YtfplgbngodmbiaaGreatDoor
