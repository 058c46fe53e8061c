/-
  trestlelaw01.HallParses answers true, whatever the text is, and leaves it as it was; its conditions are those that the given row prints: the listed package variables read as the program text lays them.
-/
import Derived.Test.YtpcokmpipjcndaaGreatDoorCoreHpHolds
namespace Go.Proofs.YtpcokmpipjcndaaGreatDoor
open Go Go.ChangeShapes Go.WideShapes Go.ChangeAt Go.RowKit
theorem hallParses_at : Tryz.prog.funcNamed "trestle/trestlelaw01.HallParses" = some 3 := by kernel_rfl
theorem hallParses_card : Rows.HallParsesCardSaid :=
 Claim7.holds_tied_plain_at .later [] [.data, .data, .data, .data, .pinned] true (true, "abb1887a87b83c4bd67327a0f9dbfac9eae01ab561c4528495dc10069435f4f8") false
  hallParses_holds (fun _ h => by cases h) (by as_aux_lemma => kernel_rfl) (fun _ h => by cases h) hallParses_row_tie rfl ⟨rfl, rfl⟩ (by as_aux_lemma => kernel_rfl) rfl
  (fun f fn hf hfn => by
   obtain rfl : f = 3 := Option.some.inj (hallParses_at.symm.trans hf) |>.symm
   obtain rfl : fn = Tryz.f3 := (Option.some.inj (Tryz.func3.symm.trans hfn)).symm
   exact ⟨by as_aux_lemma => kernel_rfl, fun j t ht => by
    rw [Tryz.params3] at ht
    have hm : t ∈ [9] := by simpa using Array.mem_of_getElem? ht
    have hall : ([9].all fun u => !Tryz.prog.wantsStandIn u) = true := by as_aux_lemma => kernel_rfl
    exact (show Tryz.prog.wantsStandIn t = false by simpa using List.all_eq_true.1 hall t hm)⟩)
  (by as_aux_lemma => kernel_rfl)
#print axioms hallParses_card
end Go.Proofs.YtpcokmpipjcndaaGreatDoor
