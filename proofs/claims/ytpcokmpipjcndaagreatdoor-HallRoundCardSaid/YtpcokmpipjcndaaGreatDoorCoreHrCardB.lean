/-
  trestlelaw01.HallRound answers true, whatever the codes and the text are, and leaves them as they were; its conditions are those that the given row prints: the listed package variables read as the program text lays them.
-/
import Derived.Test.YtpcokmpipjcndaaGreatDoorCoreHrHolds
namespace Go.Proofs.YtpcokmpipjcndaaGreatDoor
open Go Go.ChangeShapes Go.WideShapes Go.ChangeAt Go.RowKit
theorem hallRound_at : Tryz.prog.funcNamed "trestle/trestlelaw01.HallRound" = some 4 := by kernel_rfl
theorem hallRound_card : Rows.HallRoundCardSaid :=
 Claim7.holds_tied_plain_at .later [] [.data, .data, .data, .data, .pinned] true (true, "abb1887a87b83c4bd67327a0f9dbfac9eae01ab561c4528495dc10069435f4f8") false
  hallRound_holds (fun _ h => by cases h) (by as_aux_lemma => kernel_rfl) (fun _ h => by cases h) hallRound_row_tie rfl ⟨rfl, rfl⟩ (by as_aux_lemma => kernel_rfl) rfl
  (fun f fn hf hfn => by
   obtain rfl : f = 4 := Option.some.inj (hallRound_at.symm.trans hf) |>.symm
   obtain rfl : fn = Tryz.f4 := (Option.some.inj (Tryz.func4.symm.trans hfn)).symm
   exact ⟨by as_aux_lemma => kernel_rfl, fun j t ht => by
    rw [Tryz.params4] at ht
    have hm : t ∈ [24, 9] := by simpa using Array.mem_of_getElem? ht
    have hall : ([24, 9].all fun u => !Tryz.prog.wantsStandIn u) = true := by as_aux_lemma => kernel_rfl
    exact (show Tryz.prog.wantsStandIn t = false by simpa using List.all_eq_true.1 hall t hm)⟩)
  (by as_aux_lemma => kernel_rfl)
#print axioms hallRound_card
end Go.Proofs.YtpcokmpipjcndaaGreatDoor
