/-
  trestlelaw03.CourtFormats answers true, whatever the clauses are, and leaves them as they were; its conditions are those that the given row prints: the listed package variables read as the program text lays them.
-/
import Derived.Test.YtcacemdhmfjliaaGreatDoorCoreCfHolds
namespace Go.Proofs.YtcacemdhmfjliaaGreatDoor
open Go Go.ChangeShapes Go.WideShapes Go.ChangeAt Go.RowKit
theorem courtFormats_at : Tryz.prog.funcNamed "trestle/trestlelaw03.CourtFormats" = some 6 := by kernel_rfl
theorem courtFormats_card : Rows.CourtFormatsCardSaid :=
 Claim7.holds_tied_plain_at .later [] [.data, .data, .data, .data, .sentinel, .sentinel, .data, .pinned] true (true, "10b2fcda090e2f7b86e438f1cf980725390b02444053392eb017aa8d2b239f8d") true
  courtFormats_holds (fun _ h => by cases h) (by as_aux_lemma => kernel_rfl) (fun _ h => by cases h) courtFormats_row_tie rfl ⟨rfl, rfl⟩ (by as_aux_lemma => kernel_rfl) rfl
  (fun f fn hf hfn => by
   obtain rfl : f = 6 := Option.some.inj (courtFormats_at.symm.trans hf) |>.symm
   obtain rfl : fn = Tryz.f6 := (Option.some.inj (Tryz.func6.symm.trans hfn)).symm
   exact ⟨by as_aux_lemma => kernel_rfl, fun j t ht => by
    rw [Tryz.params6] at ht
    have hm : t ∈ [22] := by simpa using Array.mem_of_getElem? ht
    have hall : ([22].all fun u => !Tryz.prog.wantsStandIn u) = true := by as_aux_lemma => kernel_rfl
    exact (show Tryz.prog.wantsStandIn t = false by simpa using List.all_eq_true.1 hall t hm)⟩)
  (by as_aux_lemma => kernel_rfl)
#print axioms courtFormats_card
end Go.Proofs.YtcacemdhmfjliaaGreatDoor
