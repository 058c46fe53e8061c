/-
  Two texts in one compare as the first does, and as the second does where the first ties.
-/
import Derived.Test.YtidhienppjdimaaGreatDoorCoreRgHolds
namespace Go.Proofs.YtidhienppjdimaaGreatDoor
open Go Go.ChangeShapes Go.WideShapes Go.ChangeAt Go.RowKit
theorem courtRefines_at : Tryz.prog.funcNamed "trestle/trestlelaw03.CourtRefines" = some 5 := by kernel_rfl
theorem courtRefines_card : Rows.CourtRefinesCardSaid :=
 Claim7.holds_tied_plain_at .later [] [.data, .data, .data, .data, .sentinel, .sentinel, .data, .pinned] true (true, "1fbe694a10a758e4ae7b0922d53f2b20cd4320c22dd8f41f9370e58658f925cb") true
  courtRefines_holds (fun _ h => by cases h) (by as_aux_lemma => kernel_rfl) (fun _ h => by cases h) courtRefines_row_tie rfl ⟨rfl, rfl⟩ (by as_aux_lemma => kernel_rfl) rfl
  (fun f fn hf hfn => by
   obtain rfl : f = 5 := Option.some.inj (courtRefines_at.symm.trans hf) |>.symm
   obtain rfl : fn = Tryz.f5 := (Option.some.inj (Tryz.func5.symm.trans hfn)).symm
   exact ⟨by as_aux_lemma => kernel_rfl, fun j t ht => by
    rw [Tryz.params5] at ht
    have hm : t ∈ [31, 31, 39] := by simpa using Array.mem_of_getElem? ht
    have hall : ([31, 31, 39].all fun u => !Tryz.prog.wantsStandIn u) = true := by as_aux_lemma => kernel_rfl
    exact (show Tryz.prog.wantsStandIn t = false by simpa using List.all_eq_true.1 hall t hm)⟩)
  (by as_aux_lemma => kernel_rfl)
#print axioms courtRefines_card
end Go.Proofs.YtidhienppjdimaaGreatDoor
