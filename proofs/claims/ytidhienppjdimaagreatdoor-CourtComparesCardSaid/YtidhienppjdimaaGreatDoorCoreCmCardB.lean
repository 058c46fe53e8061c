/-
  For any clauses and any two guests at any places, within the sizes that the law examines, court.Reason and court.Compare answer what the document specifies, and change no argument.
-/
import Derived.Test.YtidhienppjdimaaGreatDoorCoreCmHolds
namespace Go.Proofs.YtidhienppjdimaaGreatDoor
open Go Go.ChangeShapes Go.WideShapes Go.ChangeAt Go.RowKit
theorem courtCompares_at : Tryz.prog.funcNamed "trestle/trestlelaw03.CourtCompares" = some 3 := by kernel_rfl
theorem courtCompares_card : Rows.CourtComparesCardSaid :=
 Claim7.holds_tied_plain_at .later [] [.data, .data, .data, .data, .sentinel, .sentinel, .data, .pinned] true (true, "1fbe694a10a758e4ae7b0922d53f2b20cd4320c22dd8f41f9370e58658f925cb") true
  courtCompares_holds (fun _ h => by cases h) (by as_aux_lemma => kernel_rfl) (fun _ h => by cases h) courtCompares_row_tie rfl ⟨rfl, rfl⟩ (by as_aux_lemma => kernel_rfl) rfl
  (fun f fn hf hfn => by
   obtain rfl : f = 3 := Option.some.inj (courtCompares_at.symm.trans hf) |>.symm
   obtain rfl : fn = Tryz.f3 := (Option.some.inj (Tryz.func3.symm.trans hfn)).symm
   exact ⟨by as_aux_lemma => kernel_rfl, fun j t ht => by
    rw [Tryz.params3] at ht
    have hm : t ∈ [22, 25, 25, 3, 3] := by simpa using Array.mem_of_getElem? ht
    have hall : ([22, 25, 25, 3, 3].all fun u => !Tryz.prog.wantsStandIn u) = true := by as_aux_lemma => kernel_rfl
    exact (show Tryz.prog.wantsStandIn t = false by simpa using List.all_eq_true.1 hall t hm)⟩)
  (by as_aux_lemma => kernel_rfl)
#print axioms courtCompares_card
end Go.Proofs.YtidhienppjdimaaGreatDoor
