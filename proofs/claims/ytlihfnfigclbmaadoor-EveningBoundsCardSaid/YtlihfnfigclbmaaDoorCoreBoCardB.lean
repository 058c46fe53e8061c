/-
  EveningBounds returns true and leaves its arguments as they are, whatever the numbers are and whatever the sizes: LeastMost and MostEvenings answer what the document says of at most 70 sizes, and the chapter's examples hold. Condition: the listed package variables of the standard library hold what the program's text lays in them.
-/
import Derived.Test.YtlihfnfigclbmaaDoorCoreBoHolds
namespace Go.Proofs.YtlihfnfigclbmaaDoor
open Go Go.ChangeShapes Go.WideShapes Go.ChangeAt Go.RowKit
theorem eveningBounds_at : Tryd.prog.funcNamed "trestle/trestlelaw09.EveningBounds" = some 5 := by kernel_rfl
theorem eveningBounds_card : Rows.EveningBoundsCardSaid :=
 Claim7.holds_tied_plain_at .later [] [.data, .data, .data] true (true, "0e230950d6d93387784f722970b2569570c5f456be2bd9c3dbde41605836450e") false
  eveningBounds_holds (fun _ h => by cases h) (by as_aux_lemma => kernel_rfl) (fun _ h => by cases h) eveningBounds_row_tie rfl ⟨rfl, rfl⟩ (by as_aux_lemma => kernel_rfl) rfl
  (fun f fn hf hfn => by
   obtain rfl : f = 5 := Option.some.inj (eveningBounds_at.symm.trans hf) |>.symm
   obtain rfl : fn = Tryd.f5 := (Option.some.inj (Tryd.func5.symm.trans hfn)).symm
   exact ⟨by as_aux_lemma => kernel_rfl, fun j t ht => by
    rw [Tryd.params5] at ht
    have hm : t ∈ [3, 24, 3, 3] := by simpa using Array.mem_of_getElem? ht
    have hall : ([3, 24, 3, 3].all fun u => !Tryd.prog.wantsStandIn u) = true := by as_aux_lemma => kernel_rfl
    exact (show Tryd.prog.wantsStandIn t = false by simpa using List.all_eq_true.1 hall t hm)⟩)
  (by as_aux_lemma => kernel_rfl)
#print axioms eveningBounds_card
end Go.Proofs.YtlihfnfigclbmaaDoor
