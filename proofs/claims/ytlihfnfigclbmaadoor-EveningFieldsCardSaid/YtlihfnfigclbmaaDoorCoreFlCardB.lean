/-
  EveningFields returns true and leaves its arguments as they are: whatever the three numbers are (64-bit integers), Add and Mul of the field with q elements answer what the document says, and the chapter's examples hold. Condition: the listed package variables of the standard library hold what the program's text lays in them.
-/
import Derived.Test.YtlihfnfigclbmaaDoorCoreFlHolds
namespace Go.Proofs.YtlihfnfigclbmaaDoor
open Go Go.ChangeShapes Go.WideShapes Go.ChangeAt Go.RowKit
theorem eveningFields_at : Tryd.prog.funcNamed "trestle/trestlelaw09.EveningFields" = some 3 := by kernel_rfl
theorem eveningFields_card : Rows.EveningFieldsCardSaid :=
 Claim7.holds_tied_plain_at .later [] [.data, .data, .data] true (true, "0e230950d6d93387784f722970b2569570c5f456be2bd9c3dbde41605836450e") false
  eveningFields_holds (fun _ h => by cases h) (by as_aux_lemma => kernel_rfl) (fun _ h => by cases h) eveningFields_row_tie rfl ⟨rfl, rfl⟩ (by as_aux_lemma => kernel_rfl) rfl
  (fun f fn hf hfn => by
   obtain rfl : f = 3 := Option.some.inj (eveningFields_at.symm.trans hf) |>.symm
   obtain rfl : fn = Tryd.f3 := (Option.some.inj (Tryd.func3.symm.trans hfn)).symm
   exact ⟨by as_aux_lemma => kernel_rfl, fun j t ht => by
    rw [Tryd.params3] at ht
    have hm : t ∈ [3, 3, 3] := by simpa using Array.mem_of_getElem? ht
    have hall : ([3, 3, 3].all fun u => !Tryd.prog.wantsStandIn u) = true := by as_aux_lemma => kernel_rfl
    exact (show Tryd.prog.wantsStandIn t = false by simpa using List.all_eq_true.1 hall t hm)⟩)
  (by as_aux_lemma => kernel_rfl)
#print axioms eveningFields_card
end Go.Proofs.YtlihfnfigclbmaaDoor
