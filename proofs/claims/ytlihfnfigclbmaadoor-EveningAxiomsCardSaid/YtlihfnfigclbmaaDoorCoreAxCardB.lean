/-
  EveningAxioms returns true and leaves its arguments as they are, whatever four bytes it is called with: Add and Mul of each field are associative, commutative and distributive, 0 and 1 are neutral, each element has exactly one opposite and each but 0 exactly one inverse, and the chapter's examples hold. Condition: the listed package variables of the standard library hold what the program's text lays in them.
-/
import Derived.Test.YtlihfnfigclbmaaDoorCoreAxHolds
namespace Go.Proofs.YtlihfnfigclbmaaDoor
open Go Go.ChangeShapes Go.WideShapes Go.ChangeAt Go.RowKit
theorem eveningAxioms_at : Tryd.prog.funcNamed "trestle/trestlelaw09.EveningAxioms" = some 4 := by kernel_rfl
theorem eveningAxioms_card : Rows.EveningAxiomsCardSaid :=
 Claim7.holds_tied_plain_at .later [] [.data, .data, .data] true (true, "0e230950d6d93387784f722970b2569570c5f456be2bd9c3dbde41605836450e") false
  eveningAxioms_holds (fun _ h => by cases h) (by as_aux_lemma => kernel_rfl) (fun _ h => by cases h) eveningAxioms_row_tie rfl ⟨rfl, rfl⟩ (by as_aux_lemma => kernel_rfl) rfl
  (fun f fn hf hfn => by
   obtain rfl : f = 4 := Option.some.inj (eveningAxioms_at.symm.trans hf) |>.symm
   obtain rfl : fn = Tryd.f4 := (Option.some.inj (Tryd.func4.symm.trans hfn)).symm
   exact ⟨by as_aux_lemma => kernel_rfl, fun j t ht => by
    rw [Tryd.params4] at ht
    have hm : t ∈ [5, 5, 5, 5] := by simpa using Array.mem_of_getElem? ht
    have hall : ([5, 5, 5, 5].all fun u => !Tryd.prog.wantsStandIn u) = true := by as_aux_lemma => kernel_rfl
    exact (show Tryd.prog.wantsStandIn t = false by simpa using List.all_eq_true.1 hall t hm)⟩)
  (by as_aux_lemma => kernel_rfl)
#print axioms eveningAxioms_card
end Go.Proofs.YtlihfnfigclbmaaDoor
