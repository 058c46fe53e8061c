/-
  EveningFormats returns true and leaves its arguments as they are, whatever the number and the schedule are: where the schedule has few tables and places, Format answers of a copy of it the text that the reference writes of it if the reference finds it valid, and no text otherwise, and it leaves the schedule as it was. Condition: the listed package variables of the standard library hold what the program's text lays in them.
-/
import Derived.Test.YtlihfnfigclbmaaDoorCoreFoHolds
namespace Go.Proofs.YtlihfnfigclbmaaDoor
open Go Go.ChangeShapes Go.WideShapes Go.ChangeAt Go.RowKit
theorem eveningFormats_at : Tryd.prog.funcNamed "trestle/trestlelaw09.EveningFormats" = some 7 := by kernel_rfl
theorem eveningFormats_card : Rows.EveningFormatsCardSaid :=
 Claim7.holds_tied_plain_at .later [] [.data, .data, .data] true (true, "0e230950d6d93387784f722970b2569570c5f456be2bd9c3dbde41605836450e") false
  eveningFormats_holds (fun _ h => by cases h) (by as_aux_lemma => kernel_rfl) (fun _ h => by cases h) eveningFormats_row_tie rfl ⟨rfl, rfl⟩ (by as_aux_lemma => kernel_rfl) rfl
  (fun f fn hf hfn => by
   obtain rfl : f = 7 := Option.some.inj (eveningFormats_at.symm.trans hf) |>.symm
   obtain rfl : fn = Tryd.f7 := (Option.some.inj (Tryd.func7.symm.trans hfn)).symm
   exact ⟨by as_aux_lemma => kernel_rfl, fun j t ht => by
    rw [Tryd.params7] at ht
    have hm : t ∈ [3, 33] := by simpa using Array.mem_of_getElem? ht
    have hall : ([3, 33].all fun u => !Tryd.prog.wantsStandIn u) = true := by as_aux_lemma => kernel_rfl
    exact (show Tryd.prog.wantsStandIn t = false by simpa using List.all_eq_true.1 hall t hm)⟩)
  (by as_aux_lemma => kernel_rfl)
#print axioms eveningFormats_card
end Go.Proofs.YtlihfnfigclbmaaDoor
