/-
  EveningChecks returns true and leaves its arguments as they are, whatever the number, the sizes and the schedule are: where the sizes are at most 20 and the schedule has few tables and places, Check answers of copies of them the same event and code as the reference that follows the document's own order, and it leaves the schedule and the sizes as they were. Condition: the listed package variables of the standard library hold what the program's text lays in them.
-/
import Derived.Test.YtlihfnfigclbmaaDoorCoreCkHolds
namespace Go.Proofs.YtlihfnfigclbmaaDoor
open Go Go.ChangeShapes Go.WideShapes Go.ChangeAt Go.RowKit
theorem eveningChecks_at : Tryd.prog.funcNamed "trestle/trestlelaw09.EveningChecks" = some 6 := by kernel_rfl
theorem eveningChecks_card : Rows.EveningChecksCardSaid :=
 Claim7.holds_tied_plain_at .later [] [.data, .data, .data] true (true, "0e230950d6d93387784f722970b2569570c5f456be2bd9c3dbde41605836450e") false
  eveningChecks_holds (fun _ h => by cases h) (by as_aux_lemma => kernel_rfl) (fun _ h => by cases h) eveningChecks_row_tie rfl ⟨rfl, rfl⟩ (by as_aux_lemma => kernel_rfl) rfl
  (fun f fn hf hfn => by
   obtain rfl : f = 6 := Option.some.inj (eveningChecks_at.symm.trans hf) |>.symm
   obtain rfl : fn = Tryd.f6 := (Option.some.inj (Tryd.func6.symm.trans hfn)).symm
   exact ⟨by as_aux_lemma => kernel_rfl, fun j t ht => by
    rw [Tryd.params6] at ht
    have hm : t ∈ [3, 24, 33] := by simpa using Array.mem_of_getElem? ht
    have hall : ([3, 24, 33].all fun u => !Tryd.prog.wantsStandIn u) = true := by as_aux_lemma => kernel_rfl
    exact (show Tryd.prog.wantsStandIn t = false by simpa using List.all_eq_true.1 hall t hm)⟩)
  (by as_aux_lemma => kernel_rfl)
#print axioms eveningChecks_card
end Go.Proofs.YtlihfnfigclbmaaDoor
