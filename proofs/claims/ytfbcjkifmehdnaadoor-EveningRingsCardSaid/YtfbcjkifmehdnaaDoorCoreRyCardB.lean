/-
  EveningRings returns true and leaves its argument as it is, whatever the byte is: of 3 to 64 guests, for an odd number Rings gives half as many evenings at one table, Check finds no fault in them, and by Beside each two guests are beside each other exactly once and nobody beside himself; for an even number there is no such schedule and ErrDesign comes back.
-/
import Derived.Test.YtfbcjkifmehdnaaDoorCoreRyHolds
namespace Go.Proofs.YtfbcjkifmehdnaaDoor
open Go Go.ChangeShapes Go.WideShapes Go.ChangeAt Go.RowKit
theorem eveningRings_at : Tryd.prog.funcNamed "trestle/trestlelaw09.EveningRings" = some 3 := by kernel_rfl
theorem eveningRings_card : Rows.EveningRingsCardSaid :=
 Claim7.holds_tied_plain_at .later [] [.data, .data, .data] true (true, "5b462bf670b40c344ef4ad4dab334be1f2ea42e4d50cb46a97be26d6e028f2e9") false
  eveningRings_holds (fun _ h => by cases h) (by as_aux_lemma => kernel_rfl) (fun _ h => by cases h) eveningRings_row_tie rfl ⟨rfl, rfl⟩ (by as_aux_lemma => kernel_rfl) rfl
  (fun f fn hf hfn => by
   obtain rfl : f = 3 := Option.some.inj (eveningRings_at.symm.trans hf) |>.symm
   obtain rfl : fn = Tryd.f3 := (Option.some.inj (Tryd.func3.symm.trans hfn)).symm
   exact ⟨by as_aux_lemma => kernel_rfl, fun j t ht => by
    rw [Tryd.params3] at ht
    have hm : t ∈ [5] := by simpa using Array.mem_of_getElem? ht
    have hall : ([5].all fun u => !Tryd.prog.wantsStandIn u) = true := by as_aux_lemma => kernel_rfl
    exact (show Tryd.prog.wantsStandIn t = false by simpa using List.all_eq_true.1 hall t hm)⟩)
  (by as_aux_lemma => kernel_rfl)
#print axioms eveningRings_card
end Go.Proofs.YtfbcjkifmehdnaaDoor
