/-
  EveningNets returns true and leaves its arguments as they are, whatever the two bytes are: for each field order and each number of rows for which there is a net, Net gives as many evenings as the order, Check finds no fault in them for tables of these sizes, and by Meet two guests of different rows meet exactly once and two of one row never; for one row more there is no net and ErrSize comes back.
-/
import Derived.Test.YtapdkjgoplinkaaDoorCoreNzHolds
namespace Go.Proofs.YtapdkjgoplinkaaDoor
open Go Go.ChangeShapes Go.WideShapes Go.ChangeAt Go.RowKit
theorem eveningNets_at : Tryd.prog.funcNamed "trestle/trestlelaw09.EveningNets" = some 3 := by kernel_rfl
theorem eveningNets_card : Rows.EveningNetsCardSaid :=
 Claim7.holds_tied_plain_at .later [] [.data, .data, .data] true (true, "2c210da6e5bea135aa8e9fcc4e2efde749d9da6ddb89d6f3eefa6b091ec4ac33") false
  eveningNets_holds (fun _ h => by cases h) (by as_aux_lemma => kernel_rfl) (fun _ h => by cases h) eveningNets_row_tie rfl ⟨rfl, rfl⟩ (by as_aux_lemma => kernel_rfl) rfl
  (fun f fn hf hfn => by
   obtain rfl : f = 3 := Option.some.inj (eveningNets_at.symm.trans hf) |>.symm
   obtain rfl : fn = Tryd.f3 := (Option.some.inj (Tryd.func3.symm.trans hfn)).symm
   exact ⟨by as_aux_lemma => kernel_rfl, fun j t ht => by
    rw [Tryd.params3] at ht
    have hm : t ∈ [5, 5] := by simpa using Array.mem_of_getElem? ht
    have hall : ([5, 5].all fun u => !Tryd.prog.wantsStandIn u) = true := by as_aux_lemma => kernel_rfl
    exact (show Tryd.prog.wantsStandIn t = false by simpa using List.all_eq_true.1 hall t hm)⟩)
  (by as_aux_lemma => kernel_rfl)
#print axioms eveningNets_card
end Go.Proofs.YtapdkjgoplinkaaDoor
