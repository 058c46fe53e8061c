/-
  Part of the engine that the claim is proved with: it states nothing of the document by itself.
-/
import Derived.Test.YtgdbbaimkjmkgaaGreatDoorCards
import Derived.Test.YtgdbbaimkjmkgaaGreatDoorTie
import Derived.Test.YtgdbbaimkjmkgaaGreatDoorCorePermLaw
import Derived.Test.YtgdbbaimkjmkgaaGreatDoorCoreAwake
import Derived.Test.YtgdbbaimkjmkgaaGreatDoorCoreKit
import Derived.SevenTiedAt
import Derived.Stop.Joined
namespace Go.Ev
open Go.Proofs Go.ChangeShapes Go.WideShapes Go.ChangeAt Go.RowKit

theorem okGS' : GOK Tryz.prog GS := okGS

theorem perm_facts : (Tryz.prog.cellsOf 3 = 1 ∧ sizeT Tryz.prog 29 = some 1 ∧ sizeT Tryz.prog 3 = some 1) := ⟨by kernel_rfl, by kernel_rfl, by kernel_rfl⟩
set_option maxRecDepth 100000 in
theorem perm_law {Hh : Type} {enc : TypeId × Value → Hh} {W : World} {b0 : Nat} {v0 v1 : Value} {d0 d1 : DataW Hh} {p0 p1 : List MemPlace}
    (h0 : Value.okWide Tryz.prog W .any b0 29 v0) (h1 : Value.okWide Tryz.prog W .any b0 29 v1) (t0 : DataW.Trod enc Tryz.prog W 0 (fun _ => true) true 29 v0 d0 p0) (t1 : DataW.Trod enc Tryz.prog W 0 (fun _ => true) true 29 v1 d1 p1) :
    Calls Tryz.prog 7 #[v0, v1] W (Law W) :=
  law_two_ints okGS' mixedT (v7 100 (Nat.le_of_ble_eq_true rfl)) (fun _ _ => rfl) Tryz.underlying29 Tryz.underlying3 perm_facts.1 perm_facts.2.1 perm_facts.2.2 h0 h1 t0 t1
#print axioms perm_law
end Go.Ev
namespace Go.Proofs.YtgdbbaimkjmkgaaGreatDoor
open Go Go.ChangeShapes Go.WideShapes Go.ChangeAt Go.RowKit

theorem own : ownKnob Tryz.prog.godebug = none := by kernel_rfl
theorem laidOut : laidOutB Tryz.prog = true := by kernel_rfl
theorem door_met (os : Os) (args : Array Value) : laidMetH Tryz.prog Rows.hallPermsRow.laid ((World.doorLaid Tryz.prog 400 os).forCall (fun _ _ => 0) ⟨#[], args, []⟩).memory :=
  laidMetH_of_parts3 (fuel := 8) (laidMet_of_run' 8 (by kernel_rfl) (by kernel_rfl)) (by kernel_rfl) (by kernel_rfl)
set_option maxRecDepth 100000 in
theorem hallPerms_lifted (os : Os) (started : os.Started) (H : Type) (enc : TypeId × Value → H) :
    ReturnsInHanded {} Tryz.checked os 7 .any (fun w args => (Rows.hallPermsSpec.pre enc Tryz.prog Tryz.f7 [] false w args ∧ laidMetH Tryz.prog Rows.hallPermsRow.laid w) ∧ sizedMet enc Tryz.prog Tryz.f7 (OpenSpec.ofChange Rows.hallPermsSpec) false w args)
      (Rows.hallPermsSpec.post enc Tryz.prog Tryz.f7 false true false false) := by
  refine returnsInHanded_of_change_and (C := Tryz.checked) (X := fun w _ => laidMetH Tryz.prog Rows.hallPermsRow.laid w) (fun _ _ _ hh h => h.of_heap hh) own started (by kernel_rfl) Tryz.func7
    (ChangeSpec.witness_shaped (enc := enc) (C := Tryz.checked) (os := os) (X := fun w _ => laidMetH Tryz.prog Rows.hallPermsRow.laid w) false (World.doorLaid Tryz.prog 400 os) #[.slice none 0 0, .slice none 0 0] 8 rfl (World.shaped_of_RefB (by kernel_rfl) (by kernel_rfl)) (by kernel_rfl) (by kernel_rfl) (by kernel_rfl) (door_met os _)) ?_
  intro W base args ds gs before hval0 hW _ _ _ _
  have hval : ∀ (j : Nat) t v, Tryz.f7.params[j]? = some t → args[j]? = some v → Value.okWide Tryz.prog W .any base t v := hval0
  have hW' := hW
  obtain ⟨p, q, hA0, hV, rfl, hfz, hnd⟩ := hW
  have hA : DataW.TrodAll enc Tryz.prog W 0 (fun _ => true) true Tryz.f7.params.toList args.toList ds p := hA0
  rw [Tryz.params7] at hA hval
  obtain ⟨v0, v1, d0, d1, p0, p1, rfl, rfl, rfl, t0, t1⟩ := trodAll_two hA
  obtain ⟨rfl, rfl⟩ := trodVars_none hV
  refine (Go.Ev.perm_law (hval 0 29 v0 rfl rfl) (hval 1 29 v1 rfl rfl) t0 t1).mono fun e W' ⟨he, hw⟩ => ?_
  exact ⟨_, he, Go.Ev.post_of_law laidOut hW' rfl rfl (by kernel_rfl) (tb := 4) (by kernel_rfl) Tryz.underlying4 hw⟩
#print axioms hallPerms_lifted
end Go.Proofs.YtgdbbaimkjmkgaaGreatDoor
