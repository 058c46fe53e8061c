/-
  Part of the engine that the claim is proved with: it states nothing of the document by itself.
-/
import Derived.Test.YtigckjhbmeameaaGreatDoorCards
import Derived.Test.YtigckjhbmeameaaGreatDoorTie
import Derived.Test.YtigckjhbmeameaaGreatDoorCoreChkLaw
import Derived.Test.YtigckjhbmeameaaGreatDoorCoreAwake
import Derived.Test.YtigckjhbmeameaaGreatDoorCoreKit
import Derived.SevenTiedAt
import Derived.Stop.Joined
namespace Go.Ev
open Go.Proofs Go.ChangeShapes Go.WideShapes Go.ChangeAt Go.RowKit
theorem okGC : GOK Tryz.prog GC := okGS
theorem chk_links : ([22, 9, 3].all fun t => linkB Tryz.prog 20 t) = true := by kernel_rfl
theorem chk_args : ∀ Ds : List D, Ds.length = [22, 9, 3].length → withArgs Tryz.prog [22, 9, 3] Ds fun us => con3 us = some (True, .prop True) := fun Ds h =>
  match Ds, h with
  | [a, b, c], _ => by
    have e : withArgs Tryz.prog [22, 9, 3] [a, b, c] (fun us => con3 us = some (True, .prop True)) = (con3 [.dat 22 a, .str b.asStr, .int .i64 c.asInt] = some (True, .prop True)) := by kernel_rfl
    rw [e]; rfl
set_option maxRecDepth 100000 in
theorem chk_law {Hh : Type} {enc : TypeId × Value → Hh} {W : World} {b0 : Nat} {vs : List Value} {ds : List (DataW Hh)} {ps : List MemPlace}
    (hok : ∀ (j : Nat) (t : TypeId) (v : Value), ([22, 9, 3] : List TypeId)[j]? = some t → vs[j]? = some v → Value.okWide Tryz.prog W .any b0 t v)
    (ht : DataW.TrodAll enc Tryz.prog W 0 (fun _ => true) true [22, 9, 3] vs ds ps) : Calls Tryz.prog 3 ⟨vs⟩ W (Law W) :=
  law_any okGC mixedT (v3 100 (Nat.le_of_ble_eq_true rfl)) chk_args chk_links hok ht
#print axioms chk_law
theorem trod_len {P : Program} {Hh : Type} {enc : TypeId × Value → Hh} {W : World} {base : Nat} {sp : Nat → Bool} {held : Bool} : ∀ {ts : List TypeId} {vs : List Value} {ds : List (DataW Hh)} {ps : List MemPlace}, DataW.TrodAll enc P W base sp held ts vs ds ps → ds.length = ts.length
  | [], [], [], _, _ => rfl
  | _ :: _, _ :: _, _ :: _, _, ⟨_, _, _, h, _⟩ => by rw [List.length_cons, List.length_cons, trod_len h]
  | [], _ :: _, _, _, h => h.elim
  | [], [], _ :: _, _, h => h.elim
  | _ :: _, [], _, _, h => h.elim
  | _ :: _, _ :: _, [], _, h => h.elim
theorem three_of {α : Type} {l : List α} (h : l.length = 3) : ∃ a b c, l = [a, b, c] := by
  match l, h with
  | [a, b, c], _ => exact ⟨a, b, c, rfl⟩
end Go.Ev
namespace Go.Proofs.YtigckjhbmeameaaGreatDoor
open Go Go.ChangeShapes Go.WideShapes Go.ChangeAt Go.RowKit

theorem own : ownKnob Tryz.prog.godebug = none := by kernel_rfl
theorem laidOut : laidOutB Tryz.prog = true := by kernel_rfl
theorem door_met (os : Os) (args : Array Value) : laidMetH Tryz.prog Rows.hallChecksRow.laid ((World.doorLaid Tryz.prog 400 os).forCall (fun _ _ => 0) ⟨#[], args, []⟩).memory :=
  laidMetH_of_parts3 (fuel := 8) (laidMet_of_run' 8 (by kernel_rfl) (by kernel_rfl)) (by kernel_rfl) (by kernel_rfl)
set_option maxRecDepth 100000 in
theorem hallChecks_lifted (os : Os) (started : os.Started) (H : Type) (enc : TypeId × Value → H) :
    ReturnsInHanded {} Tryz.checked os 3 .any (fun w args => (Rows.hallChecksSpec.pre enc Tryz.prog Tryz.f3 [] false w args ∧ laidMetH Tryz.prog Rows.hallChecksRow.laid w) ∧ sizedMet enc Tryz.prog Tryz.f3 (OpenSpec.ofChange Rows.hallChecksSpec) false w args)
      (Rows.hallChecksSpec.post enc Tryz.prog Tryz.f3 false true false false) := by
  refine returnsInHanded_of_change_and (C := Tryz.checked) (X := fun w _ => laidMetH Tryz.prog Rows.hallChecksRow.laid w) (fun _ _ _ hh h => h.of_heap hh) own started (by kernel_rfl) Tryz.func3
    (ChangeSpec.witness_shaped (enc := enc) (C := Tryz.checked) (os := os) (X := fun w _ => laidMetH Tryz.prog Rows.hallChecksRow.laid w) false (World.doorLaid Tryz.prog 400 os) #[.slice none 0 0, .string ⟨#[]⟩, .int .i64 0] 8 rfl (World.shaped_of_RefB (by kernel_rfl) (by kernel_rfl)) (by kernel_rfl) (by kernel_rfl) (by kernel_rfl) (door_met os _)) ?_
  intro W base args ds gs before hval0 hW _ _ _ _
  have hval : ∀ (j : Nat) t v, Tryz.f3.params[j]? = some t → args[j]? = some v → Value.okWide Tryz.prog W .any base t v := hval0
  have hW' := hW
  obtain ⟨p, q, hA0, hV, rfl, hfz, hnd⟩ := hW
  have hA : DataW.TrodAll enc Tryz.prog W 0 (fun _ => true) true Tryz.f3.params.toList args.toList ds p := hA0
  obtain ⟨rfl, rfl⟩ := trodVars_none hV
  rw [Tryz.params3] at hA hval
  obtain ⟨al⟩ := args
  obtain ⟨da, db, dc, rfl⟩ := Go.Ev.three_of (Go.Ev.trod_len hA)
  refine (Go.Ev.chk_law (vs := al) (fun j t v ht hv => hval j t v (by simpa using ht) (by simpa using hv)) hA).mono fun e W' ⟨he, hw⟩ => ?_
  exact ⟨_, he, Go.Ev.post_of_law laidOut hW' rfl rfl (by kernel_rfl) (tb := 4) (by kernel_rfl) Tryz.underlying4 hw⟩
#print axioms hallChecks_lifted
end Go.Proofs.YtigckjhbmeameaaGreatDoor
