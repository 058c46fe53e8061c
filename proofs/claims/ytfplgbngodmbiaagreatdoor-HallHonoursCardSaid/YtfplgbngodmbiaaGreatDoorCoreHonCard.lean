/-
  Part of the engine that the claim is proved with: it states nothing of the document by itself.
-/
import Derived.Test.YtfplgbngodmbiaaGreatDoorCards
import Derived.Test.YtfplgbngodmbiaaGreatDoorTie
import Derived.Test.YtfplgbngodmbiaaGreatDoorCoreG35
import Derived.Test.YtfplgbngodmbiaaGreatDoorCoreAwake
import Derived.Test.YtfplgbngodmbiaaGreatDoorCoreKit
import Derived.SevenTiedAt
import Derived.Stop.Joined
namespace Go.Ev
open Go.Proofs Go.ChangeShapes Go.WideShapes Go.ChangeAt Go.RowKit
theorem okGCHon : GOK Tryz.prog GC := okGT
set_option maxRecDepth 100000 in
theorem typesT : Types Tryz.prog := Types.of Tryz.underlying65 Tryz.underlying41 rfl rfl rfl rfl Tryz.underlying5 Tryz.underlying39 Tryz.underlying3
theorem Hon_links : ([22, 3].all fun t => linkB Tryz.prog 20 t) = true := by kernel_rfl
set_option maxRecDepth 100000 in
theorem Hon_args : ∀ Ds : List D, Ds.length = [22, 3].length → okDs Tryz.prog [22, 3] Ds → withArgs Tryz.prog [22, 3] Ds fun us => ∃ p, con5 us = some (p, .prop True) ∧ p := fun Ds h =>
 match Ds, h with
 | [d0, d1], _ => fun hok => by
  have e : withArgs Tryz.prog [22, 3] [d0, d1] (fun us => ∃ p, con5 us = some (p, .prop True) ∧ p) = (∃ p, con5 [.dat 22 d0, .int .i64 d1.asInt] = some (p, .prop True) ∧ p) := by kernel_rfl
  rw [e]
  exact ⟨_, rfl, typesT.int d1 (oks_cons (oks_cons hok).2).1⟩
set_option maxRecDepth 100000 in
theorem Hon_law {Hh : Type} {enc : TypeId × Value → Hh} {W : World} {b0 : Nat} {vs : List Value} {ds : List (DataW Hh)} {ps : List MemPlace}
  (hok : ∀ (j : Nat) (t : TypeId) (v : Value), ([22, 3] : List TypeId)[j]? = some t → vs[j]? = some v → Value.okWide Tryz.prog W .any b0 t v)
  (ht : DataW.TrodAll enc Tryz.prog W 0 (fun _ => true) true [22, 3] vs ds ps) : Calls Tryz.prog 5 ⟨vs⟩ W (Law W) :=
 law_typed okGCHon mixedT (v5 100 (Nat.le_of_ble_eq_true rfl)) Hon_args Hon_links hok ht
theorem trod_lenHon {P : Program} {Hh : Type} {enc : TypeId × Value → Hh} {W : World} {base : Nat} {sp : Nat → Bool} {held : Bool} : ∀ {ts : List TypeId} {vs : List Value} {ds : List (DataW Hh)} {ps : List MemPlace}, DataW.TrodAll enc P W base sp held ts vs ds ps → ds.length = ts.length
 | [], [], [], _, _ => rfl
 | _ :: _, _ :: _, _ :: _, _, ⟨_, _, _, h, _⟩ => by rw [List.length_cons, List.length_cons, trod_lenHon h]
 | [], _ :: _, _, _, h => h.elim
 | [], [], _ :: _, _, h => h.elim
 | _ :: _, [], _, _, h => h.elim
 | _ :: _, _ :: _, [], _, h => h.elim
theorem split_Hon {α : Type} {l : List α} (h : l.length = 2) : ∃ d0 d1, l = [d0, d1] := by
 match l, h with
 | [d0, d1], _ => exact ⟨d0, d1, rfl⟩
end Go.Ev
namespace Go.Proofs.YtfplgbngodmbiaaGreatDoor
open Go Go.ChangeShapes Go.WideShapes Go.ChangeAt Go.RowKit
theorem own : ownKnob Tryz.prog.godebug = none := by kernel_rfl
theorem laidOut : laidOutB Tryz.prog = true := by kernel_rfl
theorem door_met (os : Os) (args : Array Value) : laidMetH Tryz.prog Rows.hallHonoursRow.laid ((World.doorLaid Tryz.prog 400 os).forCall (fun _ _ => 0) ⟨#[], args, []⟩).memory :=
 laidMetH_of_parts3 (fuel := 8) (laidMet_of_run' 8 (by kernel_rfl) (by kernel_rfl)) (by kernel_rfl) (by kernel_rfl)
set_option maxRecDepth 100000 in
theorem hallHonours_lifted (os : Os) (started : os.Started) (H : Type) (enc : TypeId × Value → H) :
  ReturnsInHanded {} Tryz.checked os 5 .any (fun w args => (Rows.hallHonoursSpec.pre enc Tryz.prog Tryz.f5 [] false w args ∧ laidMetH Tryz.prog Rows.hallHonoursRow.laid w) ∧ sizedMet enc Tryz.prog Tryz.f5 (OpenSpec.ofChange Rows.hallHonoursSpec) false w args)
   (Rows.hallHonoursSpec.post enc Tryz.prog Tryz.f5 false true false false) := by
 refine returnsInHanded_of_change_and (C := Tryz.checked) (X := fun w _ => laidMetH Tryz.prog Rows.hallHonoursRow.laid w) (fun _ _ _ hh h => h.of_heap hh) own started (by kernel_rfl) Tryz.func5
  (ChangeSpec.witness_shaped (enc := enc) (C := Tryz.checked) (os := os) (X := fun w _ => laidMetH Tryz.prog Rows.hallHonoursRow.laid w) false (World.doorLaid Tryz.prog 400 os) #[.slice none 0 0, .int .i64 0] 8 rfl (World.shaped_of_RefB (by kernel_rfl) (by kernel_rfl)) (by kernel_rfl) (by kernel_rfl) (by kernel_rfl) (door_met os _)) ?_
 intro W base args ds gs before hval0 hW _ _ _ _
 have hval : ∀ (j : Nat) t v, Tryz.f5.params[j]? = some t → args[j]? = some v → Value.okWide Tryz.prog W .any base t v := hval0
 have hW' := hW
 obtain ⟨p, q, hA0, hV, rfl, hfz, hnd⟩ := hW
 have hA : DataW.TrodAll enc Tryz.prog W 0 (fun _ => true) true Tryz.f5.params.toList args.toList ds p := hA0
 obtain ⟨rfl, rfl⟩ := trodVars_none hV
 rw [Tryz.params5] at hA hval
 obtain ⟨al⟩ := args
 obtain ⟨d0, d1, rfl⟩ := Go.Ev.split_Hon (Go.Ev.trod_lenHon hA)
 refine (Go.Ev.Hon_law (vs := al) (fun j t v ht hv => hval j t v (by simpa using ht) (by simpa using hv)) hA).mono fun e W' ⟨he, hw⟩ => ?_
 exact ⟨_, he, Go.Ev.post_of_law laidOut hW' rfl rfl (by kernel_rfl) (tb := 4) (by kernel_rfl) Tryz.underlying4 hw⟩
end Go.Proofs.YtfplgbngodmbiaaGreatDoor
