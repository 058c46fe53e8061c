/-
  Part of the engine that the claim is proved with: it states nothing of the document by itself.
-/
import Derived.Test.YtidhienppjdimaaGreatDoorCards
import Derived.Test.YtidhienppjdimaaGreatDoorTie
import Derived.Test.YtidhienppjdimaaGreatDoorCoreG30
import Derived.Test.YtidhienppjdimaaGreatDoorCoreAwake
import Derived.Test.YtidhienppjdimaaGreatDoorCoreKit
import Derived.Lay
import Derived.MakeChecks
import Derived.SevenTiedAt
import Derived.Stop.Joined
namespace Go.Ev
open Go.Proofs Go.ChangeShapes Go.WideShapes Go.ChangeAt Go.RowKit
theorem okGCRg : GOK Tryz.prog GC := okGS
theorem Rg_links : ([31, 31, 39].all fun t => linkB Tryz.prog 20 t) = true := by kernel_rfl
set_option maxRecDepth 100000 in
theorem Rg_args : ∀ Ds : List D, Ds.length = [31, 31, 39].length → okDs Tryz.prog [31, 31, 39] Ds → withArgs Tryz.prog [31, 31, 39] Ds fun us => ∃ p, con5r us = some (p, .prop True) ∧ p := fun Ds h =>
 match Ds, h with
 | [d0, d1, d2], _ => fun hok => by
  have e : withArgs Tryz.prog [31, 31, 39] [d0, d1, d2] (fun us => ∃ p, con5r us = some (p, .prop True) ∧ p) = (∃ p, con5r [.dat 31 d0, .dat 31 d1, .dat 39 d2] = some (p, .prop True) ∧ p) := by kernel_rfl
  rw [e]
  exact ⟨_, rfl, ok31 hok.1, ok31 hok.2.1, ok39 hok.2.2.1⟩
set_option maxRecDepth 100000 in
theorem Rg_law {Hh : Type} {enc : TypeId × Value → Hh} {W : World} {b0 : Nat} {vs : List Value} {ds : List (DataW Hh)} {ps : List MemPlace}
  (hG : LaidG W) (hok : ∀ (j : Nat) (t : TypeId) (v : Value), ([31, 31, 39] : List TypeId)[j]? = some t → vs[j]? = some v → Value.okWide Tryz.prog W .any b0 t v)
  (ht : DataW.TrodAll enc Tryz.prog W 0 (fun _ => true) true [31, 31, 39] vs ds ps) : Calls Tryz.prog 5 ⟨vs⟩ W (Law W) :=
 law_typed hG okGCRg mixedT (v5r 100 (Nat.le_of_ble_eq_true rfl)) Rg_args Rg_links hok ht
theorem trod_lenRg {P : Program} {Hh : Type} {enc : TypeId × Value → Hh} {W : World} {base : Nat} {sp : Nat → Bool} {held : Bool} : ∀ {ts : List TypeId} {vs : List Value} {ds : List (DataW Hh)} {ps : List MemPlace}, DataW.TrodAll enc P W base sp held ts vs ds ps → ds.length = ts.length
 | [], [], [], _, _ => rfl
 | _ :: _, _ :: _, _ :: _, _, ⟨_, _, _, h, _⟩ => by rw [List.length_cons, List.length_cons, trod_lenRg h]
 | [], _ :: _, _, _, h => h.elim
 | [], [], _ :: _, _, h => h.elim
 | _ :: _, [], _, _, h => h.elim
 | _ :: _, _ :: _, [], _, h => h.elim
theorem split_Rg {α : Type} {l : List α} (h : l.length = 3) : ∃ d0 d1 d2, l = [d0, d1, d2] := by
 match l, h with
 | [d0, d1, d2], _ => exact ⟨d0, d1, d2, rfl⟩
end Go.Ev
namespace Go.Proofs.YtidhienppjdimaaGreatDoor
open Go Go.ChangeShapes Go.WideShapes Go.ChangeAt Go.RowKit
theorem own : ownKnob Tryz.prog.godebug = none := by kernel_rfl
theorem laidOut : laidOutB Tryz.prog = true := by kernel_rfl
set_option maxRecDepth 100000 in
theorem courtRefines_lifted (os : Os) (started : os.Started) (H : Type) (enc : TypeId × Value → H) :
  ReturnsInHanded {} Tryz.checked os 5 .any (fun w args => (Rows.courtRefinesSpec.pre enc Tryz.prog Tryz.f5 [] false w args ∧ laidMetH Tryz.prog Rows.courtRefinesRow.laid w) ∧ sizedMet enc Tryz.prog Tryz.f5 (OpenSpec.ofChange Rows.courtRefinesSpec) false w args)
   (Rows.courtRefinesSpec.post enc Tryz.prog Tryz.f5 false true false false) := by
 refine returnsInHanded_of_calls own started (by kernel_rfl)
  (ChangeSpec.witness_shaped (enc := enc) (C := Tryz.checked) (os := os) (X := fun w _ => laidMetH Tryz.prog Rows.courtRefinesRow.laid w) false (World.laidAll Tryz.prog os Rows.courtRefinesRow.laid) #[.slice none 0 0, .slice none 0 0, .slice none 0 0] 8 (World.laidAll_os _ _ _)
   (World.shaped_of_ZipB (by kernel_rfl) (by kernel_rfl)) (by kernel_rfl) (by kernel_rfl) (by kernel_rfl)
   (by rw [MakeChecks.laidMetH_plain _ _ _ (by kernel_rfl)]; exact laidMet_laidAll _ (by kernel_rfl) (by kernel_rfl))) ?_
 intro w tape i _ hsh _ hok hpre _
 obtain ⟨_, _, _, fn, hfn, _, _, _, _, hval0⟩ := hok
 have hfe : fn = Tryz.f5 := Option.some.inj (hfn.symm.trans Tryz.func5)
 subst hfe
 obtain ⟨⟨⟨ds, gs, before, hW0, _⟩, hx⟩, _⟩ := hpre
 have hW := DataW.Whole.of_heap (w' := w.forCall tape i) (by rfl) hW0
 have hG : Go.Ev.LaidG (w.forCall tape i) := Go.Ev.laidG_of hsh (laidMetH.of_heap (w' := w.forCall tape i) (by rfl) hx)
 clear hW0 hx hsh
 generalize w.heap.size = base at *
 generalize w.forCall tape i = W at *
 generalize i.args = args at *
 have hval : ∀ (j : Nat) t v, Tryz.f5.params[j]? = some t → args[j]? = some v → Value.okWide Tryz.prog W .any base t v := hval0
 have hW' := hW
 obtain ⟨p, q, hA0, hV, rfl, hfz, hnd⟩ := hW
 have hA : DataW.TrodAll enc Tryz.prog W 0 (fun _ => true) true Tryz.f5.params.toList args.toList ds p := hA0
 obtain ⟨rfl, rfl⟩ := trodVars_none hV
 rw [Tryz.params5] at hA hval
 obtain ⟨al⟩ := args
 obtain ⟨d0, d1, d2, rfl⟩ := Go.Ev.split_Rg (Go.Ev.trod_lenRg hA)
 refine (Go.Ev.Rg_law (vs := al) hG (fun j t v ht hv => hval j t v (by simpa using ht) (by simpa using hv)) hA).mono fun e W' ⟨he, hw⟩ => ?_
 subst he
 exact ChangeSpec.post_blind (Go.Ev.post_of_law laidOut hW' rfl rfl (by kernel_rfl) (tb := 4) (by kernel_rfl) Tryz.underlying4 hw)
end Go.Proofs.YtidhienppjdimaaGreatDoor
