/-
  Part of the engine that the claim is proved with: it states nothing of the document by itself.
-/
import Derived.Test.YtpcokmpipjcndaaGreatDoorCards
import Derived.Test.YtpcokmpipjcndaaGreatDoorTie
import Derived.Test.YtpcokmpipjcndaaGreatDoorCoreG31
import Derived.Test.YtpcokmpipjcndaaGreatDoorCoreSort
import Derived.Test.YtpcokmpipjcndaaGreatDoorCoreTyped
import Derived.Test.YtpcokmpipjcndaaGreatDoorCoreKit
import Derived.Lay
import Derived.MakeChecks
import Derived.SevenTiedAt
import Derived.Stop.Joined
namespace Go.Ev
open Go.Proofs Go.ChangeShapes Go.WideShapes Go.ChangeAt Go.RowKit
theorem okGCHr : GOK Tryz.prog GC := okGT
theorem Hr_links : ([24, 9].all fun t => linkB Tryz.prog 20 t) = true := by kernel_rfl
set_option maxRecDepth 100000 in
theorem Hr_args : ∀ Ds : List D, Ds.length = [24, 9].length → okDs Tryz.prog [24, 9] Ds → withArgs Tryz.prog [24, 9] Ds fun us => ∃ p, con4 us = some (p, .prop True) ∧ p := fun Ds h =>
 match Ds, h with
 | [d0, d1], _ => fun hok => by
  have e : withArgs Tryz.prog [24, 9] [d0, d1] (fun us => ∃ p, con4 us = some (p, .prop True) ∧ p) = (∃ p, con4 [.dat 24 d0, .str d1.asStr] = some (p, .prop True) ∧ p) := by kernel_rfl
  rw [e]
  exact ⟨_, rfl, ok_codes Tryz.underlying24 Tryz.underlying54 rfl rfl rfl rfl Tryz.underlying5 Tryz.underlying52 (oks_cons hok).1⟩
set_option maxRecDepth 100000 in
theorem Hr_law {Hh : Type} {enc : TypeId × Value → Hh} {W : World} {b0 : Nat} {vs : List Value} {ds : List (DataW Hh)} {ps : List MemPlace}
  (hG : LaidG W) (hok : ∀ (j : Nat) (t : TypeId) (v : Value), ([24, 9] : List TypeId)[j]? = some t → vs[j]? = some v → Value.okWide Tryz.prog W .any b0 t v)
  (ht : DataW.TrodAll enc Tryz.prog W 0 (fun _ => true) true [24, 9] vs ds ps) : Calls Tryz.prog 4 ⟨vs⟩ W (Law W) :=
 law_typed hG okGCHr mixedT (v4 100 (Nat.le_of_ble_eq_true rfl)) Hr_args Hr_links hok ht
theorem trod_lenHr {P : Program} {Hh : Type} {enc : TypeId × Value → Hh} {W : World} {base : Nat} {sp : Nat → Bool} {held : Bool} : ∀ {ts : List TypeId} {vs : List Value} {ds : List (DataW Hh)} {ps : List MemPlace}, DataW.TrodAll enc P W base sp held ts vs ds ps → ds.length = ts.length
 | [], [], [], _, _ => rfl
 | _ :: _, _ :: _, _ :: _, _, ⟨_, _, _, h, _⟩ => by rw [List.length_cons, List.length_cons, trod_lenHr h]
 | [], _ :: _, _, _, h => h.elim
 | [], [], _ :: _, _, h => h.elim
 | _ :: _, [], _, _, h => h.elim
 | _ :: _, _ :: _, [], _, h => h.elim
theorem split_Hr {α : Type} {l : List α} (h : l.length = 2) : ∃ d0 d1, l = [d0, d1] := by
 match l, h with
 | [d0, d1], _ => exact ⟨d0, d1, rfl⟩
end Go.Ev
namespace Go.Proofs.YtpcokmpipjcndaaGreatDoor
open Go Go.ChangeShapes Go.WideShapes Go.ChangeAt Go.RowKit
theorem own : ownKnob Tryz.prog.godebug = none := by kernel_rfl
theorem laidOut : laidOutB Tryz.prog = true := by kernel_rfl
set_option maxRecDepth 100000 in
theorem hallRound_lifted (os : Os) (started : os.Started) (H : Type) (enc : TypeId × Value → H) :
  ReturnsInHanded {} Tryz.checked os 4 .any (fun w args => (Rows.hallRoundSpec.pre enc Tryz.prog Tryz.f4 [] false w args ∧ laidMetH Tryz.prog Rows.hallRoundRow.laid w) ∧ sizedMet enc Tryz.prog Tryz.f4 (OpenSpec.ofChange Rows.hallRoundSpec) false w args)
   (Rows.hallRoundSpec.post enc Tryz.prog Tryz.f4 false true false false) := by
 refine returnsInHanded_of_calls own started (by kernel_rfl)
  (ChangeSpec.witness_shaped (enc := enc) (C := Tryz.checked) (os := os) (X := fun w _ => laidMetH Tryz.prog Rows.hallRoundRow.laid w) false (World.laidAll Tryz.prog os Rows.hallRoundRow.laid) #[.slice none 0 0, .string ⟨#[]⟩] 8 (World.laidAll_os _ _ _)
   (World.shaped_of_ZipB (by kernel_rfl) (by kernel_rfl)) (by kernel_rfl) (by kernel_rfl) (by kernel_rfl)
   (by rw [MakeChecks.laidMetH_plain _ _ _ (by kernel_rfl)]; exact laidMet_laidAll _ (by kernel_rfl) (by kernel_rfl))) ?_
 intro w tape i _ hsh _ hok hpre _
 obtain ⟨_, _, _, fn, hfn, _, _, _, _, hval0⟩ := hok
 have hfe : fn = Tryz.f4 := Option.some.inj (hfn.symm.trans Tryz.func4)
 subst hfe
 obtain ⟨⟨⟨ds, gs, before, hW0, _⟩, hx⟩, _⟩ := hpre
 have hW := DataW.Whole.of_heap (w' := w.forCall tape i) (by rfl) hW0
 have hG : Go.Ev.LaidG (w.forCall tape i) := Go.Ev.laidG_of hsh (laidMetH.of_heap (w' := w.forCall tape i) (by rfl) hx)
 clear hW0 hx hsh
 generalize w.heap.size = base at *
 generalize w.forCall tape i = W at *
 generalize i.args = args at *
 have hval : ∀ (j : Nat) t v, Tryz.f4.params[j]? = some t → args[j]? = some v → Value.okWide Tryz.prog W .any base t v := hval0
 have hW' := hW
 obtain ⟨p, q, hA0, hV, rfl, hfz, hnd⟩ := hW
 have hA : DataW.TrodAll enc Tryz.prog W 0 (fun _ => true) true Tryz.f4.params.toList args.toList ds p := hA0
 obtain ⟨rfl, rfl⟩ := trodVars_none hV
 rw [Tryz.params4] at hA hval
 obtain ⟨al⟩ := args
 obtain ⟨d0, d1, rfl⟩ := Go.Ev.split_Hr (Go.Ev.trod_lenHr hA)
 refine (Go.Ev.Hr_law (vs := al) hG (fun j t v ht hv => hval j t v (by simpa using ht) (by simpa using hv)) hA).mono fun e W' ⟨he, hw⟩ => ?_
 subst he
 exact ChangeSpec.post_blind (Go.Ev.post_of_law laidOut hW' rfl rfl (by kernel_rfl) (tb := 4) (by kernel_rfl) Tryz.underlying4 hw)
end Go.Proofs.YtpcokmpipjcndaaGreatDoor
