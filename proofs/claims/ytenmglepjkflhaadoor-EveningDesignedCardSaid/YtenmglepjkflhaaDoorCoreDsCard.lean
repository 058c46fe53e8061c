/-
  Part of the engine that the claim is proved with: it states nothing of the document by itself.
-/
import Derived.Test.YtenmglepjkflhaaDoorCards
import Derived.Test.YtenmglepjkflhaaDoorTie
import Derived.Test.YtenmglepjkflhaaDoorCoreG38
import Derived.Test.YtenmglepjkflhaaDoorCoreAwake
import Derived.Test.YtenmglepjkflhaaDoorCoreKit
import Derived.Lay
import Derived.MakeChecks
import Derived.SevenTiedAt
import Derived.Stop.Joined
namespace Go.Ev
open Go.Proofs Go.ChangeShapes Go.WideShapes Go.ChangeAt Go.RowKit
theorem okGCDs : GOK Tryd.prog GCb := okGS
theorem Ds_links : ([5, 5, 5].all fun t => linkB Tryd.prog 20 t) = true := by kernel_rfl
set_option maxRecDepth 100000 in
theorem Ds_args : ∀ Ds : List D, Ds.length = [5, 5, 5].length → okDs Tryd.prog [5, 5, 5] Ds → withArgs Tryd.prog [5, 5, 5] Ds fun us => ∃ p, con5d us = some (p, .prop True) ∧ p := fun Ds h =>
 match Ds, h with
 | [d0, d1, d2], _ => fun hok => by
  have e : withArgs Tryd.prog [5, 5, 5] [d0, d1, d2] (fun us => ∃ p, con5d us = some (p, .prop True) ∧ p) = (∃ p, con5d [.int .u8 d0.asInt, .int .u8 d1.asInt, .int .u8 d2.asInt] = some (p, .prop True) ∧ p) := by kernel_rfl
  rw [e]
  exact ⟨_, rfl, ok5 hok.1, ok5 hok.2.1, ok5 hok.2.2.1⟩
set_option maxRecDepth 100000 in
theorem Ds_law {Hh : Type} {enc : TypeId × Value → Hh} {W : World} {b0 : Nat} {vs : List Value} {ds : List (DataW Hh)} {ps : List MemPlace}
  (hG : LaidG W) (hok : ∀ (j : Nat) (t : TypeId) (v : Value), ([5, 5, 5] : List TypeId)[j]? = some t → vs[j]? = some v → Value.okWide Tryd.prog W .any b0 t v)
  (ht : DataW.TrodAll enc Tryd.prog W 0 (fun _ => true) true [5, 5, 5] vs ds ps) (hwt : (DataW.weightsEach Tryd.prog [5, 5, 5] ds).all (· ≤ reachBytes) = true) : Calls Tryd.prog 5 ⟨vs⟩ W (Law W) :=
 law_typed hG okGCDs mixedT (v5d 100 (Nat.le_of_ble_eq_true rfl)) Ds_args Ds_links hok ht hwt
theorem trod_lenDs {P : Program} {Hh : Type} {enc : TypeId × Value → Hh} {W : World} {base : Nat} {sp : Nat → Bool} {held : Bool} : ∀ {ts : List TypeId} {vs : List Value} {ds : List (DataW Hh)} {ps : List MemPlace}, DataW.TrodAll enc P W base sp held ts vs ds ps → ds.length = ts.length
 | [], [], [], _, _ => rfl
 | _ :: _, _ :: _, _ :: _, _, ⟨_, _, _, h, _⟩ => by rw [List.length_cons, List.length_cons, trod_lenDs h]
 | [], _ :: _, _, _, h => h.elim
 | [], [], _ :: _, _, h => h.elim
 | _ :: _, [], _, _, h => h.elim
 | _ :: _, _ :: _, [], _, h => h.elim
theorem split_Ds {α : Type} {l : List α} (h : l.length = 3) : ∃ d0 d1 d2, l = [d0, d1, d2] := by
 match l, h with
 | [d0, d1, d2], _ => exact ⟨d0, d1, d2, rfl⟩
end Go.Ev
namespace Go.Proofs.YtenmglepjkflhaaDoor
open Go Go.ChangeShapes Go.WideShapes Go.ChangeAt Go.RowKit
theorem own : ownKnob Tryd.prog.godebug = none := by kernel_rfl
theorem laidOut : laidOutB Tryd.prog = true := by kernel_rfl
set_option maxRecDepth 100000 in
theorem eveningDesigned_lifted (os : Os) (started : os.Started) (H : Type) (enc : TypeId × Value → H) :
  ReturnsInHanded {} Tryd.checked os 5 .any (fun w args => (Rows.eveningDesignedSpec.pre enc Tryd.prog Tryd.f5 [] false w args ∧ laidMetH Tryd.prog Rows.eveningDesignedRow.laid w) ∧ sizedMet enc Tryd.prog Tryd.f5 (OpenSpec.ofChange Rows.eveningDesignedSpec) false w args)
   (Rows.eveningDesignedSpec.post enc Tryd.prog Tryd.f5 false true false false) := by
 refine returnsInHanded_of_calls own started (by kernel_rfl)
  (ChangeSpec.witness_shaped (enc := enc) (C := Tryd.checked) (os := os) (X := fun w _ => laidMetH Tryd.prog Rows.eveningDesignedRow.laid w) false (World.laidAll Tryd.prog os Rows.eveningDesignedRow.laid) #[.int .u8 0, .int .u8 0, .int .u8 0] 8 (World.laidAll_os _ _ _)
   (World.shaped_of_ZipB (by kernel_rfl) (by kernel_rfl)) (by kernel_rfl) (by kernel_rfl) (by kernel_rfl)
   (by rw [MakeChecks.laidMetH_plain _ _ _ (by kernel_rfl)]; exact laidMet_laidAll _ (by kernel_rfl) (by kernel_rfl))) ?_
 intro w tape i _ hsh _ hok hpre _
 obtain ⟨_, _, _, fn, hfn, _, _, _, _, hval0⟩ := hok
 have hfe : fn = Tryd.f5 := Option.some.inj (hfn.symm.trans Tryd.func5)
 subst hfe
 obtain ⟨⟨⟨ds, gs, before, hW0, _⟩, hx⟩, hsz⟩ := hpre
 have hwt := hsz.weights hW0
 have hW := DataW.Whole.of_heap (w' := w.forCall tape i) (by rfl) hW0
 have hG : Go.Ev.LaidG (w.forCall tape i) := Go.Ev.laidG_of hsh (laidMetH.of_heap (w' := w.forCall tape i) (by rfl) hx)
 clear hW0 hx hsh hsz
 generalize w.heap.size = base at *
 generalize w.forCall tape i = W at *
 generalize i.args = args at *
 have hval : ∀ (j : Nat) t v, Tryd.f5.params[j]? = some t → args[j]? = some v → Value.okWide Tryd.prog W .any base t v := hval0
 have hW' := hW
 obtain ⟨p, q, hA0, hV, rfl, hfz, hnd⟩ := hW
 have hA : DataW.TrodAll enc Tryd.prog W 0 (fun _ => true) true Tryd.f5.params.toList args.toList ds p := hA0
 obtain ⟨rfl, rfl⟩ := trodVars_none hV
 rw [Tryd.params5] at hA hval hwt
 have hwt : (DataW.weightsEach Tryd.prog [5, 5, 5] ds).all (· ≤ reachBytes) = true := by have := hwt; rw [List.append_nil] at this; exact this
 obtain ⟨al⟩ := args
 obtain ⟨d0, d1, d2, rfl⟩ := Go.Ev.split_Ds (Go.Ev.trod_lenDs hA)
 refine (Go.Ev.Ds_law (vs := al) hG (fun j t v ht hv => hval j t v (by simpa using ht) (by simpa using hv)) hA hwt).mono fun e W' ⟨he, hw⟩ => ?_
 subst he
 exact ChangeSpec.post_blind (Go.Ev.post_of_law laidOut hW' rfl rfl (by kernel_rfl) (tb := 4) (by kernel_rfl) Tryd.underlying4 hw)
end Go.Proofs.YtenmglepjkflhaaDoor
