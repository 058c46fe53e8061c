/-
  Part of the engine that the claim is proved with: it states nothing of the document by itself.
-/
import Derived.Test.YtcnjngiaoomecaaDoorCards
import Derived.Test.YtcnjngiaoomecaaDoorTie
import Derived.Test.YtcnjngiaoomecaaDoorCoreG31
import Derived.Test.YtcnjngiaoomecaaDoorCoreAwake
import Derived.Test.YtcnjngiaoomecaaDoorCoreKit
import Derived.Lay
import Derived.MakeChecks
import Derived.SevenTiedAt
import Derived.Stop.Joined
namespace Go.Ev
open Go.Proofs Go.ChangeShapes Go.WideShapes Go.ChangeAt Go.RowKit
theorem okGCPs : GOK Tryd.prog GCb := okGS
theorem Ps_links : ([3, 22, 3].all fun t => linkB Tryd.prog 20 t) = true := by kernel_rfl
set_option maxRecDepth 100000 in
theorem Ps_args : ∀ Ds : List D, Ds.length = [3, 22, 3].length → okDs Tryd.prog [3, 22, 3] Ds → withArgs Tryd.prog [3, 22, 3] Ds fun us => ∃ p, con3s us = some (p, .prop True) ∧ p := fun Ds h =>
 match Ds, h with
 | [d0, d1, d2], _ => fun hok => by
  have e : withArgs Tryd.prog [3, 22, 3] [d0, d1, d2] (fun us => ∃ p, con3s us = some (p, .prop True) ∧ p) = (∃ p, con3s [.int .i64 d0.asInt, .dat 22 d1, .int .i64 d2.asInt] = some (p, .prop True) ∧ p) := by kernel_rfl
  rw [e]
  exact ⟨_, rfl, ok22r hok.2.1, ok3 hok.1, ok3 hok.2.2.1⟩
set_option maxRecDepth 100000 in
theorem Ps_law {Hh : Type} {enc : TypeId × Value → Hh} {W : World} {b0 : Nat} {vs : List Value} {ds : List (DataW Hh)} {ps : List MemPlace}
  (hG : LaidG W) (hok : ∀ (j : Nat) (t : TypeId) (v : Value), ([3, 22, 3] : List TypeId)[j]? = some t → vs[j]? = some v → Value.okWide Tryd.prog W .any b0 t v)
  (ht : DataW.TrodAll enc Tryd.prog W 0 (fun _ => true) true [3, 22, 3] vs ds ps) (hwt : (DataW.weightsEach Tryd.prog [3, 22, 3] ds).all (· ≤ reachBytes) = true) : Calls Tryd.prog 3 ⟨vs⟩ W (Law W) :=
 law_typed hG okGCPs mixedT (v3s 100 (Nat.le_of_ble_eq_true rfl)) Ps_args Ps_links hok ht hwt
theorem trod_lenPs {P : Program} {Hh : Type} {enc : TypeId × Value → Hh} {W : World} {base : Nat} {sp : Nat → Bool} {held : Bool} : ∀ {ts : List TypeId} {vs : List Value} {ds : List (DataW Hh)} {ps : List MemPlace}, DataW.TrodAll enc P W base sp held ts vs ds ps → ds.length = ts.length
 | [], [], [], _, _ => rfl
 | _ :: _, _ :: _, _ :: _, _, ⟨_, _, _, h, _⟩ => by rw [List.length_cons, List.length_cons, trod_lenPs h]
 | [], _ :: _, _, _, h => h.elim
 | [], [], _ :: _, _, h => h.elim
 | _ :: _, [], _, _, h => h.elim
 | _ :: _, _ :: _, [], _, h => h.elim
theorem split_Ps {α : Type} {l : List α} (h : l.length = 3) : ∃ d0 d1 d2, l = [d0, d1, d2] := by
 match l, h with
 | [d0, d1, d2], _ => exact ⟨d0, d1, d2, rfl⟩
end Go.Ev
namespace Go.Proofs.YtcnjngiaoomecaaDoor
open Go Go.ChangeShapes Go.WideShapes Go.ChangeAt Go.RowKit
theorem own : ownKnob Tryd.prog.godebug = none := by kernel_rfl
theorem laidOut : laidOutB Tryd.prog = true := by kernel_rfl
set_option maxRecDepth 100000 in
theorem eveningPlans_lifted (os : Os) (started : os.Started) (H : Type) (enc : TypeId × Value → H) :
  ReturnsInHanded {} Tryd.checked os 3 .any (fun w args => (Rows.eveningPlansSpec.pre enc Tryd.prog Tryd.f3 [] false w args ∧ laidMetH Tryd.prog Rows.eveningPlansRow.laid w) ∧ sizedMet enc Tryd.prog Tryd.f3 (OpenSpec.ofChange Rows.eveningPlansSpec) false w args)
   (Rows.eveningPlansSpec.post enc Tryd.prog Tryd.f3 false true false false) := by
 refine returnsInHanded_of_calls own started (by kernel_rfl)
  (ChangeSpec.witness_shaped (enc := enc) (C := Tryd.checked) (os := os) (X := fun w _ => laidMetH Tryd.prog Rows.eveningPlansRow.laid w) false (World.laidAll Tryd.prog os Rows.eveningPlansRow.laid) #[.int .i64 0, .slice none 0 0, .int .i64 0] 8 (World.laidAll_os _ _ _)
   (World.shaped_of_ZipB (by kernel_rfl) (by kernel_rfl)) (by kernel_rfl) (by kernel_rfl) (by kernel_rfl)
   (by rw [MakeChecks.laidMetH_plain _ _ _ (by kernel_rfl)]; exact laidMet_laidAll _ (by kernel_rfl) (by kernel_rfl))) ?_
 intro w tape i _ hsh _ hok hpre _
 obtain ⟨_, _, _, fn, hfn, _, _, _, _, hval0⟩ := hok
 have hfe : fn = Tryd.f3 := Option.some.inj (hfn.symm.trans Tryd.func3)
 subst hfe
 obtain ⟨⟨⟨ds, gs, before, hW0, _⟩, hx⟩, hsz⟩ := hpre
 have hwt := hsz.weights hW0
 have hW := DataW.Whole.of_heap (w' := w.forCall tape i) (by rfl) hW0
 have hG : Go.Ev.LaidG (w.forCall tape i) := Go.Ev.laidG_of hsh (laidMetH.of_heap (w' := w.forCall tape i) (by rfl) hx)
 clear hW0 hx hsh hsz
 generalize w.heap.size = base at *
 generalize w.forCall tape i = W at *
 generalize i.args = args at *
 have hval : ∀ (j : Nat) t v, Tryd.f3.params[j]? = some t → args[j]? = some v → Value.okWide Tryd.prog W .any base t v := hval0
 have hW' := hW
 obtain ⟨p, q, hA0, hV, rfl, hfz, hnd⟩ := hW
 have hA : DataW.TrodAll enc Tryd.prog W 0 (fun _ => true) true Tryd.f3.params.toList args.toList ds p := hA0
 obtain ⟨rfl, rfl⟩ := trodVars_none hV
 rw [Tryd.params3] at hA hval hwt
 have hwt : (DataW.weightsEach Tryd.prog [3, 22, 3] ds).all (· ≤ reachBytes) = true := by have := hwt; rw [List.append_nil] at this; exact this
 obtain ⟨al⟩ := args
 obtain ⟨d0, d1, d2, rfl⟩ := Go.Ev.split_Ps (Go.Ev.trod_lenPs hA)
 refine (Go.Ev.Ps_law (vs := al) hG (fun j t v ht hv => hval j t v (by simpa using ht) (by simpa using hv)) hA hwt).mono fun e W' ⟨he, hw⟩ => ?_
 subst he
 exact ChangeSpec.post_blind (Go.Ev.post_of_law laidOut hW' rfl rfl (by kernel_rfl) (tb := 4) (by kernel_rfl) Tryd.underlying4 hw)
end Go.Proofs.YtcnjngiaoomecaaDoor
