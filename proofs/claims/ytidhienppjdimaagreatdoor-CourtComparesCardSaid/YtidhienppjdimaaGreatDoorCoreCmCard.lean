/-
  Part of the engine that the claim is proved with: it states nothing of the document by itself.
-/
import Derived.Test.YtidhienppjdimaaGreatDoorCards
import Derived.Test.YtidhienppjdimaaGreatDoorTie
import Derived.Test.YtidhienppjdimaaGreatDoorCoreG28
import Derived.Test.YtidhienppjdimaaGreatDoorCoreAwake
import Derived.Test.YtidhienppjdimaaGreatDoorCoreKit
import Derived.Lay
import Derived.MakeChecks
import Derived.SevenTiedAt
import Derived.Stop.Joined
namespace Go.Ev
open Go.Proofs Go.ChangeShapes Go.WideShapes Go.ChangeAt Go.RowKit
theorem okGCCm : GOK Tryz.prog GC := okGS
theorem Cm_links : ([22, 25, 25, 3, 3].all fun t => linkB Tryz.prog 20 t) = true := by kernel_rfl
set_option maxRecDepth 100000 in
theorem Cm_args : ∀ Ds : List D, Ds.length = [22, 25, 25, 3, 3].length → withArgs Tryz.prog [22, 25, 25, 3, 3] Ds fun us => con3 us = some (True, .prop True) := fun Ds h =>
 match Ds, h with
 | [d0, d1, d2, d3, d4], _ => by
  have e : withArgs Tryz.prog [22, 25, 25, 3, 3] [d0, d1, d2, d3, d4] (fun us => con3 us = some (True, .prop True)) = (con3 [.dat 22 d0, .agg [.str (d1.fld 0).asStr, .str (d1.fld 1).asStr, .str (d1.fld 2).asStr, .int .i64 (d1.fld 3).asInt, .int .i64 (d1.fld 4).asInt, .str (d1.fld 5).asStr, .prop (d1.fld 6).asProp, .prop (d1.fld 7).asProp, .dat 23 (d1.fld 8)], .agg [.str (d2.fld 0).asStr, .str (d2.fld 1).asStr, .str (d2.fld 2).asStr, .int .i64 (d2.fld 3).asInt, .int .i64 (d2.fld 4).asInt, .str (d2.fld 5).asStr, .prop (d2.fld 6).asProp, .prop (d2.fld 7).asProp, .dat 23 (d2.fld 8)], .int .i64 d3.asInt, .int .i64 d4.asInt] = some (True, .prop True)) := by kernel_rfl
  rw [e]; rfl
set_option maxRecDepth 100000 in
theorem Cm_law {Hh : Type} {enc : TypeId × Value → Hh} {W : World} {b0 : Nat} {vs : List Value} {ds : List (DataW Hh)} {ps : List MemPlace}
  (hG : LaidG W) (hok : ∀ (j : Nat) (t : TypeId) (v : Value), ([22, 25, 25, 3, 3] : List TypeId)[j]? = some t → vs[j]? = some v → Value.okWide Tryz.prog W .any b0 t v)
  (ht : DataW.TrodAll enc Tryz.prog W 0 (fun _ => true) true [22, 25, 25, 3, 3] vs ds ps) : Calls Tryz.prog 3 ⟨vs⟩ W (Law W) :=
 law_any hG okGCCm mixedT (v3 100 (Nat.le_of_ble_eq_true rfl)) Cm_args Cm_links hok ht
theorem trod_lenCm {P : Program} {Hh : Type} {enc : TypeId × Value → Hh} {W : World} {base : Nat} {sp : Nat → Bool} {held : Bool} : ∀ {ts : List TypeId} {vs : List Value} {ds : List (DataW Hh)} {ps : List MemPlace}, DataW.TrodAll enc P W base sp held ts vs ds ps → ds.length = ts.length
 | [], [], [], _, _ => rfl
 | _ :: _, _ :: _, _ :: _, _, ⟨_, _, _, h, _⟩ => by rw [List.length_cons, List.length_cons, trod_lenCm h]
 | [], _ :: _, _, _, h => h.elim
 | [], [], _ :: _, _, h => h.elim
 | _ :: _, [], _, _, h => h.elim
 | _ :: _, _ :: _, [], _, h => h.elim
theorem split_Cm {α : Type} {l : List α} (h : l.length = 5) : ∃ d0 d1 d2 d3 d4, l = [d0, d1, d2, d3, d4] := by
 match l, h with
 | [d0, d1, d2, d3, d4], _ => exact ⟨d0, d1, d2, d3, d4, rfl⟩
end Go.Ev
namespace Go.Proofs.YtidhienppjdimaaGreatDoor
open Go Go.ChangeShapes Go.WideShapes Go.ChangeAt Go.RowKit
theorem own : ownKnob Tryz.prog.godebug = none := by kernel_rfl
theorem laidOut : laidOutB Tryz.prog = true := by kernel_rfl
set_option maxRecDepth 100000 in
theorem courtCompares_lifted (os : Os) (started : os.Started) (H : Type) (enc : TypeId × Value → H) :
  ReturnsInHanded {} Tryz.checked os 3 .any (fun w args => (Rows.courtComparesSpec.pre enc Tryz.prog Tryz.f3 [] false w args ∧ laidMetH Tryz.prog Rows.courtComparesRow.laid w) ∧ sizedMet enc Tryz.prog Tryz.f3 (OpenSpec.ofChange Rows.courtComparesSpec) false w args)
   (Rows.courtComparesSpec.post enc Tryz.prog Tryz.f3 false true false false) := by
 refine returnsInHanded_of_calls own started (by kernel_rfl)
  (ChangeSpec.witness_shaped (enc := enc) (C := Tryz.checked) (os := os) (X := fun w _ => laidMetH Tryz.prog Rows.courtComparesRow.laid w) false (World.laidAll Tryz.prog os Rows.courtComparesRow.laid) #[.slice none 0 0, .agg #[.string ⟨#[]⟩, .string ⟨#[]⟩, .string ⟨#[]⟩, .int .i64 0, .int .i64 0, .string ⟨#[]⟩, .bool false, .bool false, .slice none 0 0], .agg #[.string ⟨#[]⟩, .string ⟨#[]⟩, .string ⟨#[]⟩, .int .i64 0, .int .i64 0, .string ⟨#[]⟩, .bool false, .bool false, .slice none 0 0], .int .i64 0, .int .i64 0] 8 (World.laidAll_os _ _ _)
   (World.shaped_of_ZipB (by kernel_rfl) (by kernel_rfl)) (by kernel_rfl) (by kernel_rfl) (by kernel_rfl)
   (by rw [MakeChecks.laidMetH_plain _ _ _ (by kernel_rfl)]; exact laidMet_laidAll _ (by kernel_rfl) (by kernel_rfl))) ?_
 intro w tape i _ hsh _ hok hpre _
 obtain ⟨_, _, _, fn, hfn, _, _, _, _, hval0⟩ := hok
 have hfe : fn = Tryz.f3 := Option.some.inj (hfn.symm.trans Tryz.func3)
 subst hfe
 obtain ⟨⟨⟨ds, gs, before, hW0, _⟩, hx⟩, _⟩ := hpre
 have hW := DataW.Whole.of_heap (w' := w.forCall tape i) (by rfl) hW0
 have hG : Go.Ev.LaidG (w.forCall tape i) := Go.Ev.laidG_of hsh (laidMetH.of_heap (w' := w.forCall tape i) (by rfl) hx)
 clear hW0 hx hsh
 generalize w.heap.size = base at *
 generalize w.forCall tape i = W at *
 generalize i.args = args at *
 have hval : ∀ (j : Nat) t v, Tryz.f3.params[j]? = some t → args[j]? = some v → Value.okWide Tryz.prog W .any base t v := hval0
 have hW' := hW
 obtain ⟨p, q, hA0, hV, rfl, hfz, hnd⟩ := hW
 have hA : DataW.TrodAll enc Tryz.prog W 0 (fun _ => true) true Tryz.f3.params.toList args.toList ds p := hA0
 obtain ⟨rfl, rfl⟩ := trodVars_none hV
 rw [Tryz.params3] at hA hval
 obtain ⟨al⟩ := args
 obtain ⟨d0, d1, d2, d3, d4, rfl⟩ := Go.Ev.split_Cm (Go.Ev.trod_lenCm hA)
 refine (Go.Ev.Cm_law (vs := al) hG (fun j t v ht hv => hval j t v (by simpa using ht) (by simpa using hv)) hA).mono fun e W' ⟨he, hw⟩ => ?_
 subst he
 exact ChangeSpec.post_blind (Go.Ev.post_of_law laidOut hW' rfl rfl (by kernel_rfl) (tb := 4) (by kernel_rfl) Tryz.underlying4 hw)
end Go.Proofs.YtidhienppjdimaaGreatDoor
