/-
  Part of the engine that the claim is proved with: it states nothing of the document by itself.
-/
import Derived.Test.YtlihfnfigclbmaaDoorCoreG23
import Derived.Test.YtlihfnfigclbmaaDoorCoreAwake
import Derived.Test.YtlihfnfigclbmaaDoorRows
import Derived.Test.YtlihfnfigclbmaaDoorCoreKit
import Derived.Test.YtlihfnfigclbmaaDoorProg
import Derived.Test.YtlihfnfigclbmaaDoorCoreEv
import Derived.OpenShut
import Derived.LaidSub
import Derived.MakeChecks

section
open Go.Proofs
namespace Go.Ev
set_option maxRecDepth 100000
noncomputable def GCb : Msk := { bits := GB, fast := false, ora := fun g => cond (Nat.beq g 9) (some (.bool true)) none }
abbrev VB (d : Nat) (g : FuncId) (c : Con) : Prop := Valid Tryd.prog GCb (ev Tryd.prog GCb d) g c
theorem vb0 (d : Nat) : ∀ g c, cc0 g = some c → VB d g c := fun _ _ h => by cases h
theorem vb14 : ∀ d, 5 ≤ d → VB d 14 con14 := fun d hd =>
 valid_of_sym (C := ctx cc0 ebAnn) (G := GCb) (B := 2) (m := 3) rfl rfl rfl (fun d _ => vb0 d) (fun us p r hc hp ht => by
  unfold con14 at hc; split at hc
  ·cases hc; exact s14 _ hp (ht 24 _ (List.mem_cons.2 (.inl rfl)))
  ·cases hc) (fun _ _ => rfl) rfl rfl d hd
theorem vb19 : ∀ d, 5 ≤ d → VB d 19 con19 := fun d hd =>
 valid_of_sym (C := ctx cc0 ebAnn) (G := GCb) (B := 2) (m := 3) rfl rfl rfl (fun d _ => vb0 d) (fun us p r hc hp ht => by
  unfold con19 at hc; split at hc
  ·cases hc; exact s19 _ _ hp
  ·cases hc) (fun _ _ => rfl) rfl rfl d hd
theorem vb42 : ∀ d, 5 ≤ d → VB d 42 con42 := fun d hd =>
 valid_of_sym (C := ctx cc0 ebAnn) (G := GCb) (B := 2) (m := 3) rfl rfl rfl (fun d _ => vb0 d) (fun us p r hc hp ht => by
  unfold con42 at hc; split at hc
  ·cases hc; exact s42 _ _ hp.1.1 hp.1.2 hp.2
  ·cases hc) (fun _ _ => rfl) rfl rfl d hd
theorem vb39 : ∀ d, 5 ≤ d → VB d 39 con39 := fun d hd =>
 valid_of_sym (C := ctx cc0 ebAnn) (G := GCb) (B := 2) (m := 3) rfl rfl rfl (fun d _ => vb0 d) (fun us p r hc hp ht => by
  unfold con39 at hc; split at hc
  ·cases hc; exact s39 _ _ hp
  ·cases hc) (fun _ _ => rfl) rfl rfl d hd
theorem vb40 : ∀ d, 5 ≤ d → VB d 40 con40 := fun d hd =>
 valid_of_sym (C := ctx cc0 ebAnn) (G := GCb) (B := 2) (m := 3) rfl rfl rfl (fun d _ => vb0 d) (fun us p r hc hp ht => by
  unfold con40 at hc; split at hc
  ·cases hc; exact s40 _ hp
  ·cases hc) (fun _ _ => rfl) rfl rfl d hd
theorem vb38 : ∀ d, 12 ≤ d → VB d 38 con38 := fun d hd => by
 have h0 : ∀ d, 5 ≤ d → ∀ g c, ce0 g = some c → VB d g c := fun d hd g c e => by
  unfold ce0 at e
  split at e
  ·cases e; exact vb42 d hd
  ·cases e
 exact valid_of_sym (C := ctx ce0 ebAnn) (G := GCb) (B := 5) (m := 4) rfl rfl rfl h0 (fun us p r hc hp ht => by
  unfold con38 at hc; split at hc
  ·cases hc; exact s38 _ _ hp
  ·cases hc) (fun _ _ => rfl) rfl rfl d (by omega)
theorem vce1 : ∀ d, 12 ≤ d → ∀ g c, ce1 g = some c → VB d g c := fun d hd g c e => by
 unfold ce1 at e
 split at e
 ·cases e; exact vb42 d (by omega)
 ·cases e; exact vb38 d hd
 ·cases e; exact vb39 d (by omega)
 ·cases e; exact vb40 d (by omega)
 ·cases e
theorem vb15 : ∀ d, 15 ≤ d → VB d 15 con15 := fun d hd =>
 valid_of_sym (C := ctx ce1 ebAnn) (G := GCb) (B := 12) (m := 3) rfl rfl rfl vce1 (fun us p r hc hp ht => by
  unfold con15 at hc; split at hc
  ·cases hc; exact s15 _ _ _ hp
  ·cases hc) (fun _ _ => rfl) rfl rfl d hd
theorem vb16 : ∀ d, 15 ≤ d → VB d 16 con15 := fun d hd =>
 valid_of_sym (C := ctx ce1 ebAnn) (G := GCb) (B := 12) (m := 3) rfl rfl rfl vce1 (fun us p r hc hp ht => by
  unfold con15 at hc; split at hc
  ·cases hc; exact s16 _ _ _ hp
  ·cases hc) (fun _ _ => rfl) rfl rfl d hd
theorem vb17 : ∀ d, 15 ≤ d → VB d 17 con17 := fun d hd =>
 valid_of_sym (C := ctx ce1 ebAnn) (G := GCb) (B := 12) (m := 3) rfl rfl rfl vce1 (fun us p r hc hp ht => by
  unfold con17 at hc; split at hc
  ·cases hc; exact s17 _ _ _ hp
  ·cases hc) (fun _ _ => rfl) rfl rfl d hd
theorem vb18 : ∀ d, 15 ≤ d → VB d 18 con17 := fun d hd =>
 valid_of_sym (C := ctx ce1 ebAnn) (G := GCb) (B := 12) (m := 3) rfl rfl rfl vce1 (fun us p r hc hp ht => by
  unfold con17 at hc; split at hc
  ·cases hc; exact s18 _ _ _ hp
  ·cases hc) (fun _ _ => rfl) rfl rfl d hd
theorem vce2 : ∀ d, 15 ≤ d → ∀ g c, ce2 g = some c → VB d g c := fun d hd g c e => by
 unfold ce2 at e
 split at e
 ·cases e; exact vb14 d (by omega)
 ·cases e; exact vb19 d (by omega)
 ·cases e; exact vb15 d hd
 ·cases e; exact vb16 d hd
 ·cases e; exact vb17 d hd
 ·cases e; exact vb18 d hd
 ·cases e
noncomputable def con5 : Con := fun | [.int .i64 _, .dat 24 _, .int .i64 _, .int .i64 _] => some (True, .prop True) | _ => none
theorem v5 : ∀ d, 18 ≤ d → VB d 5 con5 := fun d hd =>
 valid_of_sym (C := ctx ce2 ebAnn) (G := GCb) (B := 15) (m := 3) rfl rfl rfl vce2 (fun us p r hc hp ht => by
  unfold con5 at hc; split at hc
  ·cases hc; exact sl5 _ _ _ _
  ·cases hc) (fun _ _ => rfl) rfl rfl d hd
end Go.Ev

end

section
open Go.Proofs Go.Proofs.YtlihfnfigclbmaaDoor
namespace Go.Ev
open Go.ChangeShapes Go.WideShapes Go.ChangeAt Go.RowKit
theorem arr_ints {P : Program} {w : World} {n e : Nat} {k : IntKind} {t : TypeId} {fuel : Nat} {cs : List Value} {zs : List Int} {p : List MemPlace} {enc : TypeId × Value → Unit} {base : Nat} {sp : Nat → Bool} {held : Bool}
  (ht : P.underlying t = some (.array n e)) (he : P.underlying e = some (.int k)) (hc1 : P.cellsOf e = 1) (hct : P.cellsOf t = n)
  (h : DataW.trod enc P w base sp held fuel t cs = some (.agg (zs.map fun z => .lit (.int k z)), p)) : cs = zs.map (Value.int k) := by
 obtain ⟨xs, m, _, ex, hlen, hxl, hel⟩ := DataW.trod_array ht h
 have e3 : (zs.map fun z => (DataW.lit (.int k z) : DataW Unit)) = xs.map (·.1) := DataW.agg.inj (Prod.mk.inj ex).1
 have hzl : zs.length = n := by have := congrArg List.length e3; simp at this; omega
 rw [hct] at hlen
 refine List.ext_getElem? fun i => ?_
 by_cases hi : i < n
 ·have k0 := hel i hi
  rw [hc1, Nat.mul_one, List.getElem?_eq_getElem (by omega : i < xs.length)] at k0
  obtain ⟨z, e1, e2, _⟩ := DataW.trod_int he k0
  have h0 : ((cs.drop i).take 1)[0]? = some (.int k z) := by rw [e1]; rfl
  have h1 : cs[i]? = some (.int k z) := by simpa using h0
  have h2 : (zs.map fun z => (DataW.lit (.int k z) : DataW Unit))[i]? = (xs.map (·.1))[i]? := by rw [e3]
  rw [List.getElem?_map, List.getElem?_map, List.getElem?_eq_getElem (by omega : i < zs.length), List.getElem?_eq_getElem (by omega : i < xs.length), e2] at h2
  simp only [Option.map_some, Option.some.injEq, DataW.lit.injEq, Lit.int.injEq, true_and] at h2
  rw [h1, List.getElem?_map, List.getElem?_eq_getElem (by omega : i < zs.length), Option.map_some, h2]
 ·rw [List.getElem?_eq_none (by omega), List.getElem?_eq_none (by simp; omega)]
def pow10z : List Int := [1, 10, 100, 1000, 10000, 100000, 1000000, 10000000, 100000000, 1000000000, 10000000000, 100000000000, 1000000000000, 10000000000000, 100000000000000, 1000000000000000, 10000000000000000, 100000000000000000, 1000000000000000000, 10000000000000000000]
theorem pow_laid {W : World} (h : laidMetH Tryd.prog Rows.eveningBoundsRow.laid W) : ∃ cs, W.var? Tryd.prog "internal/strconv.uint64pow10" = some cs ∧ cs.toList = pow10s := by
 rw [MakeChecks.laidMetH_plain _ _ _ (by kernel_rfl)] at h
 obtain ⟨ps, hl, _, _⟩ := h
 obtain ⟨_, _, _, _, _, _, _, _, _, _, hl, _⟩ := hl
 obtain ⟨_, _, _, _, _, _, _, _, _, _, hl, _⟩ := hl
 obtain ⟨g, t, cs, fuel, p, q, hg, ht, hv, hd, _, _⟩ := hl
 obtain rfl := Option.some.inj ((show Tryd.prog.globalNamed "internal/strconv.uint64pow10" = some 0 by kernel_rfl).symm.trans hg)
 obtain rfl := Option.some.inj ((show (Tryd.prog.globals[0]?).map (·.type) = some 123 by kernel_rfl).symm.trans ht)
 refine ⟨cs, hv, ?_⟩
 have e : (Rows.laid_internal_strconv_uint64pow10 : DataW Unit) = .agg (pow10z.map fun z => .lit (.int .u64 z)) := by kernel_rfl
 rw [e] at hd
 exact arr_ints (zs := pow10z) (n := 20) (e := 116) Tryd.underlying123 Tryd.underlying116 (by kernel_rfl) (by kernel_rfl) hd
theorem laidG_of {W : World} (hsh : W.ShapedOpen Tryd.prog) (h : laidMetH Tryd.prog Rows.eveningBoundsRow.laid W) : LaidG W := fun x hx => by
 have hx : x = { g := 0, e := 123, cs := pow10s } := List.mem_singleton.1 hx
 subst hx
 refine ⟨by show 0 < 4; omega, by kernel_rfl, ?_⟩
 obtain ⟨cs, hv, hc⟩ := pow_laid h
 have ht : (((begin Tryd.prog (fun _ _ => 0) default).world.heap[0]?).bind Obj.row?).map (·.2) = some 123 := by kernel_rfl
 cases hr : ((begin Tryd.prog (fun _ _ => 0) default).world.heap[0]?).bind Obj.row? with
 | none => rw [hr] at ht; cases ht
 | some y =>
  obtain ⟨zero, t⟩ := y
  rw [hr] at ht
  simp only [Option.map_some, Option.some.injEq] at ht
  subst ht
  obtain ⟨cs', h1, _, _⟩ := hsh.1 0 zero 123 (show 0 < Tryd.prog.globals.size from Nat.le_of_ble_eq_true (by kernel_rfl)) hr
  refine ⟨cs', _, h1, ?_⟩
  have : W.var? Tryd.prog "internal/strconv.uint64pow10" = some cs' := by
   unfold World.var?
   rw [show Tryd.prog.globalNamed "internal/strconv.uint64pow10" = some 0 by kernel_rfl]
   simp only [Option.bind_some, h1]
  rw [hv] at this
  rw [← Option.some.inj this]; exact hc
end Go.Ev

end
