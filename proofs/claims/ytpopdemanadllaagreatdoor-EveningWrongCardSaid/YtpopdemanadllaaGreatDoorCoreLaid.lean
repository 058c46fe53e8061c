/-
  Part of the engine that the claim is proved with: it states nothing of the document by itself.
-/
import Derived.Test.YtpopdemanadllaaGreatDoorRows
import Derived.Test.YtpopdemanadllaaGreatDoorCoreKit
import Derived.Test.YtpopdemanadllaaGreatDoorProg
import Derived.Test.YtpopdemanadllaaGreatDoorCoreEv
import Derived.OpenShut
import Derived.LaidSub
import Derived.MakeChecks
open Go.Proofs Go.Proofs.YtpopdemanadllaaGreatDoor
namespace Go.Ev
open Go.ChangeShapes Go.WideShapes Go.ChangeAt Go.RowKit
theorem arr_ints {P : Program} {w : World} {n e : Nat} {k : IntKind} {t : TypeId} {fuel : Nat} {cs : List Value} {zs : List Int} {p : List MemPlace} {enc : TypeId × Value → Unit} {base : Nat} {sp : Nat → Bool} {held : Bool}
  (ht : P.underlying t = some (.array n e)) (he : P.underlying e = some (.int k)) (hc1 : P.cellsOf e = 1) (hct : P.cellsOf t = n)
  (h : DataW.trod enc P w base sp held fuel t cs = some (.agg (zs.map fun z => .lit (.int k z)), p)) : cs = zs.map (Value.int k) := by
 obtain ⟨xs, m, _, ex, hlen, hxl, hel⟩ := DataW.trod_array ht h
 have e3 : (zs.map fun z => (DataW.lit (.int k z) : DataW Unit)) = xs.map (·.1) := DataW.agg.inj (Prod.mk.inj ex).1
 have hzl : zs.length = n := by have := congrArg List.length e3; simp at this; omega
 rw [hct] at hlen
 refine List.ext_getElem? fun i => ?_
 by_cases hi : i < n
 ·have k0 := hel i hi
  rw [hc1, Nat.mul_one, List.getElem?_eq_getElem (by omega : i < xs.length)] at k0
  obtain ⟨z, e1, e2, _⟩ := DataW.trod_int he k0
  have h0 : ((cs.drop i).take 1)[0]? = some (.int k z) := by rw [e1]; rfl
  have h1 : cs[i]? = some (.int k z) := by simpa using h0
  have h2 : (zs.map fun z => (DataW.lit (.int k z) : DataW Unit))[i]? = (xs.map (·.1))[i]? := by rw [e3]
  rw [List.getElem?_map, List.getElem?_map, List.getElem?_eq_getElem (by omega : i < zs.length), List.getElem?_eq_getElem (by omega : i < xs.length), e2] at h2
  simp only [Option.map_some, Option.some.injEq, DataW.lit.injEq, Lit.int.injEq, true_and] at h2
  rw [h1, List.getElem?_map, List.getElem?_eq_getElem (by omega : i < zs.length), Option.map_some, h2]
 ·rw [List.getElem?_eq_none (by omega), List.getElem?_eq_none (by simp; omega)]
def pow10z : List Int := [1, 10, 100, 1000, 10000, 100000, 1000000, 10000000, 100000000, 1000000000, 10000000000, 100000000000, 1000000000000, 10000000000000, 100000000000000, 1000000000000000, 10000000000000000, 100000000000000000, 1000000000000000000, 10000000000000000000]
theorem pow_laid {W : World} (h : laidMetH Tryz.prog Rows.eveningWrongRow.laid W) : ∃ cs, W.var? Tryz.prog "internal/strconv.uint64pow10" = some cs ∧ cs.toList = pow10s := by
 rw [MakeChecks.laidMetH_plain _ _ _ (by kernel_rfl)] at h
 obtain ⟨ps, hl, _, _⟩ := h
 obtain ⟨_, _, _, _, _, _, _, _, _, _, hl, _⟩ := hl
 obtain ⟨_, _, _, _, _, _, _, _, _, _, hl, _⟩ := hl
 obtain ⟨g, t, cs, fuel, p, q, hg, ht, hv, hd, _, _⟩ := hl
 obtain rfl := Option.some.inj ((show Tryz.prog.globalNamed "internal/strconv.uint64pow10" = some 0 by kernel_rfl).symm.trans hg)
 obtain rfl := Option.some.inj ((show (Tryz.prog.globals[0]?).map (·.type) = some 139 by kernel_rfl).symm.trans ht)
 refine ⟨cs, hv, ?_⟩
 have e : (Rows.laid_internal_strconv_uint64pow10 : DataW Unit) = .agg (pow10z.map fun z => .lit (.int .u64 z)) := by kernel_rfl
 rw [e] at hd
 exact arr_ints (zs := pow10z) (n := 20) (e := 121) Tryz.underlying139 Tryz.underlying121 (by kernel_rfl) (by kernel_rfl) hd
theorem laidG_of {W : World} (hsh : W.ShapedOpen Tryz.prog) (h : laidMetH Tryz.prog Rows.eveningWrongRow.laid W) : LaidG W := fun x hx => by
 have hx : x = { g := 0, e := 139, cs := pow10s } := List.mem_singleton.1 hx
 subst hx
 refine ⟨by show 0 < 4; omega, by kernel_rfl, ?_⟩
 obtain ⟨cs, hv, hc⟩ := pow_laid h
 have ht : (((begin Tryz.prog (fun _ _ => 0) default).world.heap[0]?).bind Obj.row?).map (·.2) = some 139 := by kernel_rfl
 cases hr : ((begin Tryz.prog (fun _ _ => 0) default).world.heap[0]?).bind Obj.row? with
 | none => rw [hr] at ht; cases ht
 | some y =>
  obtain ⟨zero, t⟩ := y
  rw [hr] at ht
  simp only [Option.map_some, Option.some.injEq] at ht
  subst ht
  obtain ⟨cs', h1, _, _⟩ := hsh.1 0 zero 139 (show 0 < Tryz.prog.globals.size from Nat.le_of_ble_eq_true (by kernel_rfl)) hr
  refine ⟨cs', _, h1, ?_⟩
  have : W.var? Tryz.prog "internal/strconv.uint64pow10" = some cs' := by
   unfold World.var?
   rw [show Tryz.prog.globalNamed "internal/strconv.uint64pow10" = some 0 by kernel_rfl]
   simp only [Option.bind_some, h1]
  rw [hv] at this
  rw [← Option.some.inj this]; exact hc
end Go.Ev
