/-
  Part of the engine that the claim is proved with: it states nothing of the document by itself.
-/
import Derived.Test.YtcnjngiaoomecaaDoorCoreG28
import Derived.Test.YtcnjngiaoomecaaDoorCoreAwake
import Derived.Test.YtcnjngiaoomecaaDoorCoreKit
import Derived.Test.YtcnjngiaoomecaaDoorRows
import Derived.Test.YtcnjngiaoomecaaDoorProg
import Derived.Test.YtcnjngiaoomecaaDoorCoreEv
import Derived.OpenShut
import Derived.LaidSub
import Derived.MakeChecks

section
open Go.Proofs
namespace Go.Ev
set_option maxRecDepth 100000
noncomputable def GCb : Msk := { bits := GB, fast := false, ora := fun g => cond (Nat.beq g 5) (some (.bool true)) none }
abbrev VB (d : Nat) (g : FuncId) (c : Con) : Prop := Valid Tryd.prog GCb (ev Tryd.prog GCb d) g c
theorem vb0 (d : Nat) : ∀ g c, cc0 g = some c → VB d g c := fun _ _ h => by cases h
theorem vb13 : ∀ d, 5 ≤ d → VB d 24 con13 := fun d hd =>
 valid_of_sym (C := ctx cc0 ebAnn) (G := GCb) (B := 2) (m := 3) rfl rfl rfl (fun d _ => vb0 d) (fun us p r hc hp ht => by
  unfold con13 at hc; split at hc
  ·cases hc; exact s13 _ _ hp.1.1 hp.1.2 hp.2
  ·cases hc) (fun _ _ => rfl) rfl rfl d hd
theorem vk33 : ∀ d, 6 ≤ d → VB d 14 con33 := fun d hd =>
 valid_of_sym (C := ctxj cc0 ekAnn ekJoin) (G := GCb) (B := 2) (m := 4) rfl rfl rfl (fun d _ => vb0 d) (fun us p r hc hp ht => by
  unfold con33 at hc; split at hc
  ·cases hc; exact s33 _ hp
  ·cases hc) (fun _ _ => rfl) rfl rfl d hd
open Classical in
theorem vk32 : ∀ d, 7 ≤ d → VB d 59 con32 := fun d hd us p r hc hp => by
 have hc0 := hc
 unfold con32 at hc; split at hc
 ·rename_i n b
  exact valid_of_sym (C := ctx cc0 (gAnn n)) (G := GCb) (B := 2) (m := 5) (g := 59) (c := fun us => if us = [.int .i64 n, .dat 22 b] then con32 us else none) rfl rfl rfl (fun d _ => vb0 d) (fun us p r hc hp ht => by
   split at hc
   ·rename_i e; subst e
    cases hc; exact s32 _ _ hp.1.1 hp.1.2 hp.2
   ·cases hc) (fun _ _ => rfl) rfl rfl d hd _ p r (by show (if _ then _ else _) = _; rw [if_pos rfl]; exact hc0) hp
 ·cases hc
theorem vck3 : ∀ d, 7 ≤ d → ∀ g c, ck3 g = some c → VB d g c := fun d hd g c e => by
 unfold ck3 at e
 split at e
 ·cases e; exact vk32 d hd
 ·cases e; exact vk33 d (by omega)
 ·cases e
theorem vk14 : ∀ d, 12 ≤ d → VB d 37 con14 := fun d hd =>
 valid_of_sym (C := ctx ck3 ekAnn) (G := GCb) (B := 7) (m := 5) rfl rfl rfl vck3 (fun us p r hc hp ht => by
  unfold con14 at hc; split at hc
  ·cases hc; exact s14 _ _ _ hp.1.1 hp.1.2 hp.2.1 hp.2.2
  ·cases hc) (fun _ _ => rfl) rfl rfl d hd
theorem vck4 : ∀ d, 12 ≤ d → ∀ g c, ck4 g = some c → VB d g c := fun d hd g c e => by
 unfold ck4 at e
 split at e
 ·cases e; exact vb13 d (by omega)
 ·cases e; exact vk14 d hd
 ·cases e
theorem vk5 : ∀ d, 16 ≤ d → VB d 12 con5 := fun d hd =>
 valid_of_sym (C := ctx ck4 ekAnn) (G := GCb) (B := 12) (m := 4) rfl rfl rfl vck4 (fun us p r hc hp ht => by
  unfold con5 at hc; split at hc
  ·cases hc; exact s5 _ _ _ hp.1 hp.2
  ·cases hc) (fun _ _ => rfl) rfl rfl d hd
theorem vnt1 : ∀ d, 16 ≤ d → ∀ g c, nt1 g = some c → VB d g c := fun d hd g c e => by
 unfold nt1 at e
 split at e
 ·cases e; exact vk5 d hd
 ·cases e
theorem vn16 : ∀ d, 19 ≤ d → VB d 47 con16 := fun d hd =>
 valid_of_sym (C := ctx nt1 ntAnn) (G := GCb) (B := 16) (m := 3) rfl rfl rfl vnt1 (fun us p r hc hp ht => by
  unfold con16 at hc; split at hc
  ·cases hc; exact s16 _ _ hp
  ·cases hc) (fun _ _ => rfl) rfl rfl d hd
theorem vmt2 : ∀ d, 19 ≤ d → ∀ g c, mt2 g = some c → VB d g c := fun d hd g c e => by
 unfold mt2 at e
 split at e
 ·cases e; exact vn16 d (by omega)
 ·cases e
theorem vm26 : ∀ d, 27 ≤ d → VB d 40 con26 := fun d hd =>
 valid_of_sym (C := ctx mt2 mtAnn) (G := GCb) (B := 19) (m := 8) rfl rfl rfl vmt2 (fun us p r hc hp ht => by
  unfold con26 at hc; split at hc
  ·cases hc; exact s26 _ _ hp
  ·cases hc) (fun _ _ => rfl) rfl rfl d hd
theorem vmt3 : ∀ d, 27 ≤ d → ∀ g c, mt3 g = some c → VB d g c := fun d hd g c e => by
 unfold mt3 at e
 split at e
 ·cases e; exact vm26 d (by omega)
 ·cases e
theorem vm8 : ∀ d, 30 ≤ d → VB d 15 con8m := fun d hd =>
 valid_of_sym (C := ctx mt3 mtAnn) (G := GCb) (B := 27) (m := 3) rfl rfl rfl vmt3 (fun us p r hc hp ht => by
  unfold con8m at hc; split at hc
  ·cases hc; exact s8m _ _ hp
  ·cases hc) (fun _ _ => rfl) rfl rfl d hd
theorem vce0 : ∀ d, 5 ≤ d → ∀ g c, ce0 g = some c → VB d g c := fun d hd g c e => by
 unfold ce0 at e
 split at e
 ·cases e; exact vb13 d (by omega)
 ·cases e
theorem vm27 : ∀ d, 9 ≤ d → VB d 41 con38b := fun d hd =>
 valid_of_sym (C := ctx ce0 shAnn) (G := GCb) (B := 5) (m := 4) rfl rfl rfl vce0 (fun us p r hc hp ht => by
  unfold con38b at hc; split at hc
  ·cases hc; exact s27 _ _ hp
  ·cases hc) (fun _ _ => rfl) rfl rfl d hd
theorem vce1 : ∀ d, 9 ≤ d → ∀ g c, ce1 g = some c → VB d g c := fun d hd g c e => by
 unfold ce1 at e
 split at e
 ·cases e; exact vb13 d (by omega)
 ·cases e; exact vm27 d (by omega)
 ·cases e
theorem vm9 : ∀ d, 12 ≤ d → VB d 16 con15b := fun d hd =>
 valid_of_sym (C := ctx ce1 shAnn) (G := GCb) (B := 9) (m := 3) rfl rfl rfl vce1 (fun us p r hc hp ht => by
  unfold con15b at hc; split at hc
  ·cases hc; exact s9b _ _ _ hp
  ·cases hc) (fun _ _ => rfl) rfl rfl d hd
theorem vz21 : ∀ d, 6 ≤ d → VB d 11 con21z := fun d hd =>
 valid_of_sym (C := ctx cc0 mzAnn) (G := GCb) (B := 2) (m := 4) rfl rfl rfl (fun d _ => vb0 d) (fun us p r hc hp ht => by
  unfold con21z at hc; split at hc
  ·cases hc; exact s21z _ hp
  ·cases hc) (fun _ _ => rfl) rfl rfl d hd
theorem wk44 : ∀ d, 5 ≤ d → VB d 54 con67 := fun d hd =>
 valid_of_sym (C := ctx cc0 emAnn) (G := GCb) (B := 2) (m := 3) rfl rfl rfl (fun d _ => vb0 d) (fun us p r hc hp ht => by
  unfold con67 at hc; split at hc
  ·cases hc; exact s67 _ _ hp
  ·cases hc) (fun _ _ => rfl) rfl rfl d hd
theorem wck1 : ∀ d, 5 ≤ d → ∀ g c, ck1 g = some c → VB d g c := fun d hd g c e => by
 unfold ck1 at e
 split at e
 ·cases e; exact wk44 d (by omega)
 ·cases e
theorem wk18 : ∀ d, 8 ≤ d → VB d 36 con47 := fun d hd =>
 valid_of_sym (C := ctx ck1 emAnn) (G := GCb) (B := 5) (m := 3) rfl rfl rfl wck1 (fun us p r hc hp ht => by
  unfold con47 at hc; split at hc
  ·cases hc; exact s47 _ _ hp
  ·cases hc) (fun _ _ => rfl) rfl rfl d hd
theorem wck2 : ∀ d, 8 ≤ d → ∀ g c, ck2 g = some c → VB d g c := fun d hd g c e => by
 unfold ck2 at e
 split at e
 ·cases e; exact wk18 d (by omega)
 ·cases e
theorem wk15 : ∀ d, 13 ≤ d → VB d 9 con24e := fun d hd =>
 valid_of_sym (C := ctx ck2 emAnn) (G := GCb) (B := 8) (m := 5) rfl rfl rfl wck2 (fun us p r hc hp ht => by
  unfold con24e at hc; split at hc
  ·cases hc; exact s24 _ _ hp
  ·cases hc) (fun _ _ => rfl) rfl rfl d hd
theorem v70 : ∀ d, 6 ≤ d → VB d 70 con70 := fun d hd =>
 valid_of_sym (C := ctx cc0 pwAnn) (G := GCb) (B := 2) (m := 4) rfl rfl rfl (fun d _ => vb0 d) (fun us p r hc hp ht => by
  unfold con70 at hc; split at hc
  ·cases hc; exact s70 _ _ _ hp.1 hp.2.1 hp.2.2
  ·cases hc) (fun _ _ => rfl) rfl rfl d hd
theorem v71 : ∀ d, 6 ≤ d → VB d 71 con71 := fun d hd =>
 valid_of_sym (C := ctx cc0 pwAnn) (G := GCb) (B := 2) (m := 4) rfl rfl rfl (fun d _ => vb0 d) (fun us p r hc hp ht => by
  unfold con71 at hc; split at hc
  ·cases hc; exact s71 _ _ _ hp.1 hp.2.1 hp.2.2
  ·cases hc) (fun _ _ => rfl) rfl rfl d hd
theorem v72 : ∀ d, 6 ≤ d → VB d 72 con72 := fun d hd =>
 valid_of_sym (C := ctx cc0 orAnn) (G := GCb) (B := 2) (m := 4) rfl rfl rfl (fun d _ => vb0 d) (fun us p r hc hp ht => by
  unfold con72 at hc; split at hc
  ·cases hc; exact s72 _ hp
  ·cases hc) (fun _ _ => rfl) rfl rfl d hd
theorem v73 : ∀ d, 6 ≤ d → VB d 73 con73 := fun d hd =>
 valid_of_sym (C := ctx cc0 orAnn) (G := GCb) (B := 2) (m := 4) rfl rfl rfl (fun d _ => vb0 d) (fun us p r hc hp ht => by
  unfold con73 at hc; split at hc
  ·cases hc; exact s73 _ _
  ·cases hc) (fun _ _ => rfl) rfl rfl d hd
theorem vpn1 : ∀ d, 6 ≤ d → ∀ g c, pn1 g = some c → VB d g c := fun d hd g c e => by
 unfold pn1 at e
 split at e
 ·cases e; exact v70 d (by omega)
 ·cases e; exact v71 d (by omega)
 ·cases e; exact v72 d (by omega)
 ·cases e; exact v73 d (by omega)
 ·cases e
theorem v51 : ∀ d, 10 ≤ d → VB d 51 con51 := fun d hd =>
 valid_of_sym (C := ctx pn1 pwAnn) (G := GCb) (B := 6) (m := 4) rfl rfl rfl vpn1 (fun us p r hc hp ht => by
  unfold con51 at hc; split at hc
  ·cases hc; exact s51 _ _ _ hp
  ·cases hc) (fun _ _ => rfl) rfl rfl d hd
theorem vpw1 : ∀ d, 10 ≤ d → ∀ g c, pw1 g = some c → VB d g c := fun d hd g c e => by
 unfold pw1 at e
 split at e
 ·cases e; exact vb13 d (by omega)
 ·cases e; exact v51 d (by omega)
 ·cases e
theorem vPl : ∀ d, 18 ≤ d → VB d 7 conPl := fun d hd =>
 valid_of_sym (C := ctxj pw1 pwAnn pwJoin) (G := GCb) (B := 10) (m := 8) rfl rfl rfl vpw1 (fun us p r hc hp ht => by
  unfold conPl at hc; split at hc
  ·cases hc; exact sPl _ _ _ hp
  ·cases hc) (fun _ _ => rfl) rfl rfl d hd
theorem v38l : ∀ d, 6 ≤ d → VB d 38 con38l := fun d hd =>
 valid_of_sym (C := ctx cc0 noAnn) (G := GCb) (B := 2) (m := 4) rfl rfl rfl (fun d _ => vb0 d) (fun us p r hc hp ht => by
  unfold con38l at hc; split at hc
  ·cases hc; exact s38l _ _
  ·cases hc) (fun _ _ => rfl) rfl rfl d hd
theorem vso1 : ∀ d, 6 ≤ d → ∀ g c, so1 g = some c → VB d g c := fun d hd g c e => by
 unfold so1 at e
 split at e
 ·cases e; exact v38l d (by omega)
 ·cases e
theorem v13s : ∀ d, 10 ≤ d → VB d 13 con13s := fun d hd =>
 valid_of_sym (C := ctx so1 soAnn) (G := GCb) (B := 6) (m := 4) rfl rfl rfl vso1 (fun us p r hc hp ht => by
  unfold con13s at hc; split at hc
  ·cases hc; exact s13s _ hp
  ·cases hc) (fun _ _ => rfl) rfl rfl d hd
theorem vpd1 : ∀ d, 30 ≤ d → ∀ g c, pd1 g = some c → VB d g c := fun d hd g c e => by
 unfold pd1 at e
 split at e
 ·cases e; exact vPl d (by omega)
 ·cases e; exact wk15 d (by omega)
 ·cases e; exact vz21 d (by omega)
 ·cases e; exact vk5 d (by omega)
 ·cases e; exact v13s d (by omega)
 ·cases e; exact vk33 d (by omega)
 ·cases e; exact vm8 d (by omega)
 ·cases e; exact vm9 d (by omega)
 ·cases e
theorem v4w : ∀ d, 34 ≤ d → VB d 4 con4w := fun d hd =>
 valid_of_sym (C := ctx pd1 noAnn) (G := GCb) (B := 30) (m := 4) rfl rfl rfl vpd1 (fun us p r hc hp ht => by
  unfold con4w at hc; split at hc
  ·cases hc; exact sl4w _ _ _ hp.1 hp.2.1.1 hp.2.1.2 hp.2.2.1 hp.2.2.2
  ·cases hc) (fun _ _ => rfl) rfl rfl d hd
section
variable {P : Program}
theorem ok_rows {f : Nat} {t e : TypeId} {d : D} (hu : P.underlying t = some (.slice e)) (h : okD P (f + 1) t d) : d.len * P.bytesOf e ≤ reachBytes ∧ ∀ i, i < d.len → okD P f e (el d i) := by
 unfold okD at h; rw [hu] at h
 rcases h with rfl | ⟨l, rfl, h0, h⟩
 ·exact ⟨by simp [D.len, D.asList], fun i hi => by simp [D.len, D.asList] at hi⟩
 ·refine ⟨h0.2, fun i hi => h i _ ?_⟩
  have hi : i < l.length := hi
  show l[i]? = some (nthD l i)
  unfold nthD
  rw [List.getElem?_eq_getElem hi]; rfl
theorem ok_int {f : Nat} {t : TypeId} {k : IntKind} {d : D} (hu : P.underlying t = some (.int k)) (h : okD P (f + 1) t d) : inR k d.asInt := by
 unfold okD at h; rw [hu] at h
 obtain ⟨n, rfl, hn⟩ := h
 exact hn
end
theorem ok5 {d : D} (h : okD Tryd.prog 20 5 d) : 0 ≤ d.asInt ∧ d.asInt < 256 := ok_int Tryd.underlying5 h
theorem ok34 {d : D} (h : okD Tryd.prog 20 34 d) : u8L d := ⟨fun i hi => ok_int Tryd.underlying5 ((ok_rows Tryd.underlying34 h).2 i hi)⟩
end Go.Ev

end

section
open Go.Proofs Go.Proofs.YtcnjngiaoomecaaDoor
namespace Go.Ev
open Go.ChangeShapes Go.WideShapes Go.ChangeAt Go.RowKit
theorem arr_ints {P : Program} {w : World} {n e : Nat} {k : IntKind} {t : TypeId} {fuel : Nat} {cs : List Value} {zs : List Int} {p : List MemPlace} {enc : TypeId × Value → Unit} {base : Nat} {sp : Nat → Bool} {held : Bool}
  (ht : P.underlying t = some (.array n e)) (he : P.underlying e = some (.int k)) (hc1 : P.cellsOf e = 1) (hct : P.cellsOf t = n)
  (h : DataW.trod enc P w base sp held fuel t cs = some (.agg (zs.map fun z => .lit (.int k z)), p)) : cs = zs.map (Value.int k) := by
 obtain ⟨xs, m, _, ex, hlen, hxl, hel⟩ := DataW.trod_array ht h
 have e3 : (zs.map fun z => (DataW.lit (.int k z) : DataW Unit)) = xs.map (·.1) := DataW.agg.inj (Prod.mk.inj ex).1
 have hzl : zs.length = n := by have := congrArg List.length e3; simp at this; omega
 rw [hct] at hlen
 refine List.ext_getElem? fun i => ?_
 by_cases hi : i < n
 ·have k0 := hel i hi
  rw [hc1, Nat.mul_one, List.getElem?_eq_getElem (by omega : i < xs.length)] at k0
  obtain ⟨z, e1, e2, _⟩ := DataW.trod_int he k0
  have h0 : ((cs.drop i).take 1)[0]? = some (.int k z) := by rw [e1]; rfl
  have h1 : cs[i]? = some (.int k z) := by simpa using h0
  have h2 : (zs.map fun z => (DataW.lit (.int k z) : DataW Unit))[i]? = (xs.map (·.1))[i]? := by rw [e3]
  rw [List.getElem?_map, List.getElem?_map, List.getElem?_eq_getElem (by omega : i < zs.length), List.getElem?_eq_getElem (by omega : i < xs.length), e2] at h2
  simp only [Option.map_some, Option.some.injEq, DataW.lit.injEq, Lit.int.injEq, true_and] at h2
  rw [h1, List.getElem?_map, List.getElem?_eq_getElem (by omega : i < zs.length), Option.map_some, h2]
 ·rw [List.getElem?_eq_none (by omega), List.getElem?_eq_none (by simp; omega)]
def pow10z : List Int := [1, 10, 100, 1000, 10000, 100000, 1000000, 10000000, 100000000, 1000000000, 10000000000, 100000000000, 1000000000000, 10000000000000, 100000000000000, 1000000000000000, 10000000000000000, 100000000000000000, 1000000000000000000, 10000000000000000000]
theorem pow_laid {W : World} (h : laidMetH Tryd.prog Rows.eveningPlannedRow.laid W) : ∃ cs, W.var? Tryd.prog "internal/strconv.uint64pow10" = some cs ∧ cs.toList = pow10s := by
 rw [MakeChecks.laidMetH_plain _ _ _ (by kernel_rfl)] at h
 obtain ⟨ps, hl, _, _⟩ := h
 obtain ⟨_, _, _, _, _, _, _, _, _, _, hl, _⟩ := hl
 obtain ⟨_, _, _, _, _, _, _, _, _, _, hl, _⟩ := hl
 obtain ⟨g, t, cs, fuel, p, q, hg, ht, hv, hd, _, _⟩ := hl
 obtain rfl := Option.some.inj ((show Tryd.prog.globalNamed "internal/strconv.uint64pow10" = some 0 by kernel_rfl).symm.trans hg)
 obtain rfl := Option.some.inj ((show (Tryd.prog.globals[0]?).map (·.type) = some 121 by kernel_rfl).symm.trans ht)
 refine ⟨cs, hv, ?_⟩
 have e : (Rows.laid_internal_strconv_uint64pow10 : DataW Unit) = .agg (pow10z.map fun z => .lit (.int .u64 z)) := by kernel_rfl
 rw [e] at hd
 exact arr_ints (zs := pow10z) (n := 20) (e := 114) Tryd.underlying121 Tryd.underlying114 (by kernel_rfl) (by kernel_rfl) hd
theorem laidG_of {W : World} (hsh : W.ShapedOpen Tryd.prog) (h : laidMetH Tryd.prog Rows.eveningPlannedRow.laid W) : LaidG W := fun x hx => by
 have hx : x = { g := 0, e := 121, cs := pow10s } := List.mem_singleton.1 hx
 subst hx
 refine ⟨by show 0 < 4; omega, by kernel_rfl, ?_⟩
 obtain ⟨cs, hv, hc⟩ := pow_laid h
 have ht : (((begin Tryd.prog (fun _ _ => 0) default).world.heap[0]?).bind Obj.row?).map (·.2) = some 121 := by kernel_rfl
 cases hr : ((begin Tryd.prog (fun _ _ => 0) default).world.heap[0]?).bind Obj.row? with
 | none => rw [hr] at ht; cases ht
 | some y =>
  obtain ⟨zero, t⟩ := y
  rw [hr] at ht
  simp only [Option.map_some, Option.some.injEq] at ht
  subst ht
  obtain ⟨cs', h1, _, _⟩ := hsh.1 0 zero 121 (show 0 < Tryd.prog.globals.size from Nat.le_of_ble_eq_true (by kernel_rfl)) hr
  refine ⟨cs', _, h1, ?_⟩
  have : W.var? Tryd.prog "internal/strconv.uint64pow10" = some cs' := by
   unfold World.var?
   rw [show Tryd.prog.globalNamed "internal/strconv.uint64pow10" = some 0 by kernel_rfl]
   simp only [Option.bind_some, h1]
  rw [hv] at this
  rw [← Option.some.inj this]; exact hc
end Go.Ev

end
