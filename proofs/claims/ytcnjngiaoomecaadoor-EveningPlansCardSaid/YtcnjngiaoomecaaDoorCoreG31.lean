/-
  Part of the engine that the claim is proved with: it states nothing of the document by itself.
-/
import Derived.Test.YtcnjngiaoomecaaDoorCorePtL
import Derived.Test.YtcnjngiaoomecaaDoorCoreAwake
import Derived.Test.YtcnjngiaoomecaaDoorCoreKit
import Derived.Test.YtcnjngiaoomecaaDoorRows
import Derived.Test.YtcnjngiaoomecaaDoorProg
import Derived.Test.YtcnjngiaoomecaaDoorCoreEv
import Derived.OpenShut
import Derived.LaidSub
import Derived.MakeChecks

section
open Go.Proofs
namespace Go.Ev
set_option maxRecDepth 100000
noncomputable def GCb : Msk := { bits := GB, fast := false, ora := fun g => cond (Nat.beq g 5) (some (.bool true)) none }
abbrev VB (d : Nat) (g : FuncId) (c : Con) : Prop := Valid Tryd.prog GCb (ev Tryd.prog GCb d) g c
theorem vb0 (d : Nat) : ∀ g c, cc0 g = some c → VB d g c := fun _ _ h => by cases h
theorem vb13 : ∀ d, 5 ≤ d → VB d 24 con13 := fun d hd =>
 valid_of_sym (C := ctx cc0 ebAnn) (G := GCb) (B := 2) (m := 3) rfl rfl rfl (fun d _ => vb0 d) (fun us p r hc hp ht => by
  unfold con13 at hc; split at hc
  ·cases hc; exact s13 _ _ hp.1.1 hp.1.2 hp.2
  ·cases hc) (fun _ _ => rfl) rfl rfl d hd
theorem wk44 : ∀ d, 5 ≤ d → VB d 54 con67 := fun d hd =>
 valid_of_sym (C := ctx cc0 emAnn) (G := GCb) (B := 2) (m := 3) rfl rfl rfl (fun d _ => vb0 d) (fun us p r hc hp ht => by
  unfold con67 at hc; split at hc
  ·cases hc; exact s67 _ _ hp
  ·cases hc) (fun _ _ => rfl) rfl rfl d hd
theorem wck1 : ∀ d, 5 ≤ d → ∀ g c, ck1 g = some c → VB d g c := fun d hd g c e => by
 unfold ck1 at e
 split at e
 ·cases e; exact wk44 d (by omega)
 ·cases e
theorem wk18 : ∀ d, 8 ≤ d → VB d 36 con47 := fun d hd =>
 valid_of_sym (C := ctx ck1 emAnn) (G := GCb) (B := 5) (m := 3) rfl rfl rfl wck1 (fun us p r hc hp ht => by
  unfold con47 at hc; split at hc
  ·cases hc; exact s47 _ _ hp
  ·cases hc) (fun _ _ => rfl) rfl rfl d hd
theorem wck2 : ∀ d, 8 ≤ d → ∀ g c, ck2 g = some c → VB d g c := fun d hd g c e => by
 unfold ck2 at e
 split at e
 ·cases e; exact wk18 d (by omega)
 ·cases e
theorem wk15 : ∀ d, 13 ≤ d → VB d 9 con24e := fun d hd =>
 valid_of_sym (C := ctx ck2 emAnn) (G := GCb) (B := 8) (m := 5) rfl rfl rfl wck2 (fun us p r hc hp ht => by
  unfold con24e at hc; split at hc
  ·cases hc; exact s24 _ _ hp
  ·cases hc) (fun _ _ => rfl) rfl rfl d hd
theorem v70 : ∀ d, 6 ≤ d → VB d 70 con70 := fun d hd =>
 valid_of_sym (C := ctx cc0 pwAnn) (G := GCb) (B := 2) (m := 4) rfl rfl rfl (fun d _ => vb0 d) (fun us p r hc hp ht => by
  unfold con70 at hc; split at hc
  ·cases hc; exact s70 _ _ _ hp.1 hp.2.1 hp.2.2
  ·cases hc) (fun _ _ => rfl) rfl rfl d hd
theorem v71 : ∀ d, 6 ≤ d → VB d 71 con71 := fun d hd =>
 valid_of_sym (C := ctx cc0 pwAnn) (G := GCb) (B := 2) (m := 4) rfl rfl rfl (fun d _ => vb0 d) (fun us p r hc hp ht => by
  unfold con71 at hc; split at hc
  ·cases hc; exact s71 _ _ _ hp.1 hp.2.1 hp.2.2
  ·cases hc) (fun _ _ => rfl) rfl rfl d hd
theorem v72 : ∀ d, 6 ≤ d → VB d 72 con72 := fun d hd =>
 valid_of_sym (C := ctx cc0 orAnn) (G := GCb) (B := 2) (m := 4) rfl rfl rfl (fun d _ => vb0 d) (fun us p r hc hp ht => by
  unfold con72 at hc; split at hc
  ·cases hc; exact s72 _ hp
  ·cases hc) (fun _ _ => rfl) rfl rfl d hd
theorem v73 : ∀ d, 6 ≤ d → VB d 73 con73 := fun d hd =>
 valid_of_sym (C := ctx cc0 orAnn) (G := GCb) (B := 2) (m := 4) rfl rfl rfl (fun d _ => vb0 d) (fun us p r hc hp ht => by
  unfold con73 at hc; split at hc
  ·cases hc; exact s73 _ _
  ·cases hc) (fun _ _ => rfl) rfl rfl d hd
theorem vpn1 : ∀ d, 6 ≤ d → ∀ g c, pn1 g = some c → VB d g c := fun d hd g c e => by
 unfold pn1 at e
 split at e
 ·cases e; exact v70 d (by omega)
 ·cases e; exact v71 d (by omega)
 ·cases e; exact v72 d (by omega)
 ·cases e; exact v73 d (by omega)
 ·cases e
theorem v51 : ∀ d, 10 ≤ d → VB d 51 con51 := fun d hd =>
 valid_of_sym (C := ctx pn1 pwAnn) (G := GCb) (B := 6) (m := 4) rfl rfl rfl vpn1 (fun us p r hc hp ht => by
  unfold con51 at hc; split at hc
  ·cases hc; exact s51 _ _ _ hp
  ·cases hc) (fun _ _ => rfl) rfl rfl d hd
theorem vpw1 : ∀ d, 10 ≤ d → ∀ g c, pw1 g = some c → VB d g c := fun d hd g c e => by
 unfold pw1 at e
 split at e
 ·cases e; exact vb13 d (by omega)
 ·cases e; exact v51 d (by omega)
 ·cases e
theorem vPl : ∀ d, 18 ≤ d → VB d 7 conPl := fun d hd =>
 valid_of_sym (C := ctxj pw1 pwAnn pwJoin) (G := GCb) (B := 10) (m := 8) rfl rfl rfl vpw1 (fun us p r hc hp ht => by
  unfold conPl at hc; split at hc
  ·cases hc; exact sPl _ _ _ hp
  ·cases hc) (fun _ _ => rfl) rfl rfl d hd
theorem wk39 : ∀ d, 5 ≤ d → VB d 30 con39 := fun d hd =>
 valid_of_sym (C := ctx cc0 ebmAnn) (G := GCb) (B := 2) (m := 3) rfl rfl rfl (fun d _ => vb0 d) (fun us p r hc hp ht => by
  unfold con39 at hc; split at hc
  ·cases hc; exact s39 _ _ hp
  ·cases hc) (fun _ _ => rfl) rfl rfl d hd
theorem wk77 : ∀ d, 5 ≤ d → VB d 31 con66 := fun d hd =>
 valid_of_sym (C := ctx cc0 emAnn) (G := GCb) (B := 2) (m := 3) rfl rfl rfl (fun d _ => vb0 d) (fun us p r hc hp ht => by
  unfold con66 at hc; split at hc
  ·cases hc; exact s66 _ _ hp
  ·cases hc) (fun _ _ => rfl) rfl rfl d hd
theorem wk43 : ∀ d, 5 ≤ d → VB d 32 con43r := fun d hd =>
 valid_of_sym (C := ctx cc0 reAnn) (G := GCb) (B := 2) (m := 3) rfl rfl rfl (fun d _ => vb0 d) (fun us p r hc hp ht => by
  unfold con43r at hc; split at hc
  ·cases hc; exact s43r _ _ hp
  ·cases hc) (fun _ _ => rfl) rfl rfl d hd
theorem wre1 : ∀ d, 5 ≤ d → ∀ g c, re1 g = some c → VB d g c := fun d hd g c e => by
 unfold re1 at e
 split at e
 ·cases e; exact wk43 d (by omega)
 ·cases e
theorem wk17 : ∀ d, 8 ≤ d → VB d 53 con17r := fun d hd =>
 valid_of_sym (C := ctx re1 reAnn) (G := GCb) (B := 5) (m := 3) rfl rfl rfl wre1 (fun us p r hc hp ht => by
  unfold con17r at hc; split at hc
  ·cases hc; exact s17r _ _ _ hp
  ·cases hc) (fun _ _ => rfl) rfl rfl d hd
theorem vbf1 : ∀ d, 8 ≤ d → ∀ g c, bf1 g = some c → VB d g c := fun d hd g c e => by
 unfold bf1 at e
 split at e
 ·cases e; exact wk17 d (by omega)
 ·cases e
theorem v33b : ∀ d, 12 ≤ d → VB d 33 con33b := fun d hd =>
 valid_of_sym (C := ctx bf1 noAnn) (G := GCb) (B := 8) (m := 4) rfl rfl rfl vbf1 (fun us p r hc hp ht => by
  unfold con33b at hc; split at hc
  ·cases hc; exact s33b _ _ _ hp
  ·cases hc) (fun _ _ => rfl) rfl rfl d hd
theorem vrp1 : ∀ d, 12 ≤ d → ∀ g c, rp1 g = some c → VB d g c := fun d hd g c e => by
 unfold rp1 at e
 split at e
 ·cases e; exact wk39 d (by omega)
 ·cases e; exact wk77 d (by omega)
 ·cases e; exact wk43 d (by omega)
 ·cases e; exact v33b d (by omega)
 ·cases e
theorem v8r : ∀ d, 16 ≤ d → VB d 8 con8r := fun d hd =>
 valid_of_sym (C := ctxj rp1 prAnn2 prJoin) (G := GCb) (B := 12) (m := 4) rfl rfl rfl vrp1 (fun us p r hc hp ht => by
  unfold con8r at hc; split at hc
  ·cases hc; exact s8r _ _ _ hp
  ·cases hc) (fun _ _ => rfl) rfl rfl d hd
theorem v6c : ∀ d, 6 ≤ d → VB d 6 con6c := fun d hd =>
 valid_of_sym (C := ctx cc0 noAnn) (G := GCb) (B := 2) (m := 4) rfl rfl rfl (fun d _ => vb0 d) (fun us p r hc hp ht => by
  unfold con6c at hc; split at hc
  ·cases hc; exact s6c _ hp.1 hp.2
  ·cases hc) (fun _ _ => rfl) rfl rfl d hd
theorem v10e : ∀ d, 5 ≤ d → VB d 10 con10e := fun d hd =>
 valid_of_sym (C := ctx cc0 ebmAnn) (G := GCb) (B := 2) (m := 3) rfl rfl rfl (fun d _ => vb0 d) (fun us p r hc hp ht => by
  unfold con10e at hc; split at hc
  ·cases hc; exact s19 _ _ hp
  ·cases hc) (fun _ _ => rfl) rfl rfl d hd
theorem vpt1 : ∀ d, 18 ≤ d → ∀ g c, pt1 g = some c → VB d g c := fun d hd g c e => by
 unfold pt1 at e
 split at e
 ·cases e; exact v6c d (by omega)
 ·cases e; exact vPl d (by omega)
 ·cases e; exact v8r d (by omega)
 ·cases e; exact wk15 d (by omega)
 ·cases e; exact v10e d (by omega)
 ·cases e
theorem v3s : ∀ d, 22 ≤ d → VB d 3 con3s := fun d hd =>
 valid_of_sym (C := ctx pt1 noAnn) (G := GCb) (B := 18) (m := 4) rfl rfl rfl vpt1 (fun us p r hc hp ht => by
  unfold con3s at hc; split at hc
  ·cases hc; exact sl3s _ _ _ hp.1
  ·cases hc) (fun _ _ => rfl) rfl rfl d hd
section
variable {P : Program}
theorem ok_int {f : Nat} {t : TypeId} {k : IntKind} {d : D} (hu : P.underlying t = some (.int k)) (h : okD P (f + 1) t d) : inR k d.asInt := by
 unfold okD at h; rw [hu] at h
 obtain ⟨n, rfl, hn⟩ := h
 exact hn
end
theorem ok3 {d : D} (h : okD Tryd.prog 20 3 d) : inR .i64 d.asInt := ok_int Tryd.underlying3 h
theorem ok22r {d : D} (h : okD Tryd.prog 20 22 d) : rowQ d := by
 unfold okD at h; rw [Tryd.underlying22] at h
 rcases h with rfl | ⟨l, rfl, _⟩
 ·exact ⟨.inl rfl⟩
 ·exact ⟨.inr ⟨l, rfl⟩⟩
end Go.Ev

end

section
open Go.Proofs Go.Proofs.YtcnjngiaoomecaaDoor
namespace Go.Ev
open Go.ChangeShapes Go.WideShapes Go.ChangeAt Go.RowKit
theorem arr_ints {P : Program} {w : World} {n e : Nat} {k : IntKind} {t : TypeId} {fuel : Nat} {cs : List Value} {zs : List Int} {p : List MemPlace} {enc : TypeId × Value → Unit} {base : Nat} {sp : Nat → Bool} {held : Bool}
  (ht : P.underlying t = some (.array n e)) (he : P.underlying e = some (.int k)) (hc1 : P.cellsOf e = 1) (hct : P.cellsOf t = n)
  (h : DataW.trod enc P w base sp held fuel t cs = some (.agg (zs.map fun z => .lit (.int k z)), p)) : cs = zs.map (Value.int k) := by
 obtain ⟨xs, m, _, ex, hlen, hxl, hel⟩ := DataW.trod_array ht h
 have e3 : (zs.map fun z => (DataW.lit (.int k z) : DataW Unit)) = xs.map (·.1) := DataW.agg.inj (Prod.mk.inj ex).1
 have hzl : zs.length = n := by have := congrArg List.length e3; simp at this; omega
 rw [hct] at hlen
 refine List.ext_getElem? fun i => ?_
 by_cases hi : i < n
 ·have k0 := hel i hi
  rw [hc1, Nat.mul_one, List.getElem?_eq_getElem (by omega : i < xs.length)] at k0
  obtain ⟨z, e1, e2, _⟩ := DataW.trod_int he k0
  have h0 : ((cs.drop i).take 1)[0]? = some (.int k z) := by rw [e1]; rfl
  have h1 : cs[i]? = some (.int k z) := by simpa using h0
  have h2 : (zs.map fun z => (DataW.lit (.int k z) : DataW Unit))[i]? = (xs.map (·.1))[i]? := by rw [e3]
  rw [List.getElem?_map, List.getElem?_map, List.getElem?_eq_getElem (by omega : i < zs.length), List.getElem?_eq_getElem (by omega : i < xs.length), e2] at h2
  simp only [Option.map_some, Option.some.injEq, DataW.lit.injEq, Lit.int.injEq, true_and] at h2
  rw [h1, List.getElem?_map, List.getElem?_eq_getElem (by omega : i < zs.length), Option.map_some, h2]
 ·rw [List.getElem?_eq_none (by omega), List.getElem?_eq_none (by simp; omega)]
def pow10z : List Int := [1, 10, 100, 1000, 10000, 100000, 1000000, 10000000, 100000000, 1000000000, 10000000000, 100000000000, 1000000000000, 10000000000000, 100000000000000, 1000000000000000, 10000000000000000, 100000000000000000, 1000000000000000000, 10000000000000000000]
theorem pow_laid {W : World} (h : laidMetH Tryd.prog Rows.eveningPlansRow.laid W) : ∃ cs, W.var? Tryd.prog "internal/strconv.uint64pow10" = some cs ∧ cs.toList = pow10s := by
 rw [MakeChecks.laidMetH_plain _ _ _ (by kernel_rfl)] at h
 obtain ⟨ps, hl, _, _⟩ := h
 obtain ⟨_, _, _, _, _, _, _, _, _, _, hl, _⟩ := hl
 obtain ⟨_, _, _, _, _, _, _, _, _, _, hl, _⟩ := hl
 obtain ⟨g, t, cs, fuel, p, q, hg, ht, hv, hd, _, _⟩ := hl
 obtain rfl := Option.some.inj ((show Tryd.prog.globalNamed "internal/strconv.uint64pow10" = some 0 by kernel_rfl).symm.trans hg)
 obtain rfl := Option.some.inj ((show (Tryd.prog.globals[0]?).map (·.type) = some 121 by kernel_rfl).symm.trans ht)
 refine ⟨cs, hv, ?_⟩
 have e : (Rows.laid_internal_strconv_uint64pow10 : DataW Unit) = .agg (pow10z.map fun z => .lit (.int .u64 z)) := by kernel_rfl
 rw [e] at hd
 exact arr_ints (zs := pow10z) (n := 20) (e := 114) Tryd.underlying121 Tryd.underlying114 (by kernel_rfl) (by kernel_rfl) hd
theorem laidG_of {W : World} (hsh : W.ShapedOpen Tryd.prog) (h : laidMetH Tryd.prog Rows.eveningPlansRow.laid W) : LaidG W := fun x hx => by
 have hx : x = { g := 0, e := 121, cs := pow10s } := List.mem_singleton.1 hx
 subst hx
 refine ⟨by show 0 < 4; omega, by kernel_rfl, ?_⟩
 obtain ⟨cs, hv, hc⟩ := pow_laid h
 have ht : (((begin Tryd.prog (fun _ _ => 0) default).world.heap[0]?).bind Obj.row?).map (·.2) = some 121 := by kernel_rfl
 cases hr : ((begin Tryd.prog (fun _ _ => 0) default).world.heap[0]?).bind Obj.row? with
 | none => rw [hr] at ht; cases ht
 | some y =>
  obtain ⟨zero, t⟩ := y
  rw [hr] at ht
  simp only [Option.map_some, Option.some.injEq] at ht
  subst ht
  obtain ⟨cs', h1, _, _⟩ := hsh.1 0 zero 121 (show 0 < Tryd.prog.globals.size from Nat.le_of_ble_eq_true (by kernel_rfl)) hr
  refine ⟨cs', _, h1, ?_⟩
  have : W.var? Tryd.prog "internal/strconv.uint64pow10" = some cs' := by
   unfold World.var?
   rw [show Tryd.prog.globalNamed "internal/strconv.uint64pow10" = some 0 by kernel_rfl]
   simp only [Option.bind_some, h1]
  rw [hv] at this
  rw [← Option.some.inj this]; exact hc
end Go.Ev

end
