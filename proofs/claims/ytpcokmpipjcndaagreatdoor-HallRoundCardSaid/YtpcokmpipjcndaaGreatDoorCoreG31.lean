/-
  Part of the engine that the claim is proved with: it states nothing of the document by itself.
-/
import Derived.Test.YtpcokmpipjcndaaGreatDoorCoreG29
import Derived.Test.YtpcokmpipjcndaaGreatDoorCoreAwake
import Derived.Test.YtpcokmpipjcndaaGreatDoorRows
import Derived.Test.YtpcokmpipjcndaaGreatDoorCoreKit
import Derived.Test.YtpcokmpipjcndaaGreatDoorProg
import Derived.Test.YtpcokmpipjcndaaGreatDoorCoreG0
import Derived.OpenShut
import Derived.LaidSub
import Derived.MakeChecks

section
open Go.Proofs
namespace Go.Ev
set_option maxRecDepth 100000
noncomputable def GC : Msk := { bits := GB, fast := false, ora := fun g => cond (Nat.beq g 6) (some (.bool true)) none, tab := tabM, srt := rowsF }
abbrev VC (d : Nat) (g : FuncId) (c : Con) : Prop := Valid Tryz.prog GC (ev Tryz.prog GC d) g c
theorem vnone (d : Nat) : ∀ g c, (fun _ : FuncId => (none : Option Con)) g = some c → VC d g c := fun _ _ h => by cases h
theorem v21 : ∀ d, 5 ≤ d → VC d 21 con43 := fun d hd =>
 valid_of_sym (C := ctx (fun _ => none) hpAnn) (G := GC) (B := 2) (m := 3) rfl rfl rfl (fun d _ => vnone d) (fun us p r hc hp ht => by
  unfold con43 at hc; split at hc
  ·cases hc; exact s21 _ _ hp
  ·cases hc) tabS_ok rfl rfl d hd
theorem v87 : ∀ d, 5 ≤ d → VC d 87 con126 := fun d hd =>
 valid_of_sym (C := ctx (fun _ => none) hpAnn) (G := GC) (B := 2) (m := 3) rfl rfl rfl (fun d _ => vnone d) (fun us p r hc hp ht => by
  unfold con126 at hc; split at hc
  ·cases hc; exact s87 _
  ·cases hc) tabS_ok rfl rfl d hd
theorem v80 : ∀ d, 5 ≤ d → VC d 80 con126 := fun d hd =>
 valid_of_sym (C := ctx (fun _ => none) hpAnn) (G := GC) (B := 2) (m := 3) rfl rfl rfl (fun d _ => vnone d) (fun us p r hc hp ht => by
  unfold con126 at hc; split at hc
  ·cases hc; exact s80 _
  ·cases hc) tabS_ok rfl rfl d hd
theorem v88 : ∀ d, 5 ≤ d → VC d 88 con127 := fun d hd =>
 valid_of_sym (C := ctx (fun _ => none) hpAnn) (G := GC) (B := 2) (m := 3) rfl rfl rfl (fun d _ => vnone d) (fun us p r hc hp ht => by
  unfold con127 at hc; split at hc
  ·cases hc; exact s88 _ _ hp
  ·cases hc) tabS_ok rfl rfl d hd
theorem v79 : ∀ d, 5 ≤ d → VC d 79 con28 := fun d hd =>
 valid_of_sym (C := ctx (fun _ => none) hpAnn) (G := GC) (B := 2) (m := 3) rfl rfl rfl (fun d _ => vnone d) (fun us p r hc hp ht => by
  unfold con28 at hc; split at hc
  ·cases hc; exact s79 _ _ _ _ _ _ _
  ·cases hc) tabS_ok rfl rfl d hd
theorem v74 : ∀ d, 5 ≤ d → VC d 74 con114 := fun d hd =>
 valid_of_sym (C := ctx (fun _ => none) hpAnn) (G := GC) (B := 2) (m := 3) rfl rfl rfl (fun d _ => vnone d) (fun us p r hc hp ht => by
  unfold con114 at hc; split at hc
  ·cases hc; exact s74 _ _ hp
  ·cases hc) tabS_ok rfl rfl d hd
theorem v73 : ∀ d, 10 ≤ d → VC d 73 con73 := fun d hd =>
 valid_of_sym (C := ctx (fun _ => none) hpAnn) (G := GC) (B := 2) (m := 8) rfl rfl rfl (fun d _ => vnone d) (fun us p r hc hp ht => by
  unfold con73 at hc; split at hc
  ·cases hc; exact s73 _ hp
  ·cases hc) tabS_ok rfl rfl d hd
theorem v100 : ∀ d, 5 ≤ d → VC d 100 con100 := fun d hd =>
 valid_of_sym (C := ctx (fun _ => none) hpAnn) (G := GC) (B := 2) (m := 3) rfl rfl rfl (fun d _ => vnone d) (fun us p r hc hp ht => by
  unfold con100 at hc; split at hc
  ·cases hc; exact s100 _
  ·cases hc) tabS_ok rfl rfl d hd
theorem v78 : ∀ d, 5 ≤ d → VC d 78 con78 := fun d hd =>
 valid_of_sym (C := ctx (fun _ => none) hpAnn) (G := GC) (B := 2) (m := 3) rfl rfl rfl (fun d _ => vnone d) (fun us p r hc hp ht => by
  unfold con78 at hc; split at hc
  ·cases hc; exact s78 _
  ·cases hc) tabS_ok rfl rfl d hd
theorem v71 : ∀ d, 7 ≤ d → VC d 71 con71 := fun d hd =>
 valid_of_sym (C := ctx (fun _ => none) hpAnn) (G := GC) (B := 2) (m := 5) rfl rfl rfl (fun d _ => vnone d) (fun us p r hc hp ht => by
  unfold con71 at hc; split at hc
  ·cases hc; exact s71 _
  ·cases hc) tabS_ok rfl rfl d hd
theorem v77 : ∀ d, 5 ≤ d → VC d 77 con77 := fun d hd =>
 valid_of_sym (C := ctx (fun _ => none) hpAnn) (G := GC) (B := 2) (m := 3) rfl rfl rfl (fun d _ => vnone d) (fun us p r hc hp ht => by
  unfold con77 at hc; split at hc
  ·cases hc; exact s77 _
  ·cases hc) tabS_ok rfl rfl d hd
theorem v76 : ∀ d, 5 ≤ d → VC d 76 con76 := fun d hd =>
 valid_of_sym (C := ctx (fun _ => none) hpAnn) (G := GC) (B := 2) (m := 3) rfl rfl rfl (fun d _ => vnone d) (fun us p r hc hp ht => by
  unfold con76 at hc; split at hc
  ·cases hc; exact s76 _ hp
  ·cases hc) tabS_ok rfl rfl d hd
theorem v39 : ∀ d, 5 ≤ d → VC d 39 con39 := fun d hd =>
 valid_of_sym (C := ctx (fun _ => none) hpAnn) (G := GC) (B := 2) (m := 3) rfl rfl rfl (fun d _ => vnone d) (fun us p r hc hp ht => by
  unfold con39 at hc; split at hc
  ·cases hc; exact s39 _ hp
  ·cases hc) tabS_ok rfl rfl d hd
theorem v31 : ∀ d, 10 ≤ d → VC d 31 con31 := fun d hd =>
 valid_of_sym (C := ctx (fun _ => none) hpAnn) (G := GC) (B := 2) (m := 8) rfl rfl rfl (fun d _ => vnone d) (fun us p r hc hp ht => by
  unfold con31 at hc; split at hc
  ·rename_i s b
   cases hb : isNl b with
   | false => rw [hb] at hc; cases hc
   | true =>
    rw [hb] at hc
    have e : b = ⟨#[10]⟩ := by
     obtain ⟨⟨l⟩⟩ := b
     unfold isNl at hb
     have : l = [10] := eq_of_beq hb
     rw [this]
    subst e
    cases hc; exact s31 _ hp
  ·cases hc) tabS_ok rfl rfl d hd
theorem v70 : ∀ d, 12 ≤ d → VC d 70 con70 := fun d hd =>
 valid_of_sym (C := ctx (fun _ => none) hpAnn) (G := GC) (B := 2) (m := 10) rfl rfl rfl (fun d _ => vnone d) (fun us p r hc hp ht => by
  unfold con70 at hc; split at hc
  ·rename_i s b
   cases hb : isSp b with
   | false => rw [hb] at hc; cases hc
   | true =>
    rw [hb] at hc
    have e : b = ⟨#[32]⟩ := by
     obtain ⟨⟨l⟩⟩ := b
     unfold isSp at hb
     have : l = [32] := eq_of_beq hb
     rw [this]
    subst e
    cases hc; exact s70 _ hp
  ·cases hc) tabS_ok rfl rfl d hd
theorem vh1 : ∀ d, 12 ≤ d → ∀ g c, hp1 g = some c → VC d g c := fun d hd g c h => by
 unfold hp1 at h
 split at h
 ·cases h; exact v21 d (by omega)
 ·cases h; exact v87 d (by omega)
 ·cases h; exact v80 d (by omega)
 ·cases h; exact v88 d (by omega)
 ·cases h; exact v79 d (by omega)
 ·cases h; exact v74 d (by omega)
 ·cases h; exact v73 d (by omega)
 ·cases h; exact v100 d (by omega)
 ·cases h; exact v78 d (by omega)
 ·cases h; exact v71 d (by omega)
 ·cases h; exact v77 d (by omega)
 ·cases h; exact v76 d (by omega)
 ·cases h; exact v39 d (by omega)
 ·cases h; exact v31 d (by omega)
 ·cases h; exact v70 d (by omega)
 ·cases h
theorem v57 : ∀ d, 16 ≤ d → VC d 57 con63 := fun d hd =>
 valid_of_sym (C := ctx hp1 hpAnn) (G := GC) (B := 12) (m := 4) rfl rfl rfl vh1 (fun us p r hc hp ht => by
  unfold con63 at hc; split at hc
  ·cases hc; exact s57 _ _ _ _ _ _ _ hp
  ·cases hc) tabS_ok rfl rfl d hd
open Classical in
theorem v41 : ∀ d, 16 ≤ d → VC d 41 con63 := fun d hd us p r hc hp => by
 have hc0 := hc
 unfold con63 at hc; split at hc
 ·rename_i nm sh a b o x y
  exact valid_of_sym (C := ctx hp1 (hp41 o (sizeZ sh a b))) (G := GC) (B := 12) (m := 4) (g := 41) (c := fun us => if us = [.agg [.str nm, .int .u8 sh, .int .i64 a, .int .i64 b, .dat 37 o, .int .i64 x, .int .i64 y]] then con63 us else none) rfl rfl rfl vh1 (fun us p r hc hp ht => by
   split at hc
   ·rename_i e; subst e
    have hc2 : some (o.len ≤ 100000, V.int .i64 (errZ nm sh a b o x y)) = some (p, r) := hc
    cases hc2; exact s41 nm sh a b o x y hp
   ·cases hc) tabS_ok rfl rfl d hd _ p r (by show (if _ then _ else _) = _; rw [if_pos rfl]; exact hc0) hp
 ·cases hc
theorem v35 : ∀ d, 16 ≤ d → VC d 35 con79 := fun d hd =>
 valid_of_sym (C := ctx hp1 hpAnn) (G := GC) (B := 12) (m := 4) rfl rfl rfl vh1 (fun us p r hc hp ht => by
  unfold con79 at hc; split at hc
  ·cases hc; exact s35 _ _ _ _ _ _ _ _ _ _ _ _ _ _ hp
  ·cases hc) tabS_ok rfl rfl d hd
theorem v72 : ∀ d, 16 ≤ d → VC d 72 con72 := fun d hd =>
 valid_of_sym (C := ctx hp1 hpAnn) (G := GC) (B := 12) (m := 4) rfl rfl rfl vh1 (fun us p r hc hp ht => by
  unfold con72 at hc; split at hc
  ·cases hc; exact s72 _ hp
  ·cases hc) tabS_ok rfl rfl d hd
theorem v40 : ∀ d, 16 ≤ d → VC d 40 con40 := fun d hd =>
 valid_of_sym (C := ctx hp1 hpAnn) (G := GC) (B := 12) (m := 4) rfl rfl rfl vh1 (fun us p r hc hp ht => by
  unfold con40 at hc; split at hc
  ·cases hc; exact s40 _ hp
  ·cases hc) tabS_ok rfl rfl d hd
theorem vh2 : ∀ d, 16 ≤ d → ∀ g c, hp2 g = some c → VC d g c := fun d hd g c h => by
 unfold hp2 at h
 split at h
 ·cases h; exact v57 d (by omega)
 ·cases h; exact v41 d (by omega)
 ·cases h; exact v35 d (by omega)
 ·cases h; exact v72 d (by omega)
 ·cases h; exact v40 d (by omega)
 ·exact vh1 d (by omega) _ c h
theorem v33 : ∀ d, 20 ≤ d → VC d 33 con33 := fun d hd =>
 valid_of_sym (C := ctx hp2 hpAnn) (G := GC) (B := 16) (m := 4) rfl rfl rfl vh2 (fun us p r hc hp ht => by
  unfold con33 at hc; split at hc
  ·cases hc; exact s33 _ _ _ _ _ _ _ _ hp
  ·cases hc) tabS_ok rfl rfl d hd
theorem v32 : ∀ d, 20 ≤ d → VC d 32 con32 := fun d hd =>
 valid_of_sym (C := ctx hp2 hpAnn) (G := GC) (B := 16) (m := 4) rfl rfl rfl vh2 (fun us p r hc hp ht => by
  unfold con32 at hc; split at hc
  ·cases hc; exact s32 _ hp
  ·cases hc) tabS_ok rfl rfl d hd
theorem v10 : ∀ d, 21 ≤ d → VC d 10 con60 := fun d hd =>
 valid_of_sym (C := ctx hp2 hpAnn) (G := GC) (B := 16) (m := 5) rfl rfl rfl vh2 (fun us p r hc hp ht => by
  unfold con60 at hc; split at hc
  ·cases hc; exact s10 _ _ hp
  ·cases hc) tabS_ok rfl rfl d hd
theorem vh3 : ∀ d, 21 ≤ d → ∀ g c, hp3 g = some c → VC d g c := fun d hd g c h => by
 unfold hp3 at h
 split at h
 ·cases h; exact v33 d (by omega)
 ·cases h; exact v32 d (by omega)
 ·cases h; exact v10 d (by omega)
 ·exact vh2 d (by omega) _ c h
theorem v9 : ∀ d, 26 ≤ d → VC d 9 con9 := fun d hd =>
 valid_of_sym (C := ctx hp3 hpAnn) (G := GC) (B := 21) (m := 5) rfl rfl rfl vh3 (fun us p r hc hp ht => by
  unfold con9 at hc; split at hc
  ·cases hc; exact s9 _
  ·cases hc) tabS_ok rfl rfl d hd
theorem v65 : ∀ d, 24 ≤ d → VC d 65 con65 := fun d hd =>
 valid_of_sym (C := ctx hp3 hrAnn) (G := GC) (B := 21) (m := 3) rfl rfl rfl vh3 (fun us p r hc hp ht => by
  unfold con65 at hc; split at hc
  ·cases hc; exact s65 _ hp
  ·cases hc) tabS_ok rfl rfl d hd
theorem v11 : ∀ d, 10 ≤ d → VC d 11 con11 := fun d hd =>
 valid_of_sym (C := ctx (fun _ => none) hrAnn) (G := GC) (B := 2) (m := 8) rfl rfl rfl (fun d _ => vnone d) (fun us p r hc hp ht => by
  unfold con11 at hc; split at hc
  ·rename_i s b
   cases hb : isNl b with
   | false => rw [hb] at hc; cases hc
   | true =>
    rw [hb] at hc
    have e : b = ⟨#[10]⟩ := by
     obtain ⟨⟨l⟩⟩ := b
     unfold isNl at hb
     have : l = [10] := eq_of_beq hb
     rw [this]
    subst e
    cases hc; exact s11 _
  ·cases hc) tabS_ok rfl rfl d hd
open Classical in
theorem v25 : ∀ d, 5 ≤ d → VC d 25 con25 := fun d hd us p r hc hp => by
 have hc0 := hc
 unfold con25 at hc; split at hc
 ·rename_i sh a b o nm
  exact valid_of_sym (C := ctx (fun _ => none) (annMade nm o)) (G := GC) (B := 2) (m := 3) (g := 25) (c := fun us => if us = [.agg [.int .u8 sh, .int .u8 a, .int .u8 b, .dat 52 o], .str nm] then con25 us else none) rfl rfl rfl (fun _ _ _ _ h => by cases h) (fun us p r hc hp ht => by
   split at hc
   ·rename_i e; subst e
    have hc2 : some (byteP sh ∧ byteP a ∧ byteP b ∧ bytesP o, V.agg [.str nm, .int .u8 (mSh sh), .int .i64 (mA sh a), .int .i64 (mB sh a b), .dat 37 (openD o (mN sh a b)), .int .i64 0, .int .i64 0]) = some (p, r) := hc
    cases hc2; exact s25 nm sh a b o hp.1 hp.2.1 hp.2.2.1 hp.2.2.2
   ·cases hc) tabS_ok rfl rfl d hd _ p r (by show (if _ then _ else _) = _; rw [if_pos rfl]; exact hc0) hp
 ·cases hc
theorem vr1 : ∀ d, 24 ≤ d → ∀ g c, hr1 g = some c → VC d g c := fun d hd g c h => by
 unfold hr1 at h
 split at h
 ·cases h; exact v65 d (by omega)
 ·cases h; exact v25 d (by omega)
 ·cases h; exact v11 d (by omega)
 ·exact vh3 d (by omega) _ c h
theorem v7 : ∀ d, 29 ≤ d → VC d 7 con7 := fun d hd =>
 valid_of_sym (C := ctx hr1 hrAnn) (G := GC) (B := 24) (m := 5) rfl rfl rfl vr1 (fun us p r hc hp ht => by
  unfold con7 at hc; split at hc
  ·cases hc; exact s7 _ hp
  ·cases hc) tabS_ok rfl rfl d hd
theorem v8 : ∀ d, 30 ≤ d → VC d 8 con8 := fun d hd =>
 valid_of_sym (C := ctxJ hr1) (G := GC) (B := 24) (m := 6) rfl rfl rfl vr1 (fun us p r hc hp ht => by
  unfold con8 at hc; split at hc
  ·cases hc; exact s8 _ hp
  ·cases hc) tabS_ok rfl rfl d hd
theorem vr2 : ∀ d, 30 ≤ d → ∀ g c, hr2 g = some c → VC d g c := fun d hd g c h => by
 unfold hr2 at h
 split at h
 ·cases h; exact v7 d (by omega)
 ·cases h; exact v8 d (by omega)
 ·cases h; exact v9 d (by omega)
 ·exact vr1 d (by omega) _ c h
theorem v4 : ∀ d, 34 ≤ d → VC d 4 con4 := fun d hd =>
 valid_of_sym (C := ctx hr2 hrAnn) (G := GC) (B := 30) (m := 4) rfl rfl rfl vr2 (fun us p r hc hp ht => by
  unfold con4 at hc; split at hc
  ·cases hc; exact sl4 _ _ hp
  ·cases hc) tabS_ok rfl rfl d hd
end Go.Ev

end

section
open Go.Proofs Go.Proofs.YtpcokmpipjcndaaGreatDoor
namespace Go.Ev
open Go.ChangeShapes Go.WideShapes Go.ChangeAt Go.RowKit
theorem arr_ints {P : Program} {w : World} {n e : Nat} {k : IntKind} {t : TypeId} {fuel : Nat} {cs : List Value} {zs : List Int} {p : List MemPlace} {enc : TypeId × Value → Unit} {base : Nat} {sp : Nat → Bool} {held : Bool}
  (ht : P.underlying t = some (.array n e)) (he : P.underlying e = some (.int k)) (hc1 : P.cellsOf e = 1) (hct : P.cellsOf t = n)
  (h : DataW.trod enc P w base sp held fuel t cs = some (.agg (zs.map fun z => .lit (.int k z)), p)) : cs = zs.map (Value.int k) := by
 obtain ⟨xs, m, _, ex, hlen, hxl, hel⟩ := DataW.trod_array ht h
 have e3 : (zs.map fun z => (DataW.lit (.int k z) : DataW Unit)) = xs.map (·.1) := DataW.agg.inj (Prod.mk.inj ex).1
 have hzl : zs.length = n := by have := congrArg List.length e3; simp at this; omega
 rw [hct] at hlen
 refine List.ext_getElem? fun i => ?_
 by_cases hi : i < n
 ·have k0 := hel i hi
  rw [hc1, Nat.mul_one, List.getElem?_eq_getElem (by omega : i < xs.length)] at k0
  obtain ⟨z, e1, e2, _⟩ := DataW.trod_int he k0
  have h0 : ((cs.drop i).take 1)[0]? = some (.int k z) := by rw [e1]; rfl
  have h1 : cs[i]? = some (.int k z) := by simpa using h0
  have h2 : (zs.map fun z => (DataW.lit (.int k z) : DataW Unit))[i]? = (xs.map (·.1))[i]? := by rw [e3]
  rw [List.getElem?_map, List.getElem?_map, List.getElem?_eq_getElem (by omega : i < zs.length), List.getElem?_eq_getElem (by omega : i < xs.length), e2] at h2
  simp only [Option.map_some, Option.some.injEq, DataW.lit.injEq, Lit.int.injEq, true_and] at h2
  rw [h1, List.getElem?_map, List.getElem?_eq_getElem (by omega : i < zs.length), Option.map_some, h2]
 ·rw [List.getElem?_eq_none (by omega), List.getElem?_eq_none (by simp; omega)]
def pow10z : List Int := [1, 10, 100, 1000, 10000, 100000, 1000000, 10000000, 100000000, 1000000000, 10000000000, 100000000000, 1000000000000, 10000000000000, 100000000000000, 1000000000000000, 10000000000000000, 100000000000000000, 1000000000000000000, 10000000000000000000]
theorem pow_laid {W : World} (h : laidMetH Tryz.prog Rows.hallParsesRow.laid W) : ∃ cs, W.var? Tryz.prog "internal/strconv.uint64pow10" = some cs ∧ cs.toList = pow10s := by
 rw [MakeChecks.laidMetH_plain _ _ _ (by kernel_rfl)] at h
 obtain ⟨ps, hl, _, _⟩ := h
 obtain ⟨_, _, _, _, _, _, _, _, _, _, hl, _⟩ := hl
 obtain ⟨_, _, _, _, _, _, _, _, _, _, hl, _⟩ := hl
 obtain ⟨g, t, cs, fuel, p, q, hg, ht, hv, hd, _, _⟩ := hl
 obtain rfl := Option.some.inj ((show Tryz.prog.globalNamed "internal/strconv.uint64pow10" = some 1 by kernel_rfl).symm.trans hg)
 obtain rfl := Option.some.inj ((show (Tryz.prog.globals[1]?).map (·.type) = some 189 by kernel_rfl).symm.trans ht)
 refine ⟨cs, hv, ?_⟩
 have e : (Rows.laid_internal_strconv_uint64pow10 : DataW Unit) = .agg (pow10z.map fun z => .lit (.int .u64 z)) := by kernel_rfl
 rw [e] at hd
 exact arr_ints (zs := pow10z) (n := 20) (e := 151) Tryz.underlying189 Tryz.underlying151 (by kernel_rfl) (by kernel_rfl) hd
theorem laidG_of {W : World} (hsh : W.ShapedOpen Tryz.prog) (h : laidMetH Tryz.prog Rows.hallParsesRow.laid W) : LaidG W := fun x hx => by
 have hx : x = { g := 1, e := 189, cs := pow10s } := List.mem_singleton.1 hx
 subst hx
 refine ⟨by show 1 < 6; omega, by kernel_rfl, ?_⟩
 obtain ⟨cs, hv, hc⟩ := pow_laid h
 have ht : (((begin Tryz.prog (fun _ _ => 0) default).world.heap[1]?).bind Obj.row?).map (·.2) = some 189 := by kernel_rfl
 cases hr : ((begin Tryz.prog (fun _ _ => 0) default).world.heap[1]?).bind Obj.row? with
 | none => rw [hr] at ht; cases ht
 | some y =>
  obtain ⟨zero, t⟩ := y
  rw [hr] at ht
  simp only [Option.map_some, Option.some.injEq] at ht
  subst ht
  obtain ⟨cs', h1, _, _⟩ := hsh.1 1 zero 189 (show 1 < Tryz.prog.globals.size from Nat.le_of_ble_eq_true (by kernel_rfl)) hr
  refine ⟨cs', _, h1, ?_⟩
  have : W.var? Tryz.prog "internal/strconv.uint64pow10" = some cs' := by
   unfold World.var?
   rw [show Tryz.prog.globalNamed "internal/strconv.uint64pow10" = some 1 by kernel_rfl]
   simp only [Option.bind_some, h1]
  rw [hv] at this
  rw [← Option.some.inj this]; exact hc
end Go.Ev

end
