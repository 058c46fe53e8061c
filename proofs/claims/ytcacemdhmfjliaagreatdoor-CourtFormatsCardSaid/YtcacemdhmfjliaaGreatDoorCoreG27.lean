/-
  Part of the engine that the claim is proved with: it states nothing of the document by itself.
-/
import Derived.Test.YtcacemdhmfjliaaGreatDoorCoreCcC
import Derived.Test.YtcacemdhmfjliaaGreatDoorCoreAwake
import Derived.Test.YtcacemdhmfjliaaGreatDoorCoreG24
import Derived.Test.YtcacemdhmfjliaaGreatDoorRows
import Derived.Test.YtcacemdhmfjliaaGreatDoorCoreKit
import Derived.Test.YtcacemdhmfjliaaGreatDoorProg
import Derived.Test.YtcacemdhmfjliaaGreatDoorCoreG0
import Derived.OpenShut
import Derived.LaidSub
import Derived.MakeChecks

section
open Go.Proofs
namespace Go.Ev
set_option maxRecDepth 100000
noncomputable def GC : Msk := { bits := GB, fast := false, ora := fun g => cond (Nat.beq g 9) (some (.bool true)) none }
abbrev VC (d : Nat) (g : FuncId) (c : Con) : Prop := Valid Tryz.prog GC (ev Tryz.prog GC d) g c
theorem vnone (d : Nat) : ∀ g c, (fun _ : FuncId => (none : Option Con)) g = some c → VC d g c := fun _ _ h => by cases h
theorem v86 : ∀ d, 5 ≤ d → VC d 86 con86 := fun d hd =>
 valid_of_sym (C := ctx (fun _ => none) ccAnn) (G := GC) (B := 2) (m := 3) rfl rfl rfl (fun d _ => vnone d) (fun us p r hc hp ht => by
  unfold con86 at hc; split at hc
  ·cases hc; exact s86 _ _ hp
  ·cases hc) (fun _ _ => rfl) rfl rfl d hd
theorem v67 : ∀ d, 5 ≤ d → VC d 67 con86 := fun d hd =>
 valid_of_sym (C := ctx (fun _ => none) ccAnn) (G := GC) (B := 2) (m := 3) rfl rfl rfl (fun d _ => vnone d) (fun us p r hc hp ht => by
  unfold con86 at hc; split at hc
  ·cases hc; exact s67 _ _ hp
  ·cases hc) (fun _ _ => rfl) rfl rfl d hd
theorem v66 : ∀ d, 5 ≤ d → VC d 66 con66 := fun d hd =>
 valid_of_sym (C := ctx (fun _ => none) ccAnn) (G := GC) (B := 2) (m := 3) rfl rfl rfl (fun d _ => vnone d) (fun us p r hc hp ht => by
  unfold con66 at hc; split at hc
  ·cases hc; exact s66 _
  ·cases hc) (fun _ _ => rfl) rfl rfl d hd
theorem v68 : ∀ d, 5 ≤ d → VC d 68 con68 := fun d hd =>
 valid_of_sym (C := ctx (fun _ => none) ccAnn) (G := GC) (B := 2) (m := 3) rfl rfl rfl (fun d _ => vnone d) (fun us p r hc hp ht => by
  unfold con68 at hc; split at hc
  ·cases hc; exact s68 _ _ hp
  ·cases hc) (fun _ _ => rfl) rfl rfl d hd
theorem v65 : ∀ d, 5 ≤ d → VC d 65 con65 := fun d hd =>
 valid_of_sym (C := ctx (fun _ => none) ccAnn) (G := GC) (B := 2) (m := 3) rfl rfl rfl (fun d _ => vnone d) (fun us p r hc hp ht => by
  unfold con65 at hc; split at hc
  ·cases hc; exact s65 _ _ _ _ _
  ·cases hc) (fun _ _ => rfl) rfl rfl d hd
theorem v62 : ∀ d, 5 ≤ d → VC d 62 con65 := fun d hd =>
 valid_of_sym (C := ctx (fun _ => none) ccAnn) (G := GC) (B := 2) (m := 3) rfl rfl rfl (fun d _ => vnone d) (fun us p r hc hp ht => by
  unfold con65 at hc; split at hc
  ·cases hc; exact s62 _ _ _ _ _
  ·cases hc) (fun _ _ => rfl) rfl rfl d hd
theorem vN (d : Nat) (g : FuncId) : VC d g conN := by
 intro us p r hc hp σ H vs hst hl
 unfold conN at hc
 split at hc
 ·cases hc; exact hp.elim
 ·cases hc
theorem vcc0 (d : Nat) : ∀ g c, cc0 g = some c → VC d g c := fun g c h => by
 unfold cc0 at h
 split at h
 ·cases h; exact vN d _
 ·cases h; exact vN d _
 ·cases h
theorem v61 : ∀ d, 8 ≤ d → VC d 61 con66 := fun d hd =>
 valid_of_sym (C := ctx cc0 ccAnn) (G := GC) (B := 2) (m := 6) rfl rfl rfl (fun d _ => vcc0 d) (fun us p r hc hp ht => by
  unfold con66 at hc; split at hc
  ·cases hc; exact s61 _
  ·cases hc) (fun _ _ => rfl) rfl rfl d hd
theorem vcc1 : ∀ d, 8 ≤ d → ∀ g c, cc1 g = some c → VC d g c := fun d hd g c h => by
 unfold cc1 at h
 split at h
 ·cases h; exact v86 d (by omega)
 ·cases h; exact v67 d (by omega)
 ·cases h; exact v66 d (by omega)
 ·cases h; exact v61 d (by omega)
 ·cases h; exact v68 d (by omega)
 ·cases h; exact v65 d (by omega)
 ·cases h; exact v62 d (by omega)
 ·cases h
theorem v63 : ∀ d, 11 ≤ d → VC d 63 con63 := fun d hd =>
 valid_of_sym (C := ctx cc1 ccAnn) (G := GC) (B := 8) (m := 3) rfl rfl rfl vcc1 (fun us p r hc hp ht => by
  unfold con63 at hc; split at hc
  ·cases hc; exact s63 _ hp
  ·cases hc) (fun _ _ => rfl) rfl rfl d hd
theorem v64 : ∀ d, 14 ≤ d → VC d 64 con64 := fun d hd => by
 intro us p r hc hp
 unfold con64 at hc; split at hc
 ·rename_i c s
  cases hc
  have := valid_of_sym (C := ctx cc1 (lstAnn s)) (G := GC) (B := 8) (m := 6) (g := 64) (c := fun us => match us with | [.dat 22 c', .str s'] => some (smallC c' ∧ s' = s, .prop (listedP c' c'.len s')) | _ => none) rfl rfl rfl vcc1 (fun us p r hc hp ht => by
   split at hc
   ·cases hc; obtain ⟨h1, rfl⟩ := hp; exact s64 _ _ h1
   ·cases hc) (fun _ _ => rfl) rfl rfl d hd
  exact this [.dat 22 c, .str s] _ _ rfl ⟨hp, rfl⟩
 ·cases hc
theorem v42 : ∀ d, 11 ≤ d → VC d 42 con42 := fun d hd =>
 valid_of_sym (C := ctx cc1 ccAnn) (G := GC) (B := 8) (m := 3) rfl rfl rfl vcc1 (fun us p r hc hp ht => by
  unfold con42 at hc; split at hc
  ·cases hc; exact s42 _ _ _ _ _ _ _ _ _ _ hp
  ·cases hc) (fun _ _ => rfl) rfl rfl d hd
theorem vcc2 : ∀ d, 14 ≤ d → ∀ g c, cc2 g = some c → VC d g c := fun d hd g c h => by
 unfold cc2 at h
 split at h
 ·cases h; exact v63 d (by omega)
 ·cases h; exact v64 d (by omega)
 ·cases h; exact v42 d (by omega)
 ·exact vcc1 d (by omega) _ c h
theorem v39 : ∀ d, 20 ≤ d → VC d 39 con39 := fun d hd =>
 valid_of_sym (C := ctx cc2 ccAnn) (G := GC) (B := 14) (m := 6) rfl rfl rfl vcc2 (fun us p r hc hp ht => by
  unfold con39 at hc; split at hc
  ·cases hc; exact s39 _ _ _ _ _ _ hp.1 hp.2
  ·cases hc) (fun _ _ => rfl) rfl rfl d hd
theorem v40 : ∀ d, 11 ≤ d → VC d 40 con40 := fun d hd =>
 valid_of_sym (C := ctx cc1 ccAnn) (G := GC) (B := 8) (m := 3) rfl rfl rfl vcc1 (fun us p r hc hp ht => by
  unfold con40 at hc; split at hc
  ·cases hc; exact s40 _ _ hp.1 hp.2
  ·cases hc) (fun _ _ => rfl) rfl rfl d hd
theorem v23 : ∀ d, 19 ≤ d → VC d 23 con23 := fun d hd =>
 valid_of_sym (C := ctx cc2 ccAnn) (G := GC) (B := 14) (m := 5) rfl rfl rfl vcc2 (fun us p r hc hp ht => by
  unfold con23 at hc; split at hc
  ·cases hc; exact s23 _ _ hp
  ·cases hc) (fun _ _ => rfl) rfl rfl d hd
theorem v20 : ∀ d, 7 ≤ d → VC d 20 con20 := fun d hd =>
 valid_of_sym (C := ctx (fun _ => none) ccAnn) (G := GC) (B := 2) (m := 5) rfl rfl rfl (fun d _ => vnone d) (fun us p r hc hp ht => by
  unfold con20 at hc; split at hc
  ·cases hc; exact s20 _ hp
  ·cases hc) (fun _ _ => rfl) rfl rfl d hd
theorem v7 : ∀ d, 10 ≤ d → VC d 7 con7 := fun d hd =>
 valid_of_sym (C := ctx (fun _ => none) fewAnn) (G := GC) (B := 2) (m := 8) rfl rfl rfl (fun d _ => vnone d) (fun us p r hc hp ht => by
  unfold con7 at hc; split at hc
  ·cases hc; exact sl7 _
  ·cases hc) (fun _ _ => rfl) rfl rfl d hd
theorem vcc3 : ∀ d, 20 ≤ d → ∀ g c, cc3 g = some c → VC d g c := fun d hd g c h => by
 unfold cc3 at h
 split at h
 ·cases h; exact v39 d (by omega)
 ·cases h; exact v40 d (by omega)
 ·cases h; exact v23 d (by omega)
 ·cases h; exact v20 d (by omega)
 ·cases h; exact v7 d (by omega)
 ·exact vcc2 d (by omega) _ c h
theorem v21 : ∀ d, 25 ≤ d → VC d 21 con21 := fun d hd =>
 valid_of_sym (C := ctx cc3 ccAnn) (G := GC) (B := 20) (m := 5) rfl rfl rfl vcc3 (fun us p r hc hp ht => by
  unfold con21 at hc; split at hc
  ·cases hc; exact s21 _ hp
  ·cases hc) (fun _ _ => rfl) rfl rfl d hd
theorem v22 : ∀ d, 25 ≤ d → VC d 22 con21 := fun d hd =>
 valid_of_sym (C := ctx cc3 ccAnn) (G := GC) (B := 20) (m := 5) rfl rfl rfl vcc3 (fun us p r hc hp ht => by
  unfold con21 at hc; split at hc
  ·cases hc; exact s22 _ hp
  ·cases hc) (fun _ _ => rfl) rfl rfl d hd
theorem vcc4 : ∀ d, 25 ≤ d → ∀ g c, cc4 g = some c → VC d g c := fun d hd g c h => by
 unfold cc4 at h
 split at h
 ·cases h; exact v21 d (by omega)
 ·cases h; exact v22 d (by omega)
 ·exact vcc3 d (by omega) _ c h
theorem v8 : ∀ d, 29 ≤ d → VC d 8 con8 := fun d hd =>
 valid_of_sym (C := ctx cc4 ccAnn) (G := GC) (B := 25) (m := 4) rfl rfl rfl vcc4 (fun us p r hc hp ht => by
  unfold con8 at hc; split at hc
  ·cases hc; exact sl8 _ hp
  ·cases hc) (fun _ _ => rfl) rfl rfl d hd
theorem vcc5 : ∀ d, 29 ≤ d → ∀ g c, cc5 g = some c → VC d g c := fun d hd g c h => by
 unfold cc5 at h
 split at h
 ·cases h; exact v8 d (by omega)
 ·exact vcc4 d (by omega) _ c h
theorem v3 : ∀ d, 33 ≤ d → VC d 3 con3 := fun d hd =>
 valid_of_sym (C := ctx cc5 ccAnn) (G := GC) (B := 29) (m := 4) rfl rfl rfl vcc5 (fun us p r hc hp ht => by
  unfold con3 at hc; split at hc
  ·cases hc; exact sl3 _
  ·cases hc) (fun _ _ => rfl) rfl rfl d hd
end Go.Ev

end

section
open Go.Proofs
namespace Go.Ev
set_option maxRecDepth 100000
noncomputable def strV (v : V) : V := match v with | .val (.string b) => .str b.data.toList | v => v
theorem strV_rel {P : Program} {σ : Sig} {ν : Nu} {v : V} {v' : Value} (h : VRel P σ ν v v') : VRel P σ ν (strV v) v' := by
 unfold strV
 split
 ·cases h with
  | val hf => exact .str
 ·exact h
theorem valid_ext0 {P : Program} {G : Msk} {run : Run} {g : FuncId} {c : Con} (h : Valid P G run g c) : Valid P G run g (extC0 c) := by
 intro us p r hc hp σ H vs hst hl
 refine h (us.map strV) p r hc hp σ H vs hst ⟨by simpa using hl.1, fun j v v' hj hj' => ?_⟩
 rw [List.getElem?_map] at hj
 cases ha : us[j]? with
 | none => rw [ha] at hj; cases hj
 | some u =>
  rw [ha] at hj
  simp only [Option.map_some, Option.some.injEq] at hj
  subst hj
  exact strV_rel (hl.2 j u v' ha hj')
theorem v58 : ∀ d, 5 ≤ d → VC d 58 con58 := fun d hd =>
 valid_of_sym (C := ctx (fun _ => none) cfAnn) (G := GC) (B := 2) (m := 3) rfl rfl rfl (fun d _ => vnone d) (fun us p r hc hp ht => by
  unfold con58 at hc; split at hc
  ·cases hc; exact s58 _ hp
  ·cases hc) (fun _ _ => rfl) rfl rfl d hd
theorem v59 : ∀ d, 5 ≤ d → VC d 59 con59 := fun d hd =>
 valid_of_sym (C := ctx (fun _ => none) cfAnn) (G := GC) (B := 3) (m := 2) rfl rfl rfl (fun d _ => vnone d) (fun us p r hc hp ht => by
  unfold con59 at hc; split at hc
  ·cases hc; exact s59 _ hp
  ·cases hc) (fun _ _ => rfl) rfl rfl d hd
theorem vF (d : Nat) (g : FuncId) : VC d g conF := by
 intro us p r hc hp σ H vs hst hl
 unfold conF at hc
 split at hc
 ·cases hc; exact hp.elim
 ·cases hc
theorem vcf0 (d : Nat) : ∀ g c, cf0 g = some c → VC d g c := fun g c h => by
 unfold cf0 at h
 split at h
 ·cases h; exact vF d _
 ·cases h
theorem v84 : ∀ d, 8 ≤ d → VC d 84 con59 := fun d hd =>
 valid_of_sym (C := ctx cf0 cfAnn) (G := GC) (B := 2) (m := 6) rfl rfl rfl (fun d _ => vcf0 d) (fun us p r hc hp ht => by
  unfold con59 at hc; split at hc
  ·cases hc; exact s84 _ hp
  ·cases hc) (fun _ _ => rfl) rfl rfl d hd
theorem vcf1 : ∀ d, 25 ≤ d → ∀ g c, cf1 g = some c → VC d g c := fun d hd g c h => by
 unfold cf1 at h
 split at h
 ·cases h; exact v58 d (by omega)
 ·cases h; exact v59 d (by omega)
 ·cases h; exact v84 d (by omega)
 ·exact vcc4 d (by omega) _ c h
theorem v56 : ∀ d, 29 ≤ d → VC d 56 con56 := fun d hd =>
 valid_of_sym (C := ctx cf1 cfAnn) (G := GC) (B := 25) (m := 4) rfl rfl rfl vcf1 (fun us p r hc hp ht => by
  unfold con56 at hc; split at hc
  ·cases hc; exact s56 _ _ _ _ _ hp
  ·cases hc) (fun _ _ => rfl) rfl rfl d hd
theorem v55 : ∀ d, 10 ≤ d → VC d 55 con55 := fun d hd =>
 valid_of_sym (C := ctx (fun _ => none) cfAnn) (G := GC) (B := 2) (m := 8) rfl rfl rfl (fun d _ => vnone d) (fun us p r hc hp ht => by
  unfold con55 at hc; split at hc
  ·cases hc; exact s55 _ _ hp
  ·cases hc) (fun _ _ => rfl) rfl rfl d hd
theorem v34 : ∀ d, 28 ≤ d → VC d 34 con34 := fun d hd =>
 valid_of_sym (C := ctx cc4 cfAnn) (G := GC) (B := 25) (m := 3) rfl rfl rfl vcc4 (fun us p r hc hp ht => by
  unfold con34 at hc; split at hc
  ·cases hc; exact s34 _ hp
  ·cases hc) (fun _ _ => rfl) rfl rfl d hd
theorem vcf2 : ∀ d, 29 ≤ d → ∀ g c, cf2 g = some c → VC d g c := fun d hd g c h => by
 unfold cf2 at h
 split at h
 ·cases h; exact v56 d (by omega)
 ·cases h; exact valid_ext0 (v55 d (by omega))
 ·cases h; exact v34 d (by omega)
 ·exact vcf1 d (by omega) _ c h
theorem v30 : ∀ d, 35 ≤ d → VC d 30 con30 := fun d hd =>
 valid_of_sym (C := ctxF cf2) (G := GC) (B := 29) (m := 6) rfl rfl rfl vcf2 (fun us p r hc hp ht => by
  unfold con30 at hc; split at hc
  ·cases hc; exact s30 _ hp
  ·cases hc) (fun _ _ => rfl) rfl rfl d hd
theorem v35 : ∀ d, 33 ≤ d → VC d 35 con35 := fun d hd =>
 valid_of_sym (C := ctxF cf2) (G := GC) (B := 29) (m := 4) rfl rfl rfl vcf2 (fun us p r hc hp ht => by
  unfold con35 at hc; split at hc
  ·cases hc; exact s35 _ hp
  ·cases hc) (fun _ _ => rfl) rfl rfl d hd
theorem vcf3 : ∀ d, 35 ≤ d → ∀ g c, cf3 g = some c → VC d g c := fun d hd g c h => by
 unfold cf3 at h
 split at h
 ·cases h; exact v30 d (by omega)
 ·cases h; exact v35 d (by omega)
 ·exact vcf2 d (by omega) _ c h
theorem v15 : ∀ d, 39 ≤ d → VC d 15 con15 := fun d hd =>
 valid_of_sym (C := ctxF cf3) (G := GC) (B := 35) (m := 4) rfl rfl rfl vcf3 (fun us p r hc hp ht => by
  unfold con15 at hc; split at hc
  ·cases hc; exact s15 _ hp
  ·cases hc) (fun _ _ => rfl) rfl rfl d hd
theorem vcf4 : ∀ d, 39 ≤ d → ∀ g c, cf4 g = some c → VC d g c := fun d hd g c h => by
 unfold cf4 at h
 split at h
 ·cases h; exact v15 d (by omega)
 ·exact vcf3 d (by omega) _ c h
theorem v6 : ∀ d, 43 ≤ d → VC d 6 con6 := fun d hd =>
 valid_of_sym (C := ctxF cf4) (G := GC) (B := 39) (m := 4) rfl rfl rfl vcf4 (fun us p r hc hp ht => by
  unfold con6 at hc; split at hc
  ·cases hc; exact sl6 _
  ·cases hc) (fun _ _ => rfl) rfl rfl d hd
end Go.Ev

end

section
open Go.Proofs Go.Proofs.YtcacemdhmfjliaaGreatDoor
namespace Go.Ev
open Go.ChangeShapes Go.WideShapes Go.ChangeAt Go.RowKit
theorem arr_ints {P : Program} {w : World} {n e : Nat} {k : IntKind} {t : TypeId} {fuel : Nat} {cs : List Value} {zs : List Int} {p : List MemPlace} {enc : TypeId × Value → Unit} {base : Nat} {sp : Nat → Bool} {held : Bool}
  (ht : P.underlying t = some (.array n e)) (he : P.underlying e = some (.int k)) (hc1 : P.cellsOf e = 1) (hct : P.cellsOf t = n)
  (h : DataW.trod enc P w base sp held fuel t cs = some (.agg (zs.map fun z => .lit (.int k z)), p)) : cs = zs.map (Value.int k) := by
 obtain ⟨xs, m, _, ex, hlen, hxl, hel⟩ := DataW.trod_array ht h
 have e3 : (zs.map fun z => (DataW.lit (.int k z) : DataW Unit)) = xs.map (·.1) := DataW.agg.inj (Prod.mk.inj ex).1
 have hzl : zs.length = n := by have := congrArg List.length e3; simp at this; omega
 rw [hct] at hlen
 refine List.ext_getElem? fun i => ?_
 by_cases hi : i < n
 ·have k0 := hel i hi
  rw [hc1, Nat.mul_one, List.getElem?_eq_getElem (by omega : i < xs.length)] at k0
  obtain ⟨z, e1, e2, _⟩ := DataW.trod_int he k0
  have h0 : ((cs.drop i).take 1)[0]? = some (.int k z) := by rw [e1]; rfl
  have h1 : cs[i]? = some (.int k z) := by simpa using h0
  have h2 : (zs.map fun z => (DataW.lit (.int k z) : DataW Unit))[i]? = (xs.map (·.1))[i]? := by rw [e3]
  rw [List.getElem?_map, List.getElem?_map, List.getElem?_eq_getElem (by omega : i < zs.length), List.getElem?_eq_getElem (by omega : i < xs.length), e2] at h2
  simp only [Option.map_some, Option.some.injEq, DataW.lit.injEq, Lit.int.injEq, true_and] at h2
  rw [h1, List.getElem?_map, List.getElem?_eq_getElem (by omega : i < zs.length), Option.map_some, h2]
 ·rw [List.getElem?_eq_none (by omega), List.getElem?_eq_none (by simp; omega)]
theorem bytes_eq {s : ByteArray} {l : List UInt8} (h : s.data.toList = l) : s = ⟨⟨l⟩⟩ := by subst h; rfl
theorem form_cells {P : Program} {w : World} {t ts ti tb : TypeId} {fuel : Nat} {c : List Value} {s : List UInt8} {a b : Int} {x y z : Bool} {p : List MemPlace} {enc : TypeId × Value → Unit} {base : Nat} {sp : Nat → Bool} {held : Bool} {fs : Array Field} {f0 f1 f2 f3 f4 f5 : Field}
  (ht : P.underlying t = some (.struct fs)) (hf : fs = #[f0, f1, f2, f3, f4, f5]) (ho : f0.offset = 0 ∧ f1.offset = 1 ∧ f2.offset = 2 ∧ f3.offset = 3 ∧ f4.offset = 4 ∧ f5.offset = 5)
  (hty : f0.type = ts ∧ f1.type = ti ∧ f2.type = ti ∧ f3.type = tb ∧ f4.type = tb ∧ f5.type = tb) (hs : P.underlying ts = some .string) (hi : P.underlying ti = some (.int .i64)) (hb : P.underlying tb = some .bool)
  (hc : P.cellsOf ts = 1 ∧ P.cellsOf ti = 1 ∧ P.cellsOf tb = 1 ∧ P.cellsOf t = 6)
  (h : DataW.trod enc P w base sp held fuel t c = some (.agg [.lit (.string s), .lit (.int .i64 a), .lit (.int .i64 b), .lit (.bool x), .lit (.bool y), .lit (.bool z)], p)) :
  c = [.string ⟨⟨s⟩⟩, .int .i64 a, .int .i64 b, .bool x, .bool y, .bool z] := by
 obtain ⟨xs, m, _, ex, hlen, hxl, hel⟩ := DataW.trod_struct ht h
 subst hf
 rw [hc.2.2.2] at hlen
 have hxl : xs.length = 6 := hxl
 match xs, hxl with
 | [x0, x1, x2, x3, x4, x5], _ =>
  have e3 := DataW.agg.inj (Prod.mk.inj ex).1
  simp only [List.map_cons, List.map_nil, List.cons.injEq, and_true] at e3
  obtain ⟨g0, g1, g2, g3, g4, g5⟩ := e3
  match c, hlen with
  | [c0, c1, c2, c3, c4, c5], _ =>
   have k0 := hel 0 f0 rfl
   have k1 := hel 1 f1 rfl
   have k2 := hel 2 f2 rfl
   have k3 := hel 3 f3 rfl
   have k4 := hel 4 f4 rfl
   have k5 := hel 5 f5 rfl
   rw [ho.1, hty.1, hc.1] at k0
   rw [ho.2.1, hty.2.1, hc.2.1] at k1
   rw [ho.2.2.1, hty.2.2.1, hc.2.1] at k2
   rw [ho.2.2.2.1, hty.2.2.2.1, hc.2.2.1] at k3
   rw [ho.2.2.2.2.1, hty.2.2.2.2.1, hc.2.2.1] at k4
   rw [ho.2.2.2.2.2, hty.2.2.2.2.2, hc.2.2.1] at k5
   obtain ⟨v0, d0, q0, _⟩ := DataW.trod_string hs k0
   obtain ⟨v1, d1, q1, _⟩ := DataW.trod_int hi k1
   obtain ⟨v2, d2, q2, _⟩ := DataW.trod_int hi k2
   obtain ⟨v3, d3, q3⟩ := DataW.trod_bool hb k3
   obtain ⟨v4, d4, q4⟩ := DataW.trod_bool hb k4
   obtain ⟨v5, d5, q5⟩ := DataW.trod_bool hb k5
   have d0 : c0 = .string v0 := (List.cons.inj d0).1
   have d1 : c1 = .int .i64 v1 := (List.cons.inj d1).1
   have d2 : c2 = .int .i64 v2 := (List.cons.inj d2).1
   have d3 : c3 = .bool v3 := (List.cons.inj d3).1
   have d4 : c4 = .bool v4 := (List.cons.inj d4).1
   have d5 : c5 = .bool v5 := (List.cons.inj d5).1
   subst q0 q1 q2 q3 q4 q5
   have r0 := Lit.string.inj (DataW.lit.inj g0)
   have r1 := (Lit.int.inj (DataW.lit.inj g1)).2
   have r2 := (Lit.int.inj (DataW.lit.inj g2)).2
   have r3 := Lit.bool.inj (DataW.lit.inj g3)
   have r4 := Lit.bool.inj (DataW.lit.inj g4)
   have r5 := Lit.bool.inj (DataW.lit.inj g5)
   subst r1 r2 r3 r4 r5
   rw [d0, d1, d2, d3, d4, d5, bytes_eq r0.symm]
theorem chunk_eq {α : Type} {k : Nat} : ∀ (n : Nat) {a b : List α}, a.length = n * k → b.length = n * k → (∀ i, i < n → (a.drop (i * k)).take k = (b.drop (i * k)).take k) → a = b
 | 0, a, b, ha, hb, _ => by rw [List.eq_nil_of_length_eq_zero (by omega : a.length = 0), List.eq_nil_of_length_eq_zero (by omega : b.length = 0)]
 | n + 1, a, b, ha, hb, h => by
  have h0 := h 0 (by omega)
  rw [Nat.zero_mul, List.drop_zero, List.drop_zero] at h0
  have ha' : a.length = n * k + k := by rw [ha, Nat.succ_mul]
  have hb' : b.length = n * k + k := by rw [hb, Nat.succ_mul]
  have h1 : a.drop k = b.drop k := chunk_eq (k := k) n (by rw [List.length_drop]; omega) (by rw [List.length_drop]; omega) fun i hi => by
   have := h (i + 1) (by omega)
   rw [List.drop_drop, List.drop_drop]
   rw [Nat.succ_mul, Nat.add_comm] at this
   exact this
  rw [← List.take_append_drop k a, ← List.take_append_drop k b, h0, h1]
def pow10z : List Int := [1, 10, 100, 1000, 10000, 100000, 1000000, 10000000, 100000000, 1000000000, 10000000000, 100000000000, 1000000000000, 10000000000000, 100000000000000, 1000000000000000, 10000000000000000, 100000000000000000, 1000000000000000000, 10000000000000000000]
abbrev laidC : List (String × DataW Unit) := Rows.courtChecksRow.laid
theorem pow_laid {W : World} (h : laidMetH Tryz.prog laidC W) : ∃ cs, W.var? Tryz.prog "internal/strconv.uint64pow10" = some cs ∧ cs.toList = pow10s := by
 rw [MakeChecks.laidMetH_plain _ _ _ (by kernel_rfl)] at h
 obtain ⟨ps, hl, _, _⟩ := h
 obtain ⟨_, _, _, _, _, _, _, _, _, _, hl, _⟩ := hl
 obtain ⟨_, _, _, _, _, _, _, _, _, _, hl, _⟩ := hl
 obtain ⟨g, t, cs, fuel, p, q, hg, ht, hv, hd, _, _⟩ := hl
 obtain rfl := Option.some.inj ((show Tryz.prog.globalNamed "internal/strconv.uint64pow10" = some 4 by kernel_rfl).symm.trans hg)
 obtain rfl := Option.some.inj ((show (Tryz.prog.globals[4]?).map (·.type) = some 189 by kernel_rfl).symm.trans ht)
 refine ⟨cs, hv, ?_⟩
 have e : (Rows.laid_internal_strconv_uint64pow10 : DataW Unit) = .agg (pow10z.map fun z => .lit (.int .u64 z)) := by kernel_rfl
 rw [e] at hd
 exact arr_ints (zs := pow10z) (n := 20) (e := 175) Tryz.underlying189 Tryz.underlying175 (by kernel_rfl) (by kernel_rfl) hd
theorem forms_laid {W : World} (h : laidMetH Tryz.prog laidC W) : ∃ cs, W.var? Tryz.prog "trestle/court.forms" = some cs ∧ cs.toList = formCs := by
 rw [MakeChecks.laidMetH_plain _ _ _ (by kernel_rfl)] at h
 obtain ⟨ps, hl, _, _⟩ := h
 obtain ⟨_, _, _, _, _, _, _, _, _, _, hl, _⟩ := hl
 obtain ⟨_, _, _, _, _, _, _, _, _, _, hl, _⟩ := hl
 obtain ⟨_, _, _, _, _, _, _, _, _, _, hl, _⟩ := hl
 obtain ⟨_, _, _, _, _, _, _, _, _, _, hl, _⟩ := hl
 obtain ⟨_, _, _, _, _, _, _, _, _, _, hl, _⟩ := hl
 obtain ⟨_, _, _, _, _, _, _, _, _, _, hl, _⟩ := hl
 obtain ⟨g, t, cs, fuel, p, q, hg, ht, hv, hd, _, _⟩ := hl
 obtain rfl := Option.some.inj ((show Tryz.prog.globalNamed "trestle/court.forms" = some 0 by kernel_rfl).symm.trans hg)
 obtain rfl := Option.some.inj ((show (Tryz.prog.globals[0]?).map (·.type) = some 114 by kernel_rfl).symm.trans ht)
 refine ⟨cs, hv, ?_⟩
 obtain ⟨xs, m, _, ex, hlen, hxl, hel⟩ := DataW.trod_array Tryz.underlying114 hd
 have hc6 : Tryz.prog.cellsOf 113 = 6 := by kernel_rfl
 rw [show Tryz.prog.cellsOf 114 = 66 by kernel_rfl] at hlen
 rw [hc6] at hel
 match xs, hxl with
 | [x0, x1, x2, x3, x4, x5, x6, x7, x8, x9, x10], _ =>
  have e3 := DataW.agg.inj (Prod.mk.inj ex).1
  simp only [List.map_cons, List.map_nil, List.cons.injEq, and_true] at e3
  obtain ⟨g0, g1, g2, g3, g4, g5, g6, g7, g8, g9, g10⟩ := e3
  have one : ∀ {c : List Value} {x : DataW Unit × List MemPlace} {s : List UInt8} {a b : Int} {u v z : Bool}, DataW.trod (fun _ => ()) Tryz.prog W 0 (fun _ => true) false m 113 c = some x → DataW.agg [.lit (.string s), .lit (.int .i64 a), .lit (.int .i64 b), .lit (.bool u), .lit (.bool v), .lit (.bool z)] = x.1 → c = [.string ⟨⟨s⟩⟩, .int .i64 a, .int .i64 b, .bool u, .bool v, .bool z] := fun {c x s a b u v z} h1 h2 => by
   obtain ⟨x1, x2⟩ := x
   cases h2
   exact form_cells Tryz.underlying113 rfl ⟨rfl, rfl, rfl, rfl, rfl, rfl⟩ ⟨rfl, rfl, rfl, rfl, rfl, rfl⟩ Tryz.underlying9 Tryz.underlying3 Tryz.underlying4 ⟨by kernel_rfl, by kernel_rfl, by kernel_rfl, hc6⟩ h1
  refine chunk_eq (k := 6) 11 hlen (by rfl) fun i hi => ?_
  match i, hi with
  | 0, h => exact one (hel 0 h) g0
  | 1, h => exact one (hel 1 h) g1
  | 2, h => exact one (hel 2 h) g2
  | 3, h => exact one (hel 3 h) g3
  | 4, h => exact one (hel 4 h) g4
  | 5, h => exact one (hel 5 h) g5
  | 6, h => exact one (hel 6 h) g6
  | 7, h => exact one (hel 7 h) g7
  | 8, h => exact one (hel 8 h) g8
  | 9, h => exact one (hel 9 h) g9
  | 10, h => exact one (hel 10 h) g10
theorem var_row {W : World} (hsh : W.ShapedOpen Tryz.prog) {g e : Nat} {n : String} {cs : Array Value} (hg : Tryz.prog.globalNamed n = some g) (hlt : g < Tryz.prog.globals.size)
  (ht : (((begin Tryz.prog (fun _ _ => 0) default).world.heap[g]?).bind Obj.row?).map (·.2) = some e) (hv : W.var? Tryz.prog n = some cs) : ∃ arr fz, W.heap[g]? = some (.cells arr e fz) ∧ arr.toList = cs.toList := by
 cases hr : ((begin Tryz.prog (fun _ _ => 0) default).world.heap[g]?).bind Obj.row? with
 | none => rw [hr] at ht; cases ht
 | some y =>
  obtain ⟨zero, t⟩ := y
  rw [hr] at ht
  simp only [Option.map_some, Option.some.injEq] at ht
  subst ht
  obtain ⟨cs', h1, _, _⟩ := hsh.1 g zero _ hlt hr
  refine ⟨cs', _, h1, ?_⟩
  have : W.var? Tryz.prog n = some cs' := by
   unfold World.var?
   rw [hg]
   simp only [Option.bind_some, h1]
  rw [hv] at this
  rw [Option.some.inj this]
theorem laidG_of {W : World} (hsh : W.ShapedOpen Tryz.prog) (h : laidMetH Tryz.prog laidC W) : LaidG W := fun x hx => by
 rcases List.mem_cons.1 hx with hx | hx
 ·subst hx
  refine ⟨by show 0 < 9; omega, by kernel_rfl, ?_⟩
  obtain ⟨cs, hv, hc⟩ := forms_laid h
  obtain ⟨arr, fz, h1, h2⟩ := var_row hsh (e := 114) (show Tryz.prog.globalNamed "trestle/court.forms" = some 0 by kernel_rfl) (Nat.le_of_ble_eq_true (by kernel_rfl)) (by kernel_rfl) hv
  exact ⟨arr, fz, h1, h2.trans hc⟩
 ·have hx := List.mem_singleton.1 hx
  subst hx
  refine ⟨by show 4 < 9; omega, by kernel_rfl, ?_⟩
  obtain ⟨cs, hv, hc⟩ := pow_laid h
  obtain ⟨arr, fz, h1, h2⟩ := var_row hsh (e := 189) (show Tryz.prog.globalNamed "internal/strconv.uint64pow10" = some 4 by kernel_rfl) (Nat.le_of_ble_eq_true (by kernel_rfl)) (by kernel_rfl) hv
  exact ⟨arr, fz, h1, h2.trans hc⟩
end Go.Ev

end
