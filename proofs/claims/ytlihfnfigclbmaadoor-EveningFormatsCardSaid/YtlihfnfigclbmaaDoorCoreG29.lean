/-
  Part of the engine that the claim is proved with: it states nothing of the document by itself.
-/
import Derived.Test.YtlihfnfigclbmaaDoorCoreG23
import Derived.Test.YtlihfnfigclbmaaDoorCoreAwake
import Derived.Test.YtlihfnfigclbmaaDoorCoreG26
import Derived.Test.YtlihfnfigclbmaaDoorCoreKit
import Derived.Test.YtlihfnfigclbmaaDoorCoreG27
import Derived.Test.YtlihfnfigclbmaaDoorRows
import Derived.Test.YtlihfnfigclbmaaDoorProg
import Derived.Test.YtlihfnfigclbmaaDoorCoreEv
import Derived.OpenShut
import Derived.LaidSub
import Derived.MakeChecks

section
open Go.Proofs
namespace Go.Ev
set_option maxRecDepth 100000
noncomputable def GCb : Msk := { bits := GB, fast := false, ora := fun g => cond (Nat.beq g 9) (some (.bool true)) none }
abbrev VB (d : Nat) (g : FuncId) (c : Con) : Prop := Valid Tryd.prog GCb (ev Tryd.prog GCb d) g c
theorem vb0 (d : Nat) : ∀ g c, cc0 g = some c → VB d g c := fun _ _ h => by cases h
theorem vb42 : ∀ d, 5 ≤ d → VB d 42 con42 := fun d hd =>
 valid_of_sym (C := ctx cc0 ebAnn) (G := GCb) (B := 2) (m := 3) rfl rfl rfl (fun d _ => vb0 d) (fun us p r hc hp ht => by
  unfold con42 at hc; split at hc
  ·cases hc; exact s42 _ _ hp.1.1 hp.1.2 hp.2
  ·cases hc) (fun _ _ => rfl) rfl rfl d hd
theorem vb39 : ∀ d, 5 ≤ d → VB d 39 con39 := fun d hd =>
 valid_of_sym (C := ctx cc0 ebAnn) (G := GCb) (B := 2) (m := 3) rfl rfl rfl (fun d _ => vb0 d) (fun us p r hc hp ht => by
  unfold con39 at hc; split at hc
  ·cases hc; exact s39 _ _ hp
  ·cases hc) (fun _ _ => rfl) rfl rfl d hd
end Go.Ev

end

section
open Go.Proofs
namespace Go.Ev
set_option maxRecDepth 100000
theorem vk67 : ∀ d, 5 ≤ d → VB d 67 con67 := fun d hd =>
 valid_of_sym (C := ctx cc0 ekAnn) (G := GCb) (B := 2) (m := 3) rfl rfl rfl (fun d _ => vb0 d) (fun us p r hc hp ht => by
  unfold con67 at hc; split at hc
  ·cases hc; exact s67 _ _ hp
  ·cases hc) (fun _ _ => rfl) rfl rfl d hd
theorem vck1 : ∀ d, 5 ≤ d → ∀ g c, ck1 g = some c → VB d g c := fun d hd g c e => by
 unfold ck1 at e
 split at e
 ·cases e; exact vk67 d hd
 ·cases e
theorem vk47 : ∀ d, 8 ≤ d → VB d 47 con47 := fun d hd =>
 valid_of_sym (C := ctx ck1 ekAnn) (G := GCb) (B := 5) (m := 3) rfl rfl rfl vck1 (fun us p r hc hp ht => by
  unfold con47 at hc; split at hc
  ·cases hc; exact s47 _ _ hp
  ·cases hc) (fun _ _ => rfl) rfl rfl d hd
theorem vck2 : ∀ d, 8 ≤ d → ∀ g c, ck2 g = some c → VB d g c := fun d hd g c e => by
 unfold ck2 at e
 split at e
 ·cases e; exact vk47 d hd
 ·cases e
theorem vk24 : ∀ d, 13 ≤ d → VB d 24 con24 := fun d hd =>
 valid_of_sym (C := ctx ck2 ekAnn) (G := GCb) (B := 8) (m := 5) rfl rfl rfl vck2 (fun us p r hc hp ht => by
  unfold con24 at hc; split at hc
  ·cases hc; exact s24 _ _ hp
  ·cases hc) (fun _ _ => rfl) rfl rfl d hd
theorem vk20 : ∀ d, 5 ≤ d → VB d 20 con20 := fun d hd =>
 valid_of_sym (C := ctx cc0 ekAnn) (G := GCb) (B := 2) (m := 3) rfl rfl rfl (fun d _ => vb0 d) (fun us p r hc hp ht => by
  unfold con20 at hc; split at hc
  ·cases hc; exact s20 _ _ hp.1.1 hp.1.2 hp.2
  ·cases hc) (fun _ _ => rfl) rfl rfl d hd
theorem vk21 : ∀ d, 6 ≤ d → VB d 21 con21 := fun d hd =>
 valid_of_sym (C := ctx cc0 ekAnn) (G := GCb) (B := 2) (m := 4) rfl rfl rfl (fun d _ => vb0 d) (fun us p r hc hp ht => by
  unfold con21 at hc; split at hc
  ·cases hc; exact s21 _ hp
  ·cases hc) (fun _ _ => rfl) rfl rfl d hd
theorem vk65 : ∀ d, 6 ≤ d → VB d 65 con65 := fun d hd =>
 valid_of_sym (C := ctxj cc0 ekAnn ekJoin) (G := GCb) (B := 2) (m := 4) rfl rfl rfl (fun d _ => vb0 d) (fun us p r hc hp ht => by
  unfold con65 at hc; split at hc
  ·cases hc; exact s65 _ hp
  ·cases hc) (fun _ _ => rfl) rfl rfl d hd
theorem vk66 : ∀ d, 5 ≤ d → VB d 66 con66 := fun d hd =>
 valid_of_sym (C := ctx cc0 ekAnn) (G := GCb) (B := 2) (m := 3) rfl rfl rfl (fun d _ => vb0 d) (fun us p r hc hp ht => by
  unfold con66 at hc; split at hc
  ·cases hc; exact s66 _ _ hp
  ·cases hc) (fun _ _ => rfl) rfl rfl d hd
open Classical in
theorem vk64 : ∀ d, 7 ≤ d → VB d 64 con64 := fun d hd us p r hc hp => by
 have hc0 := hc
 unfold con64 at hc; split at hc
 ·rename_i n b
  exact valid_of_sym (C := ctx cc0 (gAnn n)) (G := GCb) (B := 2) (m := 5) (g := 64) (c := fun us => if us = [.int .i64 n, .dat 24 b] then con64 us else none) rfl rfl rfl (fun d _ => vb0 d) (fun us p r hc hp ht => by
   split at hc
   ·rename_i e; subst e
    cases hc; exact s64 _ _ hp.1.1 hp.1.2 hp.2
   ·cases hc) (fun _ _ => rfl) rfl rfl d hd _ p r (by show (if _ then _ else _) = _; rw [if_pos rfl]; exact hc0) hp
 ·cases hc
theorem vck3 : ∀ d, 7 ≤ d → ∀ g c, ck3 g = some c → VB d g c := fun d hd g c e => by
 unfold ck3 at e
 split at e
 ·cases e; exact vk64 d hd
 ·cases e; exact vk65 d (by omega)
 ·cases e; exact vk66 d (by omega)
 ·cases e
theorem vk43 : ∀ d, 12 ≤ d → VB d 43 con43 := fun d hd =>
 valid_of_sym (C := ctx ck3 ekAnn) (G := GCb) (B := 7) (m := 5) rfl rfl rfl vck3 (fun us p r hc hp ht => by
  unfold con43 at hc; split at hc
  ·cases hc; exact s43 _ _ _ hp.1.1 hp.1.2 hp.2.1 hp.2.2
  ·cases hc) (fun _ _ => rfl) rfl rfl d hd
theorem vk44 : ∀ d, 10 ≤ d → VB d 44 con43 := fun d hd =>
 valid_of_sym (C := ctx ck3 ekAnn) (G := GCb) (B := 7) (m := 3) rfl rfl rfl vck3 (fun us p r hc hp ht => by
  unfold con43 at hc; split at hc
  ·cases hc; exact s44 _ _ _ hp.1.1 hp.1.2 hp.2.1 hp.2.2
  ·cases hc) (fun _ _ => rfl) rfl rfl d hd
theorem vck4 : ∀ d, 12 ≤ d → ∀ g c, ck4 g = some c → VB d g c := fun d hd g c e => by
 unfold ck4 at e
 split at e
 ·cases e; exact vb42 d (by omega)
 ·cases e; exact vb39 d (by omega)
 ·cases e; exact vk43 d hd
 ·cases e; exact vk44 d (by omega)
 ·cases e
theorem vk22 : ∀ d, 16 ≤ d → VB d 22 con22 := fun d hd =>
 valid_of_sym (C := ctx ck4 ekAnn) (G := GCb) (B := 12) (m := 4) rfl rfl rfl vck4 (fun us p r hc hp ht => by
  unfold con22 at hc; split at hc
  ·cases hc; exact s22 _ _ _ hp.1 hp.2
  ·cases hc) (fun _ _ => rfl) rfl rfl d hd
theorem vk23 : ∀ d, 16 ≤ d → VB d 23 con22 := fun d hd =>
 valid_of_sym (C := ctx ck4 ekAnn) (G := GCb) (B := 12) (m := 4) rfl rfl rfl vck4 (fun us p r hc hp ht => by
  unfold con22 at hc; split at hc
  ·cases hc; exact s23 _ _ _ hp.1 hp.2
  ·cases hc) (fun _ _ => rfl) rfl rfl d hd
theorem valid_extP {P : Program} {G : Msk} {run : Run} {g : FuncId} {c : Con} (h : Valid P G run g c) : Valid P G run g (extP c) := by
 intro us p r hc hp σ H vs hst hl
 refine h (us.map normV0) p r hc hp σ H vs hst ⟨by simpa using hl.1, fun j v v' hj hj' => ?_⟩
 rw [List.getElem?_map] at hj
 cases ha : us[j]? with
 | none => rw [ha] at hj; cases hj
 | some u =>
  rw [ha] at hj
  simp only [Option.map_some, Option.some.injEq] at hj
  subst hj
  exact normV0_rel (hl.2 j u v' ha hj')
section
variable {P : Program}
theorem ok_rows {f : Nat} {t e : TypeId} {d : D} (hu : P.underlying t = some (.slice e)) (h : okD P (f + 1) t d) : d.len * P.bytesOf e ≤ reachBytes ∧ ∀ i, i < d.len → okD P f e (el d i) := by
 unfold okD at h; rw [hu] at h
 rcases h with rfl | ⟨l, rfl, h0, h⟩
 ·exact ⟨by simp [D.len, D.asList], fun i hi => by simp [D.len, D.asList] at hi⟩
 ·refine ⟨h0.2, fun i hi => h i _ ?_⟩
  have hi : i < l.length := hi
  show l[i]? = some (nthD l i)
  unfold nthD
  rw [List.getElem?_eq_getElem hi]; rfl
end
theorem ok33 {d : D} (h : okD Tryd.prog 20 33 d) : lensP d := ⟨fun i j hi hj => by
 have h1 := (ok_rows Tryd.underlying33 h).2 i hi
 have h2 := (ok_rows Tryd.underlying51 h1).2 j hj
 have h3 := (ok_rows Tryd.underlying24 h2).1
 rw [show Tryd.prog.bytesOf 3 = 8 by kernel_rfl] at h3
 have : reachBytes < 2 ^ 47 := by decide
 omega⟩
end Go.Ev

end

section
open Go.Proofs
namespace Go.Ev
set_option maxRecDepth 100000
noncomputable def strV (v : V) : V := match v with | .val (.string b) => .str b.data.toList | v => v
theorem strV_rel {P : Program} {σ : Sig} {ν : Nu} {v : V} {v' : Value} (h : VRel P σ ν v v') : VRel P σ ν (strV v) v' := by
 unfold strV
 split
 ·cases h with
  | val hf => exact .str
 ·exact h
theorem valid_ext0 {P : Program} {G : Msk} {run : Run} {g : FuncId} {c : Con} (h : Valid P G run g c) : Valid P G run g (extC0 c) := by
 intro us p r hc hp σ H vs hst hl
 refine h (us.map strV) p r hc hp σ H vs hst ⟨by simpa using hl.1, fun j v v' hj hj' => ?_⟩
 rw [List.getElem?_map] at hj
 cases ha : us[j]? with
 | none => rw [ha] at hj; cases hj
 | some u =>
  rw [ha] at hj
  simp only [Option.map_some, Option.some.injEq] at hj
  subst hj
  exact strV_rel (hl.2 j u v' ha hj')
theorem nil_dat {σ : Sig} {ν : Nu} {v' : Value} (h : VRel Tryd.prog σ ν (.val (.slice none 0 0)) v') : VRel Tryd.prog σ ν (.dat 24 .nil) v' := by
 cases h with
 | val hf => exact .dat Tryd.underlying24 (.nil Tryd.underlying24 (sizeIs_ok (by kernel_rfl)))
theorem valid_nil {d : Nat} {g : FuncId} (h : VB d g con22) : VB d g con22n := by
 intro us p r hc hp σ H vs hst hl
 unfold con22n at hc
 split at hc
 ·rename_i n s
  refine h _ p r hc hp σ H vs hst ⟨hl.1, fun j v v' hj hj' => ?_⟩
  match j, hj with
  | 0, hj => exact hl.2 0 v v' hj hj'
  | 1, hj =>
   simp only [List.getElem?_cons_succ, List.getElem?_cons_zero, Option.some.injEq] at hj
   subst hj
   exact nil_dat (hl.2 1 _ v' rfl hj')
  | 2, hj => exact hl.2 2 v v' hj hj'
  | j + 3, hj => simp at hj
 ·exact h us p r hc hp σ H vs hst hl
theorem vF (d : Nat) (g : FuncId) : VB d g conF := by
 intro us p r hc hp σ H vs hst hl
 unfold conF at hc
 split at hc
 ·cases hc; exact hp.elim
 ·cases hc
theorem vef0 : ∀ d, 0 ≤ d → ∀ g c, ef0 g = some c → VB d g c := fun d hd g c e => by
 unfold ef0 at e
 split at e
 ·cases e; exact vF d _
 ·cases e
theorem vk48 : ∀ d, 5 ≤ d → VB d 48 con48 := fun d hd =>
 valid_of_sym (C := ctx cc0 efAnn) (G := GCb) (B := 3) (m := 2) rfl rfl rfl (fun d _ => vb0 d) (fun us p r hc hp ht => by
  unfold con48 at hc; split at hc
  ·cases hc; exact s48 _ hp
  ·cases hc) (fun _ _ => rfl) rfl rfl d hd
theorem vk69 : ∀ d, 8 ≤ d → VB d 69 con48 := fun d hd =>
 valid_of_sym (C := ctx ef0 efAnn) (G := GCb) (B := 2) (m := 6) rfl rfl rfl (fun d _ => vef0 d (Nat.zero_le _)) (fun us p r hc hp ht => by
  unfold con48 at hc; split at hc
  ·cases hc; exact s69 _ hp
  ·cases hc) (fun _ _ => rfl) rfl rfl d hd
theorem vk70 : ∀ d, 10 ≤ d → VB d 70 con70 := fun d hd =>
 valid_of_sym (C := ctx cc0 efAnn) (G := GCb) (B := 2) (m := 8) rfl rfl rfl (fun d _ => vb0 d) (fun us p r hc hp ht => by
  unfold con70 at hc; split at hc
  ·cases hc; exact s70 _ _ hp
  ·cases hc) (fun _ _ => rfl) rfl rfl d hd
theorem vef1 : ∀ d, 16 ≤ d → ∀ g c, ef1 g = some c → VB d g c := fun d hd g c e => by
 unfold ef1 at e
 split at e
 ·cases e; exact vk69 d (by omega)
 ·cases e; exact vk48 d (by omega)
 ·cases e; exact valid_ext0 (vk70 d (by omega))
 ·cases e; exact valid_nil (vk22 d hd)
 ·cases e; exact valid_nil (vk23 d hd)
 ·cases e
theorem vk25 : ∀ d, 19 ≤ d → VB d 25 con25 := fun d hd =>
 valid_of_sym (C := ctx ef1 efAnn) (G := GCb) (B := 16) (m := 3) rfl rfl rfl vef1 (fun us p r hc hp ht => by
  unfold con25 at hc; split at hc
  ·cases hc; exact s25 _ _ hp
  ·cases hc) (fun _ _ => rfl) rfl rfl d hd
theorem vk49 : ∀ d, 19 ≤ d → VB d 49 con25 := fun d hd =>
 valid_of_sym (C := ctx ef1 efAnn) (G := GCb) (B := 16) (m := 3) rfl rfl rfl vef1 (fun us p r hc hp ht => by
  unfold con25 at hc; split at hc
  ·cases hc; exact s49 _ _ hp
  ·cases hc) (fun _ _ => rfl) rfl rfl d hd
theorem vk51 : ∀ d, 20 ≤ d → VB d 51 con51 := fun d hd =>
 valid_of_sym (C := ctx ef1 efAnn) (G := GCb) (B := 16) (m := 4) rfl rfl rfl vef1 (fun us p r hc hp ht => by
  unfold con51 at hc; split at hc
  ·cases hc; exact s51 _ hp
  ·cases hc) (fun _ _ => rfl) rfl rfl d hd
theorem vk26 : ∀ d, 20 ≤ d → VB d 26 con26 := fun d hd =>
 valid_of_sym (C := ctxj ef1 efAnn efJoin) (G := GCb) (B := 16) (m := 4) rfl rfl rfl vef1 (fun us p r hc hp ht => by
  unfold con26 at hc; split at hc
  ·cases hc; exact s26 _ hp
  ·cases hc) (fun _ _ => rfl) rfl rfl d hd
theorem vef2 : ∀ d, 20 ≤ d → ∀ g c, ef2 g = some c → VB d g c := fun d hd g c e => by
 unfold ef2 at e
 split at e
 ·cases e; exact vk49 d (by omega)
 ·cases e; exact vk51 d hd
 ·exact vef1 d (by omega) _ c e
theorem vk27 : ∀ d, 26 ≤ d → VB d 27 con27 := fun d hd =>
 valid_of_sym (C := ctx ef2 efAnn) (G := GCb) (B := 20) (m := 6) rfl rfl rfl vef2 (fun us p r hc hp ht => by
  unfold con27 at hc; split at hc
  ·cases hc; exact s27 _ _ hp
  ·cases hc) (fun _ _ => rfl) rfl rfl d hd
theorem vef3 : ∀ d, 26 ≤ d → ∀ g c, ef3 g = some c → VB d g c := fun d hd g c e => by
 unfold ef3 at e
 split at e
 ·cases e; exact vk25 d (by omega)
 ·cases e; exact vk26 d (by omega)
 ·cases e; exact vk27 d hd
 ·cases e; exact valid_extP (vk20 d (by omega))
 ·cases e; exact vk21 d (by omega)
 ·cases e; exact vk24 d (by omega)
 ·cases e
noncomputable def con7 : Con := fun | [.int .i64 _, .dat 33 s] => some (lensP s, .prop True) | _ => none
theorem v7 : ∀ d, 29 ≤ d → VB d 7 con7 := fun d hd =>
 valid_of_sym (C := ctx ef3 efAnn) (G := GCb) (B := 26) (m := 3) rfl rfl rfl vef3 (fun us p r hc hp ht => by
  unfold con7 at hc; split at hc
  ·cases hc; exact sl7 _ _ hp
  ·cases hc) (fun _ _ => rfl) rfl rfl d hd
end Go.Ev

end

section
open Go.Proofs Go.Proofs.YtlihfnfigclbmaaDoor
namespace Go.Ev
open Go.ChangeShapes Go.WideShapes Go.ChangeAt Go.RowKit
theorem arr_ints {P : Program} {w : World} {n e : Nat} {k : IntKind} {t : TypeId} {fuel : Nat} {cs : List Value} {zs : List Int} {p : List MemPlace} {enc : TypeId × Value → Unit} {base : Nat} {sp : Nat → Bool} {held : Bool}
  (ht : P.underlying t = some (.array n e)) (he : P.underlying e = some (.int k)) (hc1 : P.cellsOf e = 1) (hct : P.cellsOf t = n)
  (h : DataW.trod enc P w base sp held fuel t cs = some (.agg (zs.map fun z => .lit (.int k z)), p)) : cs = zs.map (Value.int k) := by
 obtain ⟨xs, m, _, ex, hlen, hxl, hel⟩ := DataW.trod_array ht h
 have e3 : (zs.map fun z => (DataW.lit (.int k z) : DataW Unit)) = xs.map (·.1) := DataW.agg.inj (Prod.mk.inj ex).1
 have hzl : zs.length = n := by have := congrArg List.length e3; simp at this; omega
 rw [hct] at hlen
 refine List.ext_getElem? fun i => ?_
 by_cases hi : i < n
 ·have k0 := hel i hi
  rw [hc1, Nat.mul_one, List.getElem?_eq_getElem (by omega : i < xs.length)] at k0
  obtain ⟨z, e1, e2, _⟩ := DataW.trod_int he k0
  have h0 : ((cs.drop i).take 1)[0]? = some (.int k z) := by rw [e1]; rfl
  have h1 : cs[i]? = some (.int k z) := by simpa using h0
  have h2 : (zs.map fun z => (DataW.lit (.int k z) : DataW Unit))[i]? = (xs.map (·.1))[i]? := by rw [e3]
  rw [List.getElem?_map, List.getElem?_map, List.getElem?_eq_getElem (by omega : i < zs.length), List.getElem?_eq_getElem (by omega : i < xs.length), e2] at h2
  simp only [Option.map_some, Option.some.injEq, DataW.lit.injEq, Lit.int.injEq, true_and] at h2
  rw [h1, List.getElem?_map, List.getElem?_eq_getElem (by omega : i < zs.length), Option.map_some, h2]
 ·rw [List.getElem?_eq_none (by omega), List.getElem?_eq_none (by simp; omega)]
def pow10z : List Int := [1, 10, 100, 1000, 10000, 100000, 1000000, 10000000, 100000000, 1000000000, 10000000000, 100000000000, 1000000000000, 10000000000000, 100000000000000, 1000000000000000, 10000000000000000, 100000000000000000, 1000000000000000000, 10000000000000000000]
theorem pow_laid {W : World} (h : laidMetH Tryd.prog Rows.eveningFormatsRow.laid W) : ∃ cs, W.var? Tryd.prog "internal/strconv.uint64pow10" = some cs ∧ cs.toList = pow10s := by
 rw [MakeChecks.laidMetH_plain _ _ _ (by kernel_rfl)] at h
 obtain ⟨ps, hl, _, _⟩ := h
 obtain ⟨_, _, _, _, _, _, _, _, _, _, hl, _⟩ := hl
 obtain ⟨_, _, _, _, _, _, _, _, _, _, hl, _⟩ := hl
 obtain ⟨g, t, cs, fuel, p, q, hg, ht, hv, hd, _, _⟩ := hl
 obtain rfl := Option.some.inj ((show Tryd.prog.globalNamed "internal/strconv.uint64pow10" = some 0 by kernel_rfl).symm.trans hg)
 obtain rfl := Option.some.inj ((show (Tryd.prog.globals[0]?).map (·.type) = some 123 by kernel_rfl).symm.trans ht)
 refine ⟨cs, hv, ?_⟩
 have e : (Rows.laid_internal_strconv_uint64pow10 : DataW Unit) = .agg (pow10z.map fun z => .lit (.int .u64 z)) := by kernel_rfl
 rw [e] at hd
 exact arr_ints (zs := pow10z) (n := 20) (e := 116) Tryd.underlying123 Tryd.underlying116 (by kernel_rfl) (by kernel_rfl) hd
theorem laidG_of {W : World} (hsh : W.ShapedOpen Tryd.prog) (h : laidMetH Tryd.prog Rows.eveningFormatsRow.laid W) : LaidG W := fun x hx => by
 have hx : x = { g := 0, e := 123, cs := pow10s } := List.mem_singleton.1 hx
 subst hx
 refine ⟨by show 0 < 4; omega, by kernel_rfl, ?_⟩
 obtain ⟨cs, hv, hc⟩ := pow_laid h
 have ht : (((begin Tryd.prog (fun _ _ => 0) default).world.heap[0]?).bind Obj.row?).map (·.2) = some 123 := by kernel_rfl
 cases hr : ((begin Tryd.prog (fun _ _ => 0) default).world.heap[0]?).bind Obj.row? with
 | none => rw [hr] at ht; cases ht
 | some y =>
  obtain ⟨zero, t⟩ := y
  rw [hr] at ht
  simp only [Option.map_some, Option.some.injEq] at ht
  subst ht
  obtain ⟨cs', h1, _, _⟩ := hsh.1 0 zero 123 (show 0 < Tryd.prog.globals.size from Nat.le_of_ble_eq_true (by kernel_rfl)) hr
  refine ⟨cs', _, h1, ?_⟩
  have : W.var? Tryd.prog "internal/strconv.uint64pow10" = some cs' := by
   unfold World.var?
   rw [show Tryd.prog.globalNamed "internal/strconv.uint64pow10" = some 0 by kernel_rfl]
   simp only [Option.bind_some, h1]
  rw [hv] at this
  rw [← Option.some.inj this]; exact hc
end Go.Ev

end
