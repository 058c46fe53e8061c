/-
  Part of the engine that the claim is proved with: it states nothing of the document by itself.
-/
import Derived.Test.YtenmglepjkflhaaDoorCoreG29
import Derived.Test.YtenmglepjkflhaaDoorCoreAwake
import Derived.Test.YtenmglepjkflhaaDoorCoreKit
import Derived.Test.YtenmglepjkflhaaDoorRows
import Derived.Test.YtenmglepjkflhaaDoorProg
import Derived.Test.YtenmglepjkflhaaDoorCoreEv
import Derived.OpenShut
import Derived.LaidSub
import Derived.MakeChecks

section
open Go.Proofs
namespace Go.Ev
set_option maxRecDepth 100000
noncomputable def GCb : Msk := { bits := GB, fast := false, ora := fun g => cond (Nat.beq g 15) (some (.bool true)) none }
abbrev VB (d : Nat) (g : FuncId) (c : Con) : Prop := Valid Tryd.prog GCb (ev Tryd.prog GCb d) g c
theorem vb0 (d : Nat) : ∀ g c, cc0 g = some c → VB d g c := fun _ _ h => by cases h
theorem vb13 : ∀ d, 5 ≤ d → VB d 24 con13 := fun d hd =>
 valid_of_sym (C := ctx cc0 ebAnn) (G := GCb) (B := 2) (m := 3) rfl rfl rfl (fun d _ => vb0 d) (fun us p r hc hp ht => by
  unfold con13 at hc; split at hc
  ·cases hc; exact s13 _ _ hp.1.1 hp.1.2 hp.2
  ·cases hc) (fun _ _ => rfl) rfl rfl d hd
theorem vk33 : ∀ d, 6 ≤ d → VB d 47 con33 := fun d hd =>
 valid_of_sym (C := ctxj cc0 ekAnn ekJoin) (G := GCb) (B := 2) (m := 4) rfl rfl rfl (fun d _ => vb0 d) (fun us p r hc hp ht => by
  unfold con33 at hc; split at hc
  ·cases hc; exact s33 _ hp
  ·cases hc) (fun _ _ => rfl) rfl rfl d hd
open Classical in
theorem vk32 : ∀ d, 7 ≤ d → VB d 46 con32 := fun d hd us p r hc hp => by
 have hc0 := hc
 unfold con32 at hc; split at hc
 ·rename_i n b
  exact valid_of_sym (C := ctx cc0 (gAnn n)) (G := GCb) (B := 2) (m := 5) (g := 46) (c := fun us => if us = [.int .i64 n, .dat 25 b] then con32 us else none) rfl rfl rfl (fun d _ => vb0 d) (fun us p r hc hp ht => by
   split at hc
   ·rename_i e; subst e
    cases hc; exact s32 _ _ hp.1.1 hp.1.2 hp.2
   ·cases hc) (fun _ _ => rfl) rfl rfl d hd _ p r (by show (if _ then _ else _) = _; rw [if_pos rfl]; exact hc0) hp
 ·cases hc
theorem vck3 : ∀ d, 7 ≤ d → ∀ g c, ck3 g = some c → VB d g c := fun d hd g c e => by
 unfold ck3 at e
 split at e
 ·cases e; exact vk32 d hd
 ·cases e; exact vk33 d (by omega)
 ·cases e
theorem vk14 : ∀ d, 12 ≤ d → VB d 25 con14 := fun d hd =>
 valid_of_sym (C := ctx ck3 ekAnn) (G := GCb) (B := 7) (m := 5) rfl rfl rfl vck3 (fun us p r hc hp ht => by
  unfold con14 at hc; split at hc
  ·cases hc; exact s14 _ _ _ hp.1.1 hp.1.2 hp.2.1 hp.2.2
  ·cases hc) (fun _ _ => rfl) rfl rfl d hd
theorem vck4 : ∀ d, 12 ≤ d → ∀ g c, ck4 g = some c → VB d g c := fun d hd g c e => by
 unfold ck4 at e
 split at e
 ·cases e; exact vb13 d (by omega)
 ·cases e; exact vk14 d hd
 ·cases e
theorem vk5 : ∀ d, 16 ≤ d → VB d 7 con5 := fun d hd =>
 valid_of_sym (C := ctx ck4 ekAnn) (G := GCb) (B := 12) (m := 4) rfl rfl rfl vck4 (fun us p r hc hp ht => by
  unfold con5 at hc; split at hc
  ·cases hc; exact s5 _ _ _ hp.1 hp.2
  ·cases hc) (fun _ _ => rfl) rfl rfl d hd
theorem vnt1 : ∀ d, 16 ≤ d → ∀ g c, nt1 g = some c → VB d g c := fun d hd g c e => by
 unfold nt1 at e
 split at e
 ·cases e; exact vk5 d hd
 ·cases e
theorem vn16 : ∀ d, 19 ≤ d → VB d 28 con16 := fun d hd =>
 valid_of_sym (C := ctx nt1 ntAnn) (G := GCb) (B := 16) (m := 3) rfl rfl rfl vnt1 (fun us p r hc hp ht => by
  unfold con16 at hc; split at hc
  ·cases hc; exact s16 _ _ hp
  ·cases hc) (fun _ _ => rfl) rfl rfl d hd
theorem vnt2 : ∀ d, 19 ≤ d → ∀ g c, nt2 g = some c → VB d g c := fun d hd g c e => by
 unfold nt2 at e
 split at e
 ·cases e; exact vn16 d hd
 ·cases e
theorem vn7 : ∀ d, 27 ≤ d → VB d 11 con7 := fun d hd =>
 valid_of_sym (C := ctx nt2 ntAnn) (G := GCb) (B := 19) (m := 8) rfl rfl rfl vnt2 (fun us p r hc hp ht => by
  unfold con7 at hc; split at hc
  ·cases hc; exact s7 _ _ hp
  ·cases hc) (fun _ _ => rfl) rfl rfl d hd
theorem vmt2 : ∀ d, 19 ≤ d → ∀ g c, mt2 g = some c → VB d g c := fun d hd g c e => by
 unfold mt2 at e
 split at e
 ·cases e; exact vn16 d (by omega)
 ·cases e
theorem vm26 : ∀ d, 27 ≤ d → VB d 26 con26 := fun d hd =>
 valid_of_sym (C := ctx mt2 mtAnn) (G := GCb) (B := 19) (m := 8) rfl rfl rfl vmt2 (fun us p r hc hp ht => by
  unfold con26 at hc; split at hc
  ·cases hc; exact s26 _ _ hp
  ·cases hc) (fun _ _ => rfl) rfl rfl d hd
theorem vm31 : ∀ d, 5 ≤ d → VB d 31 con31n := fun d hd =>
 valid_of_sym (C := ctx cc0 mtAnn) (G := GCb) (B := 2) (m := 3) rfl rfl rfl (fun d _ => vb0 d) (fun us p r hc hp ht => by
  unfold con31n at hc; split at hc
  ·cases hc; exact s31n _ hp.1 hp.2
  ·cases hc) (fun _ _ => rfl) rfl rfl d hd
theorem vmt3 : ∀ d, 27 ≤ d → ∀ g c, mt3 g = some c → VB d g c := fun d hd g c e => by
 unfold mt3 at e
 split at e
 ·cases e; exact vm26 d (by omega)
 ·cases e; exact vm31 d (by omega)
 ·cases e
theorem vm8 : ∀ d, 30 ≤ d → VB d 8 con8m := fun d hd =>
 valid_of_sym (C := ctx mt3 mtAnn) (G := GCb) (B := 27) (m := 3) rfl rfl rfl vmt3 (fun us p r hc hp ht => by
  unfold con8m at hc; split at hc
  ·cases hc; exact s8m _ _ hp
  ·cases hc) (fun _ _ => rfl) rfl rfl d hd
theorem vm12 : ∀ d, 30 ≤ d → VB d 12 con12m := fun d hd =>
 valid_of_sym (C := ctx mt3 mtAnn) (G := GCb) (B := 27) (m := 3) rfl rfl rfl vmt3 (fun us p r hc hp ht => by
  unfold con12m at hc; split at hc
  ·cases hc; exact s12m _ _ hp
  ·cases hc) (fun _ _ => rfl) rfl rfl d hd
theorem vm14 : ∀ d, 30 ≤ d → VB d 14 con14m := fun d hd =>
 valid_of_sym (C := ctx mt3 mtAnn) (G := GCb) (B := 27) (m := 3) rfl rfl rfl vmt3 (fun us p r hc hp ht => by
  unfold con14m at hc; split at hc
  ·cases hc; exact s14m _ _ hp
  ·cases hc) (fun _ _ => rfl) rfl rfl d hd
theorem vce0 : ∀ d, 5 ≤ d → ∀ g c, ce0 g = some c → VB d g c := fun d hd g c e => by
 unfold ce0 at e
 split at e
 ·cases e; exact vb13 d (by omega)
 ·cases e
theorem vm27 : ∀ d, 9 ≤ d → VB d 27 con38b := fun d hd =>
 valid_of_sym (C := ctx ce0 shAnn) (G := GCb) (B := 5) (m := 4) rfl rfl rfl vce0 (fun us p r hc hp ht => by
  unfold con38b at hc; split at hc
  ·cases hc; exact s27 _ _ hp
  ·cases hc) (fun _ _ => rfl) rfl rfl d hd
theorem vce1 : ∀ d, 9 ≤ d → ∀ g c, ce1 g = some c → VB d g c := fun d hd g c e => by
 unfold ce1 at e
 split at e
 ·cases e; exact vb13 d (by omega)
 ·cases e; exact vm27 d (by omega)
 ·cases e
theorem vm9 : ∀ d, 12 ≤ d → VB d 9 con15b := fun d hd =>
 valid_of_sym (C := ctx ce1 shAnn) (G := GCb) (B := 9) (m := 3) rfl rfl rfl vce1 (fun us p r hc hp ht => by
  unfold con15b at hc; split at hc
  ·cases hc; exact s9b _ _ _ hp
  ·cases hc) (fun _ _ => rfl) rfl rfl d hd
theorem vm10 : ∀ d, 12 ≤ d → VB d 10 con17b := fun d hd =>
 valid_of_sym (C := ctx ce1 shAnn) (G := GCb) (B := 9) (m := 3) rfl rfl rfl vce1 (fun us p r hc hp ht => by
  unfold con17b at hc; split at hc
  ·cases hc; exact s10b _ _ _ hp
  ·cases hc) (fun _ _ => rfl) rfl rfl d hd
theorem vz21 : ∀ d, 6 ≤ d → VB d 21 con21z := fun d hd =>
 valid_of_sym (C := ctx cc0 mzAnn) (G := GCb) (B := 2) (m := 4) rfl rfl rfl (fun d _ => vb0 d) (fun us p r hc hp ht => by
  unfold con21z at hc; split at hc
  ·cases hc; exact s21z _ hp
  ·cases hc) (fun _ _ => rfl) rfl rfl d hd
theorem vmz1 : ∀ d, 6 ≤ d → ∀ g c, mz1 g = some c → VB d g c := fun d hd g c e => by
 unfold mz1 at e
 split at e
 ·cases e; exact vz21 d (by omega)
 ·cases e
theorem vz6 : ∀ d, 10 ≤ d → VB d 6 con6z := fun d hd =>
 valid_of_sym (C := ctx mz1 mzAnn) (G := GCb) (B := 6) (m := 4) rfl rfl rfl vmz1 (fun us p r hc hp ht => by
  unfold con6z at hc; split at hc
  ·cases hc; exact s6z _ _ hp
  ·cases hc) (fun _ _ => rfl) rfl rfl d hd
theorem vt34 : ∀ d, 5 ≤ d → VB d 34 con34 := fun d hd =>
 valid_of_sym (C := ctx cc0 hasAnn) (G := GCb) (B := 2) (m := 3) rfl rfl rfl (fun d _ => vb0 d) (fun us p r hc hp ht => by
  unfold con34 at hc; split at hc
  ·cases hc; exact s34 _ _ hp
  ·cases hc) (fun _ _ => rfl) rfl rfl d hd
theorem vtg1 : ∀ d, 19 ≤ d → ∀ g c, tg1 g = some c → VB d g c := fun d hd g c e => by
 unfold tg1 at e
 split at e
 ·cases e; exact vn16 d (by omega)
 ·cases e; exact vt34 d (by omega)
 ·cases e
open Classical in
theorem vt13 : ∀ d, 25 ≤ d → VB d 13 con13t := fun d hd us p r hc hp => by
 have hc0 := hc
 unfold con13t at hc; split at hc
 ·rename_i n s a b
  exact valid_of_sym (C := ctx tg1 (togAnn a b)) (G := GCb) (B := 19) (m := 6) (g := 13) (c := fun us => if us = [.int .i64 n, .dat 24 s, .int .i64 a, .int .i64 b] then con13t us else none) rfl rfl rfl vtg1 (fun us p r hc hp ht => by
   split at hc
   ·rename_i e; subst e
    cases hc; exact s13t _ _ _ _ hp
   ·cases hc) (fun _ _ => rfl) rfl rfl d hd _ p r (by show (if _ then _ else _) = _; rw [if_pos rfl]; exact hc0) hp
 ·cases hc
theorem vpg1 : ∀ d, 30 ≤ d → ∀ g c, pg1 g = some c → VB d g c := fun d hd g c e => by
 unfold pg1 at e
 split at e
 ·cases e; exact vz6 d (by omega)
 ·cases e; exact vk5 d (by omega)
 ·cases e; exact vm8 d (by omega)
 ·cases e; exact vm9 d (by omega)
 ·cases e; exact vm10 d (by omega)
 ·cases e; exact vn7 d (by omega)
 ·cases e; exact vm12 d (by omega)
 ·cases e; exact vt13 d (by omega)
 ·cases e; exact vm14 d (by omega)
 ·cases e
theorem v3p : ∀ d, 34 ≤ d → VB d 3 con3p := fun d hd =>
 valid_of_sym (C := ctxj pg1 pgAnn pgJoin) (G := GCb) (B := 30) (m := 4) rfl rfl rfl vpg1 (fun us p r hc hp ht => by
  unfold con3p at hc; split at hc
  ·cases hc; exact sl3p _ _ _ hp.1 hp.2.1 hp.2.2.1 hp.2.2.2
  ·cases hc) (fun _ _ => rfl) rfl rfl d hd
section
variable {P : Program}
theorem ok_rows {f : Nat} {t e : TypeId} {d : D} (hu : P.underlying t = some (.slice e)) (h : okD P (f + 1) t d) : d.len * P.bytesOf e ≤ reachBytes ∧ ∀ i, i < d.len → okD P f e (el d i) := by
 unfold okD at h; rw [hu] at h
 rcases h with rfl | ⟨l, rfl, h0, h⟩
 ·exact ⟨by simp [D.len, D.asList], fun i hi => by simp [D.len, D.asList] at hi⟩
 ·refine ⟨h0.2, fun i hi => h i _ ?_⟩
  have hi : i < l.length := hi
  show l[i]? = some (nthD l i)
  unfold nthD
  rw [List.getElem?_eq_getElem hi]; rfl
theorem ok_int {f : Nat} {t : TypeId} {k : IntKind} {d : D} (hu : P.underlying t = some (.int k)) (h : okD P (f + 1) t d) : inR k d.asInt := by
 unfold okD at h; rw [hu] at h
 obtain ⟨n, rfl, hn⟩ := h
 exact hn
theorem ok_arr {f n : Nat} {t e : TypeId} {d : D} (hu : P.underlying t = some (.array n e)) (h : okD P (f + 1) t d) : ∀ i, i < n → okD P f e (d.fld i) := by
 unfold okD at h; rw [hu] at h
 obtain ⟨ds, rfl, hl, h⟩ := h
 intro i hi
 refine h i _ ?_
 show ds[i]? = some (nthD ds i)
 unfold nthD
 rw [List.getElem?_eq_getElem (by omega)]; rfl
end
theorem ok5 {d : D} (h : okD Tryd.prog 20 5 d) : 0 ≤ d.asInt ∧ d.asInt < 256 := ok_int Tryd.underlying5 h
theorem ok22 {d : D} (h : okD Tryd.prog 20 22 d) : u8L d := ⟨fun i hi => ok_int Tryd.underlying5 ((ok_rows Tryd.underlying22 h).2 i hi)⟩
theorem ok23 {d : D} (h : okD Tryd.prog 20 23 d) : u8W d := ⟨fun i j hi hj => by
 have h1 := (ok_rows Tryd.underlying23 h).2 i hi
 have h2 := (ok_rows Tryd.underlying47 h1).2 j hj
 have h3 := ok_arr Tryd.underlying48 h2
 exact ⟨ok_int Tryd.underlying5 (h3 0 (by decide)), ok_int Tryd.underlying5 (h3 1 (by decide))⟩⟩
end Go.Ev

end

section
open Go.Proofs Go.Proofs.YtenmglepjkflhaaDoor
namespace Go.Ev
open Go.ChangeShapes Go.WideShapes Go.ChangeAt Go.RowKit
theorem arr_ints {P : Program} {w : World} {n e : Nat} {k : IntKind} {t : TypeId} {fuel : Nat} {cs : List Value} {zs : List Int} {p : List MemPlace} {enc : TypeId × Value → Unit} {base : Nat} {sp : Nat → Bool} {held : Bool}
  (ht : P.underlying t = some (.array n e)) (he : P.underlying e = some (.int k)) (hc1 : P.cellsOf e = 1) (hct : P.cellsOf t = n)
  (h : DataW.trod enc P w base sp held fuel t cs = some (.agg (zs.map fun z => .lit (.int k z)), p)) : cs = zs.map (Value.int k) := by
 obtain ⟨xs, m, _, ex, hlen, hxl, hel⟩ := DataW.trod_array ht h
 have e3 : (zs.map fun z => (DataW.lit (.int k z) : DataW Unit)) = xs.map (·.1) := DataW.agg.inj (Prod.mk.inj ex).1
 have hzl : zs.length = n := by have := congrArg List.length e3; simp at this; omega
 rw [hct] at hlen
 refine List.ext_getElem? fun i => ?_
 by_cases hi : i < n
 ·have k0 := hel i hi
  rw [hc1, Nat.mul_one, List.getElem?_eq_getElem (by omega : i < xs.length)] at k0
  obtain ⟨z, e1, e2, _⟩ := DataW.trod_int he k0
  have h0 : ((cs.drop i).take 1)[0]? = some (.int k z) := by rw [e1]; rfl
  have h1 : cs[i]? = some (.int k z) := by simpa using h0
  have h2 : (zs.map fun z => (DataW.lit (.int k z) : DataW Unit))[i]? = (xs.map (·.1))[i]? := by rw [e3]
  rw [List.getElem?_map, List.getElem?_map, List.getElem?_eq_getElem (by omega : i < zs.length), List.getElem?_eq_getElem (by omega : i < xs.length), e2] at h2
  simp only [Option.map_some, Option.some.injEq, DataW.lit.injEq, Lit.int.injEq, true_and] at h2
  rw [h1, List.getElem?_map, List.getElem?_eq_getElem (by omega : i < zs.length), Option.map_some, h2]
 ·rw [List.getElem?_eq_none (by omega), List.getElem?_eq_none (by simp; omega)]
def pow10z : List Int := [1, 10, 100, 1000, 10000, 100000, 1000000, 10000000, 100000000, 1000000000, 10000000000, 100000000000, 1000000000000, 10000000000000, 100000000000000, 1000000000000000, 10000000000000000, 100000000000000000, 1000000000000000000, 10000000000000000000]
theorem pow_laid {W : World} (h : laidMetH Tryd.prog Rows.eveningPigeonRow.laid W) : ∃ cs, W.var? Tryd.prog "internal/strconv.uint64pow10" = some cs ∧ cs.toList = pow10s := by
 rw [MakeChecks.laidMetH_plain _ _ _ (by kernel_rfl)] at h
 obtain ⟨ps, hl, _, _⟩ := h
 obtain ⟨_, _, _, _, _, _, _, _, _, _, hl, _⟩ := hl
 obtain ⟨_, _, _, _, _, _, _, _, _, _, hl, _⟩ := hl
 obtain ⟨g, t, cs, fuel, p, q, hg, ht, hv, hd, _, _⟩ := hl
 obtain rfl := Option.some.inj ((show Tryd.prog.globalNamed "internal/strconv.uint64pow10" = some 0 by kernel_rfl).symm.trans hg)
 obtain rfl := Option.some.inj ((show (Tryd.prog.globals[0]?).map (·.type) = some 139 by kernel_rfl).symm.trans ht)
 refine ⟨cs, hv, ?_⟩
 have e : (Rows.laid_internal_strconv_uint64pow10 : DataW Unit) = .agg (pow10z.map fun z => .lit (.int .u64 z)) := by kernel_rfl
 rw [e] at hd
 exact arr_ints (zs := pow10z) (n := 20) (e := 116) Tryd.underlying139 Tryd.underlying116 (by kernel_rfl) (by kernel_rfl) hd
theorem laidG_of {W : World} (hsh : W.ShapedOpen Tryd.prog) (h : laidMetH Tryd.prog Rows.eveningPigeonRow.laid W) : LaidG W := fun x hx => by
 have hx : x = { g := 0, e := 139, cs := pow10s } := List.mem_singleton.1 hx
 subst hx
 refine ⟨by show 0 < 4; omega, by kernel_rfl, ?_⟩
 obtain ⟨cs, hv, hc⟩ := pow_laid h
 have ht : (((begin Tryd.prog (fun _ _ => 0) default).world.heap[0]?).bind Obj.row?).map (·.2) = some 139 := by kernel_rfl
 cases hr : ((begin Tryd.prog (fun _ _ => 0) default).world.heap[0]?).bind Obj.row? with
 | none => rw [hr] at ht; cases ht
 | some y =>
  obtain ⟨zero, t⟩ := y
  rw [hr] at ht
  simp only [Option.map_some, Option.some.injEq] at ht
  subst ht
  obtain ⟨cs', h1, _, _⟩ := hsh.1 0 zero 139 (show 0 < Tryd.prog.globals.size from Nat.le_of_ble_eq_true (by kernel_rfl)) hr
  refine ⟨cs', _, h1, ?_⟩
  have : W.var? Tryd.prog "internal/strconv.uint64pow10" = some cs' := by
   unfold World.var?
   rw [show Tryd.prog.globalNamed "internal/strconv.uint64pow10" = some 0 by kernel_rfl]
   simp only [Option.bind_some, h1]
  rw [hv] at this
  rw [← Option.some.inj this]; exact hc
end Go.Ev

end
