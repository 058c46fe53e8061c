/-
  Part of the engine that the claim is proved with: it states nothing of the document by itself.
-/
import Derived.Test.YtpopdemanadllaaGreatDoorCoreWhB
import Derived.Test.YtpopdemanadllaaGreatDoorCoreWhC
import Derived.Test.YtpopdemanadllaaGreatDoorCoreAwake
import Derived.Test.YtpopdemanadllaaGreatDoorCoreKit
open Go.Proofs
namespace Go.Ev
set_option maxRecDepth 100000
noncomputable def GCb : Msk := { bits := GB, fast := false, ora := fun g => cond (Nat.beq g 6) (some (.bool true)) none }
abbrev VB (d : Nat) (g : FuncId) (c : Con) : Prop := Valid Tryz.prog GCb (ev Tryz.prog GCb d) g c
theorem vb0 (d : Nat) : ∀ g c, cc0 g = some c → VB d g c := fun _ _ h => by cases h
theorem vb13 : ∀ d, 5 ≤ d → VB d 34 con13 := fun d hd =>
 valid_of_sym (C := ctx cc0 ebAnn) (G := GCb) (B := 2) (m := 3) rfl rfl rfl (fun d _ => vb0 d) (fun us p r hc hp ht => by
  unfold con13 at hc; split at hc
  ·cases hc; exact s13 _ _ hp.1.1 hp.1.2 hp.2
  ·cases hc) (fun _ _ => rfl) rfl rfl d hd
theorem vk33 : ∀ d, 6 ≤ d → VB d 64 con33 := fun d hd =>
 valid_of_sym (C := ctxj cc0 ekAnn ekJoin) (G := GCb) (B := 2) (m := 4) rfl rfl rfl (fun d _ => vb0 d) (fun us p r hc hp ht => by
  unfold con33 at hc; split at hc
  ·cases hc; exact s33 _ hp
  ·cases hc) (fun _ _ => rfl) rfl rfl d hd
open Classical in
theorem vk32 : ∀ d, 7 ≤ d → VB d 36 con32 := fun d hd us p r hc hp => by
 have hc0 := hc
 unfold con32 at hc; split at hc
 ·rename_i n b
  exact valid_of_sym (C := ctx cc0 (gAnn n)) (G := GCb) (B := 2) (m := 5) (g := 36) (c := fun us => if us = [.int .i64 n, .dat 25 b] then con32 us else none) rfl rfl rfl (fun d _ => vb0 d) (fun us p r hc hp ht => by
   split at hc
   ·rename_i e; subst e
    cases hc; exact s32 _ _ hp.1.1 hp.1.2 hp.2
   ·cases hc) (fun _ _ => rfl) rfl rfl d hd _ p r (by show (if _ then _ else _) = _; rw [if_pos rfl]; exact hc0) hp
 ·cases hc
theorem vck3 : ∀ d, 7 ≤ d → ∀ g c, ck3 g = some c → VB d g c := fun d hd g c e => by
 unfold ck3 at e
 split at e
 ·cases e; exact vk32 d hd
 ·cases e; exact vk33 d (by omega)
 ·cases e
theorem vk14 : ∀ d, 12 ≤ d → VB d 35 con14 := fun d hd =>
 valid_of_sym (C := ctx ck3 ekAnn) (G := GCb) (B := 7) (m := 5) rfl rfl rfl vck3 (fun us p r hc hp ht => by
  unfold con14 at hc; split at hc
  ·cases hc; exact s14 _ _ _ hp.1.1 hp.1.2 hp.2.1 hp.2.2
  ·cases hc) (fun _ _ => rfl) rfl rfl d hd
theorem vck4 : ∀ d, 12 ≤ d → ∀ g c, ck4 g = some c → VB d g c := fun d hd g c e => by
 unfold ck4 at e
 split at e
 ·cases e; exact vb13 d (by omega)
 ·cases e; exact vk14 d hd
 ·cases e
theorem vk5 : ∀ d, 16 ≤ d → VB d 9 con5 := fun d hd =>
 valid_of_sym (C := ctx ck4 ekAnn) (G := GCb) (B := 12) (m := 4) rfl rfl rfl vck4 (fun us p r hc hp ht => by
  unfold con5 at hc; split at hc
  ·cases hc; exact s5 _ _ _ hp.1 hp.2
  ·cases hc) (fun _ _ => rfl) rfl rfl d hd
theorem vnt1 : ∀ d, 16 ≤ d → ∀ g c, nt1 g = some c → VB d g c := fun d hd g c e => by
 unfold nt1 at e
 split at e
 ·cases e; exact vk5 d hd
 ·cases e
theorem vn16 : ∀ d, 19 ≤ d → VB d 23 con16 := fun d hd =>
 valid_of_sym (C := ctx nt1 ntAnn) (G := GCb) (B := 16) (m := 3) rfl rfl rfl vnt1 (fun us p r hc hp ht => by
  unfold con16 at hc; split at hc
  ·cases hc; exact s16 _ _ hp
  ·cases hc) (fun _ _ => rfl) rfl rfl d hd
theorem valid_extP {P : Program} {G : Msk} {run : Run} {g : FuncId} {c : Con} (h : Valid P G run g c) : Valid P G run g (extP c) := by
 intro us p r hc hp σ H vs hst hl
 refine h (us.map normV0) p r hc hp σ H vs hst ⟨by simpa using hl.1, fun j v v' hj hj' => ?_⟩
 rw [List.getElem?_map] at hj
 cases ha : us[j]? with
 | none => rw [ha] at hj; cases hj
 | some u =>
  rw [ha] at hj
  simp only [Option.map_some, Option.some.injEq] at hj
  subst hj
  exact normV0_rel (hl.2 j u v' ha hj')
theorem wk44 : ∀ d, 5 ≤ d → VB d 21 con67 := fun d hd =>
 valid_of_sym (C := ctx cc0 emAnn) (G := GCb) (B := 2) (m := 3) rfl rfl rfl (fun d _ => vb0 d) (fun us p r hc hp ht => by
  unfold con67 at hc; split at hc
  ·cases hc; exact s67 _ _ hp
  ·cases hc) (fun _ _ => rfl) rfl rfl d hd
theorem wFal (d : Nat) (g : FuncId) : VB d g conFm := fun us p r hc hp => by
 unfold conFm at hc; cases hc; exact hp.elim
theorem wmn1 : ∀ d, 19 ≤ d → ∀ g c, mn1 g = some c → VB d g c := fun d hd g c e => by
 unfold mn1 at e
 split at e
 ·cases e; exact vn16 d (by omega)
 ·cases e; exact wFal d _
 ·cases e; exact wFal d _
 ·cases e; exact wFal d _
 ·cases e
noncomputable def cn38 : Con := fun | [.int .i64 n, .dat 24 s] => some (bigP s ∧ ¬ goodS n s, .dat 25 .nil) | _ => none
theorem wn38 : ∀ d, 23 ≤ d → VB d 43 cn38 := fun d hd =>
 valid_of_sym (C := ctx mn1 nlAnn) (G := GCb) (B := 19) (m := 4) rfl rfl rfl wmn1 (fun us p r hc hp ht => by
  unfold cn38 at hc; split at hc
  ·cases hc; exact s38n _ _ hp.1 hp.2
  ·cases hc) (fun _ _ => rfl) rfl rfl d hd
theorem wmn2 : ∀ d, 23 ≤ d → ∀ g c, mn2 g = some c → VB d g c := fun d hd g c e => by
 unfold mn2 at e
 split at e
 ·cases e; exact wn38 d hd
 ·cases e; exact wFal d _
 ·cases e
theorem vz21 : ∀ d, 6 ≤ d → VB d 22 con21z := fun d hd =>
 valid_of_sym (C := ctx cc0 mzAnn) (G := GCb) (B := 2) (m := 4) rfl rfl rfl (fun d _ => vb0 d) (fun us p r hc hp ht => by
  unfold con21z at hc; split at hc
  ·cases hc; exact s21z _ hp
  ·cases hc) (fun _ _ => rfl) rfl rfl d hd
theorem vmz1 : ∀ d, 6 ≤ d → ∀ g c, mz1 g = some c → VB d g c := fun d hd g c e => by
 unfold mz1 at e
 split at e
 ·cases e; exact vz21 d (by omega)
 ·cases e
theorem vz6 : ∀ d, 10 ≤ d → VB d 4 con6z := fun d hd =>
 valid_of_sym (C := ctx mz1 mzAnn) (G := GCb) (B := 6) (m := 4) rfl rfl rfl vmz1 (fun us p r hc hp ht => by
  unfold con6z at hc; split at hc
  ·cases hc; exact s6z _ _ hp
  ·cases hc) (fun _ _ => rfl) rfl rfl d hd
theorem vg48 : ∀ d, 6 ≤ d → VB d 48 con15 := fun d hd =>
 valid_of_sym (C := ctx cc0 noAnn) (G := GCb) (B := 2) (m := 4) rfl rfl rfl (fun d _ => vb0 d) (fun us p r hc hp ht => by
  unfold con15 at hc; split at hc
  ·cases hc; exact s15 _ _ hp.1.1 hp.1.2 hp.2.1 hp.2.2
  ·cases hc) (fun _ _ => rfl) rfl rfl d hd
theorem vwg1 : ∀ d, 16 ≤ d → ∀ g c, wg1 g = some c → VB d g c := fun d hd g c e => by
 unfold wg1 at e
 split at e
 ·cases e; exact vk5 d (by omega)
 ·cases e; exact wFal d _
 ·cases e; exact wFal d _
 ·cases e; exact wFal d _
 ·cases e; exact wFal d _
 ·cases e; exact wFal d _
 ·cases e
theorem vwg2 : ∀ d, 19 ≤ d → ∀ g c, wg2 g = some c → VB d g c := fun d hd g c e => by
 unfold wg2 at e
 split at e
 ·cases e; exact vn16 d (by omega)
 ·cases e; exact wFal d _
 ·cases e; exact wFal d _
 ·cases e; exact wFal d _
 ·cases e
theorem vg10 : ∀ d, 20 ≤ d → VB d 10 con10w := fun d hd =>
 valid_of_sym (C := ctx wg1 wgAnn) (G := GCb) (B := 16) (m := 4) rfl rfl rfl vwg1 (fun us p r hc hp ht => by
  unfold con10w at hc; split at hc
  ·cases hc; exact s10w _ _ _ hp.1
  ·cases hc) (fun _ _ => rfl) rfl rfl d hd
theorem vg11 : ∀ d, 20 ≤ d → VB d 11 con11w := fun d hd =>
 valid_of_sym (C := ctx wg1 wgAnn) (G := GCb) (B := 16) (m := 4) rfl rfl rfl vwg1 (fun us p r hc hp ht => by
  unfold con11w at hc; split at hc
  ·cases hc; exact s11w _ _ _ hp.1
  ·cases hc) (fun _ _ => rfl) rfl rfl d hd
theorem vg12 : ∀ d, 20 ≤ d → VB d 12 con12w := fun d hd =>
 valid_of_sym (C := ctx wg1 wgAnn) (G := GCb) (B := 16) (m := 4) rfl rfl rfl vwg1 (fun us p r hc hp ht => by
  unfold con12w at hc; split at hc
  ·cases hc; exact s12w _ _ _ hp.1 hp.2.1
  ·cases hc) (fun _ _ => rfl) rfl rfl d hd
theorem vg13 : ∀ d, 23 ≤ d → VB d 13 con13w := fun d hd =>
 valid_of_sym (C := ctx wg2 wgAnn) (G := GCb) (B := 19) (m := 4) rfl rfl rfl vwg2 (fun us p r hc hp ht => by
  unfold con13w at hc; split at hc
  ·cases hc; exact s13w _ _ hp
  ·cases hc) (fun _ _ => rfl) rfl rfl d hd
theorem vg14 : ∀ d, 23 ≤ d → VB d 14 con13w := fun d hd =>
 valid_of_sym (C := ctx wg2 wgAnn) (G := GCb) (B := 19) (m := 4) rfl rfl rfl vwg2 (fun us p r hc hp ht => by
  unfold con13w at hc; split at hc
  ·cases hc; exact s14w _ _ hp
  ·cases hc) (fun _ _ => rfl) rfl rfl d hd
theorem vg15 : ∀ d, 23 ≤ d → VB d 15 con13w := fun d hd =>
 valid_of_sym (C := ctx wg2 wgAnn) (G := GCb) (B := 19) (m := 4) rfl rfl rfl vwg2 (fun us p r hc hp ht => by
  unfold con13w at hc; split at hc
  ·cases hc; exact s15w _ _ hp
  ·cases hc) (fun _ _ => rfl) rfl rfl d hd
theorem vg16 : ∀ d, 26 ≤ d → VB d 16 con16w := fun d hd =>
 valid_of_sym (C := ctx mn2 mtAnn) (G := GCb) (B := 23) (m := 3) rfl rfl rfl wmn2 (fun us p r hc hp ht => by
  unfold con16w at hc; split at hc
  ·cases hc; exact s11n _ _ hp.big hp.no
  ·cases hc) (fun _ _ => rfl) rfl rfl d hd
theorem vg17 : ∀ d, 26 ≤ d → VB d 17 con16w := fun d hd =>
 valid_of_sym (C := ctx mn2 mtAnn) (G := GCb) (B := 23) (m := 3) rfl rfl rfl wmn2 (fun us p r hc hp ht => by
  unfold con16w at hc; split at hc
  ·cases hc; exact s12n _ _ hp.big hp.no
  ·cases hc) (fun _ _ => rfl) rfl rfl d hd
theorem vg18 : ∀ d, 26 ≤ d → VB d 18 con16w := fun d hd =>
 valid_of_sym (C := ctx mn2 mtAnn) (G := GCb) (B := 23) (m := 3) rfl rfl rfl wmn2 (fun us p r hc hp ht => by
  unfold con16w at hc; split at hc
  ·cases hc; exact s13n _ _ hp.big hp.no
  ·cases hc) (fun _ _ => rfl) rfl rfl d hd
theorem vg19 : ∀ d, 23 ≤ d → VB d 19 con19w := fun d hd =>
 valid_of_sym (C := ctx wg2 wgAnn) (G := GCb) (B := 19) (m := 4) rfl rfl rfl vwg2 (fun us p r hc hp ht => by
  unfold con19w at hc; split at hc
  ·cases hc; exact s19w _ _ _ _ hp
  ·cases hc) (fun _ _ => rfl) rfl rfl d hd
theorem vg5 : ∀ d, 25 ≤ d → VB d 5 con5w := fun d hd =>
 valid_of_sym (C := ctx wg2 emAnn5) (G := GCb) (B := 19) (m := 6) rfl rfl rfl vwg2 (fun us p r hc hp ht => by
  unfold con5w at hc; split at hc
  ·cases hc; exact s5w _ _ hp
  ·cases hc) (fun _ _ => rfl) rfl rfl d hd
theorem vwh1 : ∀ d, 26 ≤ d → ∀ g c, wh1 g = some c → VB d g c := fun d hd g c e => by
 unfold wh1 at e
 split at e
 ·cases e; exact vz6 d (by omega)
 ·cases e; exact vg5 d (by omega)
 ·cases e; exact vk5 d (by omega)
 ·cases e; exact vg10 d (by omega)
 ·cases e; exact valid_ext (vg11 d (by omega))
 ·cases e; exact vg12 d (by omega)
 ·cases e; exact vg13 d (by omega)
 ·cases e; exact vg14 d (by omega)
 ·cases e; exact vg15 d (by omega)
 ·cases e; exact vg16 d (by omega)
 ·cases e; exact vg17 d (by omega)
 ·cases e; exact vg18 d (by omega)
 ·cases e; exact valid_ext (vg19 d (by omega))
 ·cases e; exact wk44 d (by omega)
 ·cases e; exact valid_extP (vg48 d (by omega))
 ·cases e
noncomputable def con3w : Con := fun | [.dat 22 c, .dat 23 w, .int .u8 a, .int .u8 b, .int .u8 _, .int .i64 _] => some (u8L c ∧ u8W w ∧ (0 ≤ a ∧ a < 256) ∧ 0 ≤ b ∧ b < 256, .prop True) | _ => none
theorem v3w : ∀ d, 32 ≤ d → VB d 3 con3w := fun d hd =>
 valid_of_sym (C := ctxo wh1 whAnn whJoin) (G := GCb) (B := 26) (m := 6) rfl rfl rfl vwh1 (fun us p r hc hp ht => by
  unfold con3w at hc; split at hc
  ·cases hc; exact s3w _ _ _ _ _ _ hp.1 hp.2.1 hp.2.2.1 hp.2.2.2
  ·cases hc) (fun _ _ => rfl) rfl rfl d hd
section
variable {P : Program}
theorem ok_rows {f : Nat} {t e : TypeId} {d : D} (hu : P.underlying t = some (.slice e)) (h : okD P (f + 1) t d) : d.len * P.bytesOf e ≤ reachBytes ∧ ∀ i, i < d.len → okD P f e (el d i) := by
 unfold okD at h; rw [hu] at h
 rcases h with rfl | ⟨l, rfl, h0, h⟩
 ·exact ⟨by simp [D.len, D.asList], fun i hi => by simp [D.len, D.asList] at hi⟩
 ·refine ⟨h0.2, fun i hi => h i _ ?_⟩
  have hi : i < l.length := hi
  show l[i]? = some (nthD l i)
  unfold nthD
  rw [List.getElem?_eq_getElem hi]; rfl
theorem ok_int {f : Nat} {t : TypeId} {k : IntKind} {d : D} (hu : P.underlying t = some (.int k)) (h : okD P (f + 1) t d) : inR k d.asInt := by
 unfold okD at h; rw [hu] at h
 obtain ⟨n, rfl, hn⟩ := h
 exact hn
theorem ok_arr {f n : Nat} {t e : TypeId} {d : D} (hu : P.underlying t = some (.array n e)) (h : okD P (f + 1) t d) : ∀ i, i < n → okD P f e (d.fld i) := by
 unfold okD at h; rw [hu] at h
 obtain ⟨ds, rfl, hl, h⟩ := h
 intro i hi
 refine h i _ ?_
 show ds[i]? = some (nthD ds i)
 unfold nthD
 rw [List.getElem?_eq_getElem (by omega)]; rfl
end
theorem ok5 {d : D} (h : okD Tryz.prog 20 5 d) : 0 ≤ d.asInt ∧ d.asInt < 256 := ok_int Tryz.underlying5 h
theorem ok22 {d : D} (h : okD Tryz.prog 20 22 d) : u8L d := ⟨fun i hi => ok_int Tryz.underlying5 ((ok_rows Tryz.underlying22 h).2 i hi)⟩
theorem ok23 {d : D} (h : okD Tryz.prog 20 23 d) : u8W d := ⟨fun i j hi hj => by
 have h1 := (ok_rows Tryz.underlying23 h).2 i hi
 have h2 := (ok_rows Tryz.underlying49 h1).2 j hj
 have h3 := ok_arr Tryz.underlying50 h2
 exact ⟨ok_int Tryz.underlying5 (h3 0 (by decide)), ok_int Tryz.underlying5 (h3 1 (by decide))⟩⟩
end Go.Ev
