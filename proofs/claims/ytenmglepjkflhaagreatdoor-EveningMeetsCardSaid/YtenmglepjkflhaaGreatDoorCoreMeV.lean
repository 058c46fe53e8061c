/-
  Part of the engine that the claim is proved with: it states nothing of the document by itself.
-/
import Derived.Test.YtenmglepjkflhaaGreatDoorCoreMeJ
import Derived.Test.YtenmglepjkflhaaGreatDoorCoreAwake
import Derived.Test.YtenmglepjkflhaaGreatDoorCoreKit
open Go.Proofs
namespace Go.Ev
set_option maxRecDepth 100000
noncomputable def GCb : Msk := { bits := GB, fast := false, ora := fun g => cond (Nat.beq g 6) (some (.bool true)) none }
abbrev VB (d : Nat) (g : FuncId) (c : Con) : Prop := Valid Tryz.prog GCb (ev Tryz.prog GCb d) g c
theorem vb0 (d : Nat) : ∀ g c, cc0 g = some c → VB d g c := fun _ _ h => by cases h
theorem vb13 : ∀ d, 5 ≤ d → VB d 69 con13 := fun d hd =>
 valid_of_sym (C := ctx cc0 ebAnn) (G := GCb) (B := 2) (m := 3) rfl rfl rfl (fun d _ => vb0 d) (fun us p r hc hp ht => by
  unfold con13 at hc; split at hc
  ·cases hc; exact s13 _ _ hp.1.1 hp.1.2 hp.2
  ·cases hc) (fun _ _ => rfl) rfl rfl d hd
theorem vk33 : ∀ d, 6 ≤ d → VB d 85 con33 := fun d hd =>
 valid_of_sym (C := ctxj cc0 ekAnn ekJoin) (G := GCb) (B := 2) (m := 4) rfl rfl rfl (fun d _ => vb0 d) (fun us p r hc hp ht => by
  unfold con33 at hc; split at hc
  ·cases hc; exact s33 _ hp
  ·cases hc) (fun _ _ => rfl) rfl rfl d hd
open Classical in
theorem vk32 : ∀ d, 7 ≤ d → VB d 84 con32 := fun d hd us p r hc hp => by
 have hc0 := hc
 unfold con32 at hc; split at hc
 ·rename_i n b
  exact valid_of_sym (C := ctx cc0 (gAnn n)) (G := GCb) (B := 2) (m := 5) (g := 84) (c := fun us => if us = [.int .i64 n, .dat 27 b] then con32 us else none) rfl rfl rfl (fun d _ => vb0 d) (fun us p r hc hp ht => by
   split at hc
   ·rename_i e; subst e
    cases hc; exact s32 _ _ hp.1.1 hp.1.2 hp.2
   ·cases hc) (fun _ _ => rfl) rfl rfl d hd _ p r (by show (if _ then _ else _) = _; rw [if_pos rfl]; exact hc0) hp
 ·cases hc
theorem vck3 : ∀ d, 7 ≤ d → ∀ g c, ck3 g = some c → VB d g c := fun d hd g c e => by
 unfold ck3 at e
 split at e
 ·cases e; exact vk32 d hd
 ·cases e; exact vk33 d (by omega)
 ·cases e
theorem vk14 : ∀ d, 12 ≤ d → VB d 74 con14 := fun d hd =>
 valid_of_sym (C := ctx ck3 ekAnn) (G := GCb) (B := 7) (m := 5) rfl rfl rfl vck3 (fun us p r hc hp ht => by
  unfold con14 at hc; split at hc
  ·cases hc; exact s14 _ _ _ hp.1.1 hp.1.2 hp.2.1 hp.2.2
  ·cases hc) (fun _ _ => rfl) rfl rfl d hd
theorem vck4 : ∀ d, 12 ≤ d → ∀ g c, ck4 g = some c → VB d g c := fun d hd g c e => by
 unfold ck4 at e
 split at e
 ·cases e; exact vb13 d (by omega)
 ·cases e; exact vk14 d hd
 ·cases e
theorem vk5 : ∀ d, 16 ≤ d → VB d 55 con5 := fun d hd =>
 valid_of_sym (C := ctx ck4 ekAnn) (G := GCb) (B := 12) (m := 4) rfl rfl rfl vck4 (fun us p r hc hp ht => by
  unfold con5 at hc; split at hc
  ·cases hc; exact s5 _ _ _ hp.1 hp.2
  ·cases hc) (fun _ _ => rfl) rfl rfl d hd
theorem vnt1 : ∀ d, 16 ≤ d → ∀ g c, nt1 g = some c → VB d g c := fun d hd g c e => by
 unfold nt1 at e
 split at e
 ·cases e; exact vk5 d hd
 ·cases e
theorem vn16 : ∀ d, 19 ≤ d → VB d 31 con16 := fun d hd =>
 valid_of_sym (C := ctx nt1 ntAnn) (G := GCb) (B := 16) (m := 3) rfl rfl rfl vnt1 (fun us p r hc hp ht => by
  unfold con16 at hc; split at hc
  ·cases hc; exact s16 _ _ hp
  ·cases hc) (fun _ _ => rfl) rfl rfl d hd
theorem vnt2 : ∀ d, 19 ≤ d → ∀ g c, nt2 g = some c → VB d g c := fun d hd g c e => by
 unfold nt2 at e
 split at e
 ·cases e; exact vn16 d hd
 ·cases e
theorem vn7 : ∀ d, 27 ≤ d → VB d 8 con7 := fun d hd =>
 valid_of_sym (C := ctx nt2 ntAnn) (G := GCb) (B := 19) (m := 8) rfl rfl rfl vnt2 (fun us p r hc hp ht => by
  unfold con7 at hc; split at hc
  ·cases hc; exact s7 _ _ hp
  ·cases hc) (fun _ _ => rfl) rfl rfl d hd
theorem vmt2 : ∀ d, 19 ≤ d → ∀ g c, mt2 g = some c → VB d g c := fun d hd g c e => by
 unfold mt2 at e
 split at e
 ·cases e; exact vn16 d (by omega)
 ·cases e
theorem vm26 : ∀ d, 27 ≤ d → VB d 38 con26 := fun d hd =>
 valid_of_sym (C := ctx mt2 mtAnn) (G := GCb) (B := 19) (m := 8) rfl rfl rfl vmt2 (fun us p r hc hp ht => by
  unfold con26 at hc; split at hc
  ·cases hc; exact s26 _ _ hp
  ·cases hc) (fun _ _ => rfl) rfl rfl d hd
theorem vm31 : ∀ d, 5 ≤ d → VB d 39 con31n := fun d hd =>
 valid_of_sym (C := ctx cc0 mtAnn) (G := GCb) (B := 2) (m := 3) rfl rfl rfl (fun d _ => vb0 d) (fun us p r hc hp ht => by
  unfold con31n at hc; split at hc
  ·cases hc; exact s31n _ hp.1 hp.2
  ·cases hc) (fun _ _ => rfl) rfl rfl d hd
theorem vmt3 : ∀ d, 27 ≤ d → ∀ g c, mt3 g = some c → VB d g c := fun d hd g c e => by
 unfold mt3 at e
 split at e
 ·cases e; exact vm26 d (by omega)
 ·cases e; exact vm31 d (by omega)
 ·cases e
theorem vm8 : ∀ d, 30 ≤ d → VB d 11 con8m := fun d hd =>
 valid_of_sym (C := ctx mt3 mtAnn) (G := GCb) (B := 27) (m := 3) rfl rfl rfl vmt3 (fun us p r hc hp ht => by
  unfold con8m at hc; split at hc
  ·cases hc; exact s8m _ _ hp
  ·cases hc) (fun _ _ => rfl) rfl rfl d hd
theorem vm12 : ∀ d, 30 ≤ d → VB d 12 con12m := fun d hd =>
 valid_of_sym (C := ctx mt3 mtAnn) (G := GCb) (B := 27) (m := 3) rfl rfl rfl vmt3 (fun us p r hc hp ht => by
  unfold con12m at hc; split at hc
  ·cases hc; exact s12m _ _ hp
  ·cases hc) (fun _ _ => rfl) rfl rfl d hd
theorem vm14 : ∀ d, 30 ≤ d → VB d 13 con14m := fun d hd =>
 valid_of_sym (C := ctx mt3 mtAnn) (G := GCb) (B := 27) (m := 3) rfl rfl rfl vmt3 (fun us p r hc hp ht => by
  unfold con14m at hc; split at hc
  ·cases hc; exact s14m _ _ hp
  ·cases hc) (fun _ _ => rfl) rfl rfl d hd
theorem vt34 : ∀ d, 5 ≤ d → VB d 37 con34 := fun d hd =>
 valid_of_sym (C := ctx cc0 hasAnn) (G := GCb) (B := 2) (m := 3) rfl rfl rfl (fun d _ => vb0 d) (fun us p r hc hp ht => by
  unfold con34 at hc; split at hc
  ·cases hc; exact s34 _ _ hp
  ·cases hc) (fun _ _ => rfl) rfl rfl d hd
theorem vtg1 : ∀ d, 19 ≤ d → ∀ g c, tg1 g = some c → VB d g c := fun d hd g c e => by
 unfold tg1 at e
 split at e
 ·cases e; exact vn16 d (by omega)
 ·cases e; exact vt34 d (by omega)
 ·cases e
open Classical in
theorem vt13 : ∀ d, 25 ≤ d → VB d 10 con13t := fun d hd us p r hc hp => by
 have hc0 := hc
 unfold con13t at hc; split at hc
 ·rename_i n s a b
  exact valid_of_sym (C := ctx tg1 (togAnn a b)) (G := GCb) (B := 19) (m := 6) (g := 10) (c := fun us => if us = [.int .i64 n, .dat 22 s, .int .i64 a, .int .i64 b] then con13t us else none) rfl rfl rfl vtg1 (fun us p r hc hp ht => by
   split at hc
   ·rename_i e; subst e
    cases hc; exact s13t _ _ _ _ hp
   ·cases hc) (fun _ _ => rfl) rfl rfl d hd _ p r (by show (if _ then _ else _) = _; rw [if_pos rfl]; exact hc0) hp
 ·cases hc
theorem valid_extP {P : Program} {G : Msk} {run : Run} {g : FuncId} {c : Con} (h : Valid P G run g c) : Valid P G run g (extP c) := by
 intro us p r hc hp σ H vs hst hl
 refine h (us.map normV0) p r hc hp σ H vs hst ⟨by simpa using hl.1, fun j v v' hj hj' => ?_⟩
 rw [List.getElem?_map] at hj
 cases ha : us[j]? with
 | none => rw [ha] at hj; cases hj
 | some u =>
  rw [ha] at hj
  simp only [Option.map_some, Option.some.injEq] at hj
  subst hj
  exact normV0_rel (hl.2 j u v' ha hj')
theorem wk44 : ∀ d, 5 ≤ d → VB d 44 con67 := fun d hd =>
 valid_of_sym (C := ctx cc0 emAnn) (G := GCb) (B := 2) (m := 3) rfl rfl rfl (fun d _ => vb0 d) (fun us p r hc hp ht => by
  unfold con67 at hc; split at hc
  ·cases hc; exact s67 _ _ hp
  ·cases hc) (fun _ _ => rfl) rfl rfl d hd
theorem wck1 : ∀ d, 5 ≤ d → ∀ g c, ck1 g = some c → VB d g c := fun d hd g c e => by
 unfold ck1 at e
 split at e
 ·cases e; exact wk44 d (by omega)
 ·cases e
theorem wk18 : ∀ d, 8 ≤ d → VB d 18 con47 := fun d hd =>
 valid_of_sym (C := ctx ck1 emAnn) (G := GCb) (B := 5) (m := 3) rfl rfl rfl wck1 (fun us p r hc hp ht => by
  unfold con47 at hc; split at hc
  ·cases hc; exact s47 _ _ hp
  ·cases hc) (fun _ _ => rfl) rfl rfl d hd
theorem wck2 : ∀ d, 8 ≤ d → ∀ g c, ck2 g = some c → VB d g c := fun d hd g c e => by
 unfold ck2 at e
 split at e
 ·cases e; exact wk18 d (by omega)
 ·cases e
theorem wk15 : ∀ d, 13 ≤ d → VB d 15 con24e := fun d hd =>
 valid_of_sym (C := ctx ck2 emAnn) (G := GCb) (B := 8) (m := 5) rfl rfl rfl wck2 (fun us p r hc hp ht => by
  unfold con24e at hc; split at hc
  ·cases hc; exact s24 _ _ hp
  ·cases hc) (fun _ _ => rfl) rfl rfl d hd
theorem wk4 : ∀ d, 5 ≤ d → VB d 4 con20e := fun d hd =>
 valid_of_sym (C := ctx cc0 emAnn) (G := GCb) (B := 2) (m := 3) rfl rfl rfl (fun d _ => vb0 d) (fun us p r hc hp ht => by
  unfold con20e at hc; split at hc
  ·cases hc; exact s20 _ _ hp.1.1 hp.1.2 hp.2
  ·cases hc) (fun _ _ => rfl) rfl rfl d hd
theorem wk7 : ∀ d, 6 ≤ d → VB d 7 con21e := fun d hd =>
 valid_of_sym (C := ctx cc0 emAnn) (G := GCb) (B := 2) (m := 4) rfl rfl rfl (fun d _ => vb0 d) (fun us p r hc hp ht => by
  unfold con21e at hc; split at hc
  ·cases hc; exact s21 _ hp
  ·cases hc) (fun _ _ => rfl) rfl rfl d hd
theorem wk20 : ∀ d, 5 ≤ d → VB d 20 con19e := fun d hd =>
 valid_of_sym (C := ctx cc0 ebmAnn) (G := GCb) (B := 2) (m := 3) rfl rfl rfl (fun d _ => vb0 d) (fun us p r hc hp ht => by
  unfold con19e at hc; split at hc
  ·cases hc; exact s19 _ _ hp
  ·cases hc) (fun _ _ => rfl) rfl rfl d hd
theorem wk64 : ∀ d, 5 ≤ d → VB d 64 con39 := fun d hd =>
 valid_of_sym (C := ctx cc0 ebmAnn) (G := GCb) (B := 2) (m := 3) rfl rfl rfl (fun d _ => vb0 d) (fun us p r hc hp ht => by
  unfold con39 at hc; split at hc
  ·cases hc; exact s39 _ _ hp
  ·cases hc) (fun _ _ => rfl) rfl rfl d hd
theorem wk77 : ∀ d, 5 ≤ d → VB d 77 con66 := fun d hd =>
 valid_of_sym (C := ctx cc0 emAnn) (G := GCb) (B := 2) (m := 3) rfl rfl rfl (fun d _ => vb0 d) (fun us p r hc hp ht => by
  unfold con66 at hc; split at hc
  ·cases hc; exact s66 _ _ hp
  ·cases hc) (fun _ _ => rfl) rfl rfl d hd
theorem wcm3 : ∀ d, 7 ≤ d → ∀ g c, cm3 g = some c → VB d g c := fun d hd g c e => by
 unfold cm3 at e
 split at e
 ·cases e; exact vk32 d hd
 ·cases e; exact wk77 d (by omega)
 ·cases e
theorem wk65 : ∀ d, 10 ≤ d → VB d 65 con43 := fun d hd =>
 valid_of_sym (C := ctx cm3 emAnn) (G := GCb) (B := 7) (m := 3) rfl rfl rfl wcm3 (fun us p r hc hp ht => by
  unfold con43 at hc; split at hc
  ·cases hc; exact s44 _ _ _ hp.1.1 hp.1.2 hp.2.1 hp.2.2
  ·cases hc) (fun _ _ => rfl) rfl rfl d hd
theorem wcm4 : ∀ d, 12 ≤ d → ∀ g c, cm4 g = some c → VB d g c := fun d hd g c e => by
 unfold cm4 at e
 split at e
 ·cases e; exact vb13 d (by omega)
 ·cases e; exact wk64 d (by omega)
 ·cases e; exact vk14 d hd
 ·cases e; exact wk65 d (by omega)
 ·cases e
theorem wk40 : ∀ d, 16 ≤ d → VB d 40 con5 := fun d hd =>
 valid_of_sym (C := ctx cm4 emAnn) (G := GCb) (B := 12) (m := 4) rfl rfl rfl wcm4 (fun us p r hc hp ht => by
  unfold con5 at hc; split at hc
  ·cases hc; exact s23 _ _ _ hp.1 hp.2
  ·cases hc) (fun _ _ => rfl) rfl rfl d hd
theorem wvv1 : ∀ d, 16 ≤ d → ∀ g c, vv1 g = some c → VB d g c := fun d hd g c e => by
 unfold vv1 at e
 split at e
 ·cases e; exact wk40 d (by omega)
 ·cases e
theorem wk14 : ∀ d, 19 ≤ d → VB d 14 con14e := fun d hd =>
 valid_of_sym (C := ctx vv1 noAnn) (G := GCb) (B := 16) (m := 3) rfl rfl rfl wvv1 (fun us p r hc hp ht => by
  unfold con14e at hc; split at hc
  ·cases hc; exact s14v _ _ hp
  ·cases hc) (fun _ _ => rfl) rfl rfl d hd
theorem wk43 : ∀ d, 5 ≤ d → VB d 43 con43r := fun d hd =>
 valid_of_sym (C := ctx cc0 reAnn) (G := GCb) (B := 2) (m := 3) rfl rfl rfl (fun d _ => vb0 d) (fun us p r hc hp ht => by
  unfold con43r at hc; split at hc
  ·cases hc; exact s43r _ _ hp
  ·cases hc) (fun _ _ => rfl) rfl rfl d hd
theorem wre1 : ∀ d, 5 ≤ d → ∀ g c, re1 g = some c → VB d g c := fun d hd g c e => by
 unfold re1 at e
 split at e
 ·cases e; exact wk43 d (by omega)
 ·cases e
theorem wk17 : ∀ d, 8 ≤ d → VB d 17 con17r := fun d hd =>
 valid_of_sym (C := ctx re1 reAnn) (G := GCb) (B := 5) (m := 3) rfl rfl rfl wre1 (fun us p r hc hp ht => by
  unfold con17r at hc; split at hc
  ·cases hc; exact s17r _ _ _ hp
  ·cases hc) (fun _ _ => rfl) rfl rfl d hd
theorem wre2 : ∀ d, 8 ≤ d → ∀ g c, re2 g = some c → VB d g c := fun d hd g c e => by
 unfold re2 at e
 split at e
 ·cases e; exact wk17 d (by omega)
 ·cases e
theorem wk16 : ∀ d, 11 ≤ d → VB d 16 con16r := fun d hd =>
 valid_of_sym (C := ctx re2 reAnn) (G := GCb) (B := 8) (m := 3) rfl rfl rfl wre2 (fun us p r hc hp ht => by
  unfold con16r at hc; split at hc
  ·cases hc; exact s16r _ _ hp.1 hp.2.1 hp.2.2
  ·cases hc) (fun _ _ => rfl) rfl rfl d hd
theorem wk45 : ∀ d, 5 ≤ d → VB d 45 con45r := fun d hd =>
 valid_of_sym (C := ctx cc0 reAnn) (G := GCb) (B := 2) (m := 3) rfl rfl rfl (fun d _ => vb0 d) (fun us p r hc hp ht => by
  unfold con45r at hc; split at hc
  ·cases hc; exact s45r _ _ _ hp
  ·cases hc) (fun _ _ => rfl) rfl rfl d hd
theorem wre3 : ∀ d, 5 ≤ d → ∀ g c, re3 g = some c → VB d g c := fun d hd g c e => by
 unfold re3 at e
 split at e
 ·cases e; exact wk45 d (by omega)
 ·cases e
theorem wk19 : ∀ d, 8 ≤ d → VB d 19 con19r := fun d hd =>
 valid_of_sym (C := ctx re3 reAnn) (G := GCb) (B := 5) (m := 3) rfl rfl rfl wre3 (fun us p r hc hp ht => by
  unfold con19r at hc; split at hc
  ·cases hc; exact s19r _ _ hp.1 hp.2.1 hp.2.2
  ·cases hc) (fun _ _ => rfl) rfl rfl d hd
theorem wk21 : ∀ d, 5 ≤ d → VB d 21 con21r := fun d hd =>
 valid_of_sym (C := ctx cc0 reAnn) (G := GCb) (B := 2) (m := 3) rfl rfl rfl (fun d _ => vb0 d) (fun us p r hc hp ht => by
  unfold con21r at hc; split at hc
  ·cases hc; exact s21r _ hp
  ·cases hc) (fun _ _ => rfl) rfl rfl d hd
theorem wre4 : ∀ d, 5 ≤ d → ∀ g c, re4 g = some c → VB d g c := fun d hd g c e => by
 unfold re4 at e
 split at e
 ·cases e; exact wk21 d (by omega)
 ·cases e
theorem wk22 : ∀ d, 8 ≤ d → VB d 22 con22r := fun d hd =>
 valid_of_sym (C := ctx re4 reAnn) (G := GCb) (B := 5) (m := 3) rfl rfl rfl wre4 (fun us p r hc hp ht => by
  unfold con22r at hc; split at hc
  ·cases hc; exact s22r _ hp
  ·cases hc) (fun _ _ => rfl) rfl rfl d hd
theorem wk23 : ∀ d, 5 ≤ d → VB d 23 con23r := fun d hd =>
 valid_of_sym (C := ctx cc0 reAnn) (G := GCb) (B := 2) (m := 3) rfl rfl rfl (fun d _ => vb0 d) (fun us p r hc hp ht => by
  unfold con23r at hc; split at hc
  ·cases hc; exact s23r _ hp
  ·cases hc) (fun _ _ => rfl) rfl rfl d hd
theorem wb9 : ∀ d, 27 ≤ d → VB d 9 con9b7 := fun d hd =>
 valid_of_sym (C := ctx mt2 rnbAnn) (G := GCb) (B := 19) (m := 8) rfl rfl rfl vmt2 (fun us p r hc hp ht => by
  unfold con9b7 at hc; split at hc
  ·cases hc; exact s9b7 _ _ hp
  ·cases hc) (fun _ _ => rfl) rfl rfl d hd
theorem wFal (d : Nat) (g : FuncId) : VB d g conFm := fun us p r hc hp => by
 unfold conFm at hc; cases hc; exact hp.elim
theorem wmn1 : ∀ d, 19 ≤ d → ∀ g c, mn1 g = some c → VB d g c := fun d hd g c e => by
 unfold mn1 at e
 split at e
 ·cases e; exact vn16 d (by omega)
 ·cases e; exact wFal d _
 ·cases e; exact wFal d _
 ·cases e; exact wFal d _
 ·cases e
noncomputable def cn8 : Con := fun | [.int .i64 n, .dat 22 s] => some (bigP s ∧ ¬ goodS n s, .dat 26 .nil) | _ => none
theorem wn8 : ∀ d, 22 ≤ d → VB d 8 cn8 := fun d hd =>
 valid_of_sym (C := ctx mn1 nlAnn) (G := GCb) (B := 19) (m := 3) rfl rfl rfl wmn1 (fun us p r hc hp ht => by
  unfold cn8 at hc; split at hc
  ·cases hc; exact s8n _ _ hp.1 hp.2
  ·cases hc) (fun _ _ => rfl) rfl rfl d hd
noncomputable def cn9 : Con := fun | [.int .i64 n, .dat 22 s] => some (bigP s ∧ ¬ goodS n s, .dat 26 .nil) | _ => none
theorem wn9 : ∀ d, 22 ≤ d → VB d 9 cn9 := fun d hd =>
 valid_of_sym (C := ctx mn1 nlAnn) (G := GCb) (B := 19) (m := 3) rfl rfl rfl wmn1 (fun us p r hc hp ht => by
  unfold cn9 at hc; split at hc
  ·cases hc; exact s9n _ _ hp.1 hp.2
  ·cases hc) (fun _ _ => rfl) rfl rfl d hd
noncomputable def cn38 : Con := fun | [.int .i64 n, .dat 22 s] => some (bigP s ∧ ¬ goodS n s, .dat 27 .nil) | _ => none
theorem wn38 : ∀ d, 23 ≤ d → VB d 38 cn38 := fun d hd =>
 valid_of_sym (C := ctx mn1 nlAnn) (G := GCb) (B := 19) (m := 4) rfl rfl rfl wmn1 (fun us p r hc hp ht => by
  unfold cn38 at hc; split at hc
  ·cases hc; exact s38n _ _ hp.1 hp.2
  ·cases hc) (fun _ _ => rfl) rfl rfl d hd
theorem wmn2 : ∀ d, 23 ≤ d → ∀ g c, mn2 g = some c → VB d g c := fun d hd g c e => by
 unfold mn2 at e
 split at e
 ·cases e; exact wn38 d hd
 ·cases e; exact wFal d _
 ·cases e
noncomputable def cn11 : Con := fun | [.int .i64 n, .dat 22 s] => some (bigP s ∧ ¬ goodS n s, .int .i64 0) | _ => none
theorem wn11 : ∀ d, 26 ≤ d → VB d 11 cn11 := fun d hd =>
 valid_of_sym (C := ctx mn2 mtAnn) (G := GCb) (B := 23) (m := 3) rfl rfl rfl wmn2 (fun us p r hc hp ht => by
  unfold cn11 at hc; split at hc
  ·cases hc; exact s11n _ _ hp.1 hp.2
  ·cases hc) (fun _ _ => rfl) rfl rfl d hd
noncomputable def cn12 : Con := fun | [.int .i64 n, .dat 22 s] => some (bigP s ∧ ¬ goodS n s, .int .i64 0) | _ => none
theorem wn12 : ∀ d, 26 ≤ d → VB d 12 cn12 := fun d hd =>
 valid_of_sym (C := ctx mn2 mtAnn) (G := GCb) (B := 23) (m := 3) rfl rfl rfl wmn2 (fun us p r hc hp ht => by
  unfold cn12 at hc; split at hc
  ·cases hc; exact s12n _ _ hp.1 hp.2
  ·cases hc) (fun _ _ => rfl) rfl rfl d hd
noncomputable def cn13 : Con := fun | [.int .i64 n, .dat 22 s] => some (bigP s ∧ ¬ goodS n s, .int .i64 0) | _ => none
theorem wn13 : ∀ d, 26 ≤ d → VB d 13 cn13 := fun d hd =>
 valid_of_sym (C := ctx mn2 mtAnn) (G := GCb) (B := 23) (m := 3) rfl rfl rfl wmn2 (fun us p r hc hp ht => by
  unfold cn13 at hc; split at hc
  ·cases hc; exact s13n _ _ hp.1 hp.2
  ·cases hc) (fun _ _ => rfl) rfl rfl d hd
noncomputable def cn10 : Con := fun | [.int .i64 n, .dat 22 s, .int .i64 _, .int .i64 _] => some (bigP s ∧ ¬ goodS n s, .dat 27 .nil) | _ => none
theorem wn10 : ∀ d, 22 ≤ d → VB d 10 cn10 := fun d hd =>
 valid_of_sym (C := ctx mn1 nlAnn) (G := GCb) (B := 19) (m := 3) rfl rfl rfl wmn1 (fun us p r hc hp ht => by
  unfold cn10 at hc; split at hc
  ·cases hc; exact s10n _ _ _ _ hp.1 hp.2
  ·cases hc) (fun _ _ => rfl) rfl rfl d hd
theorem wa8 : ∀ d, 27 ≤ d → VB d 8 con8a := fun d hd us p r hc hp => by
 unfold con8a at hc; split at hc
 ·rename_i n s
  cases hc
  by_cases h : goodS n s
  ·rw [show meA n s = _ from if_pos h]; exact vn7 d (by omega) [.int .i64 n, .dat 22 s] _ _ rfl h
  ·rw [show meA n s = _ from if_neg h]; exact wn8 d (by omega) [.int .i64 n, .dat 22 s] _ _ rfl ⟨hp, h⟩
 ·cases hc
theorem wa9 : ∀ d, 27 ≤ d → VB d 9 con9a := fun d hd us p r hc hp => by
 unfold con9a at hc; split at hc
 ·rename_i n s
  cases hc
  by_cases h : goodS n s
  ·rw [show beA n s = _ from if_pos h]; exact wb9 d (by omega) [.int .i64 n, .dat 22 s] _ _ rfl h
  ·rw [show beA n s = _ from if_neg h]; exact wn9 d (by omega) [.int .i64 n, .dat 22 s] _ _ rfl ⟨hp, h⟩
 ·cases hc
theorem wa10 : ∀ d, 25 ≤ d → VB d 10 con10e := fun d hd us p r hc hp => by
 unfold con10e at hc; split at hc
 ·rename_i n s a b
  cases hc
  by_cases h : goodS n s
  ·rw [show toA n s a b = _ from if_pos h]; exact vt13 d (by omega) [.int .i64 n, .dat 22 s, .int .i64 a, .int .i64 b] _ _ rfl h
  ·rw [show toA n s a b = _ from if_neg h]; exact wn10 d (by omega) [.int .i64 n, .dat 22 s, .int .i64 a, .int .i64 b] _ _ rfl ⟨hp, h⟩
 ·cases hc
theorem wa11 : ∀ d, 30 ≤ d → VB d 11 con11e := fun d hd us p r hc hp => by
 unfold con11e at hc; split at hc
 ·rename_i n s
  cases hc
  by_cases h : goodS n s
  ·rw [show mxA n s = _ from if_pos h]; exact vm8 d (by omega) [.int .i64 n, .dat 22 s] _ _ rfl h
  ·rw [show mxA n s = _ from if_neg h]; exact wn11 d (by omega) [.int .i64 n, .dat 22 s] _ _ rfl ⟨hp, h⟩
 ·cases hc
theorem wa12 : ∀ d, 30 ≤ d → VB d 12 con12e := fun d hd us p r hc hp => by
 unfold con12e at hc; split at hc
 ·rename_i n s
  cases hc
  by_cases h : goodS n s
  ·rw [show lsA n s = _ from if_pos h]; exact vm12 d (by omega) [.int .i64 n, .dat 22 s] _ _ rfl h
  ·rw [show lsA n s = _ from if_neg h]; exact wn12 d (by omega) [.int .i64 n, .dat 22 s] _ _ rfl ⟨hp, h⟩
 ·cases hc
theorem wa13 : ∀ d, 30 ≤ d → VB d 13 con13e := fun d hd us p r hc hp => by
 unfold con13e at hc; split at hc
 ·rename_i n s
  cases hc
  by_cases h : goodS n s
  ·rw [show stA n s = _ from if_pos h]; exact vm14 d (by omega) [.int .i64 n, .dat 22 s] _ _ rfl h
  ·rw [show stA n s = _ from if_neg h]; exact wn13 d (by omega) [.int .i64 n, .dat 22 s] _ _ rfl ⟨hp, h⟩
 ·cases hc
theorem wms1 : ∀ d, 30 ≤ d → ∀ g c, ms1 g = some c → VB d g c := fun d hd g c e => by
 unfold ms1 at e
 split at e
 ·cases e; exact wk7 d (by omega)
 ·cases e; exact wa8 d (by omega)
 ·cases e; exact wa9 d (by omega)
 ·cases e; exact wa10 d (by omega)
 ·cases e; exact wa11 d (by omega)
 ·cases e; exact wa12 d (by omega)
 ·cases e; exact wa13 d (by omega)
 ·cases e; exact wk14 d (by omega)
 ·cases e; exact wk15 d (by omega)
 ·cases e; exact wk16 d (by omega)
 ·cases e; exact wk17 d (by omega)
 ·cases e; exact wk18 d (by omega)
 ·cases e; exact wk19 d (by omega)
 ·cases e; exact wk20 d (by omega)
 ·cases e; exact wk21 d (by omega)
 ·cases e; exact wk22 d (by omega)
 ·cases e; exact wk23 d (by omega)
 ·cases e
theorem wk5 : ∀ d, 33 ≤ d → VB d 5 con5e := fun d hd =>
 valid_of_sym (C := ctx ms1 noAnn) (G := GCb) (B := 30) (m := 3) rfl rfl rfl wms1 (fun us p r hc hp ht => by
  unfold con5e at hc; split at hc
  ·cases hc; exact s5e _ _ _ _ hp
  ·cases hc) (fun _ _ => rfl) rfl rfl d hd
theorem wms2 : ∀ d, 33 ≤ d → ∀ g c, ms2 g = some c → VB d g c := fun d hd g c e => by
 unfold ms2 at e
 split at e
 ·cases e; exact valid_extP (wk4 d (by omega))
 ·cases e; exact wk5 d (by omega)
 ·cases e
theorem v3e : ∀ d, 36 ≤ d → VB d 3 con3e := fun d hd =>
 valid_of_sym (C := ctx ms2 noAnn) (G := GCb) (B := 33) (m := 3) rfl rfl rfl wms2 (fun us p r hc hp ht => by
  unfold con3e at hc; split at hc
  ·cases hc; exact s3e _ _ _ _ hp
  ·cases hc) (fun _ _ => rfl) rfl rfl d hd
section
variable {P : Program}
theorem ok_rows {f : Nat} {t e : TypeId} {d : D} (hu : P.underlying t = some (.slice e)) (h : okD P (f + 1) t d) : d.len * P.bytesOf e ≤ reachBytes ∧ ∀ i, i < d.len → okD P f e (el d i) := by
 unfold okD at h; rw [hu] at h
 rcases h with rfl | ⟨l, rfl, h0, h⟩
 ·exact ⟨by simp [D.len, D.asList], fun i hi => by simp [D.len, D.asList] at hi⟩
 ·refine ⟨h0.2, fun i hi => h i _ ?_⟩
  have hi : i < l.length := hi
  show l[i]? = some (nthD l i)
  unfold nthD
  rw [List.getElem?_eq_getElem hi]; rfl
end
theorem ok22 {d : D} (h : okD Tryz.prog 20 22 d) : lensP d := ⟨fun i j hi hj => by
 have h1 := (ok_rows Tryz.underlying22 h).2 i hi
 have h2 := (ok_rows Tryz.underlying26 h1).2 j hj
 have h3 := (ok_rows Tryz.underlying27 h2).1
 rw [show Tryz.prog.bytesOf 3 = 8 by kernel_rfl] at h3
 have : reachBytes < 2 ^ 47 := by decide
 omega⟩
end Go.Ev
