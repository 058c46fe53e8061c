/-
  Part of the engine that the claim is proved with: it states nothing of the document by itself.
-/
import Derived.Test.YtenmglepjkflhaaDoorCoreG35
import Derived.Test.YtenmglepjkflhaaDoorCoreNtF
import Derived.Test.YtenmglepjkflhaaDoorCoreAwake
import Derived.Test.YtenmglepjkflhaaDoorCoreKit
import Derived.Test.YtenmglepjkflhaaDoorRows
import Derived.Test.YtenmglepjkflhaaDoorProg
import Derived.Test.YtenmglepjkflhaaDoorCoreEv
import Derived.OpenShut
import Derived.LaidSub
import Derived.MakeChecks

section
open Go.Proofs
namespace Go.Ev
set_option maxRecDepth 100000
noncomputable def GCb : Msk := { bits := GB, fast := false, ora := fun g => cond (Nat.beq g 15) (some (.bool true)) none }
abbrev VB (d : Nat) (g : FuncId) (c : Con) : Prop := Valid Tryd.prog GCb (ev Tryd.prog GCb d) g c
theorem vb0 (d : Nat) : ∀ g c, cc0 g = some c → VB d g c := fun _ _ h => by cases h
theorem vb13 : ∀ d, 5 ≤ d → VB d 24 con13 := fun d hd =>
 valid_of_sym (C := ctx cc0 ebAnn) (G := GCb) (B := 2) (m := 3) rfl rfl rfl (fun d _ => vb0 d) (fun us p r hc hp ht => by
  unfold con13 at hc; split at hc
  ·cases hc; exact s13 _ _ hp.1.1 hp.1.2 hp.2
  ·cases hc) (fun _ _ => rfl) rfl rfl d hd
theorem vk33 : ∀ d, 6 ≤ d → VB d 47 con33 := fun d hd =>
 valid_of_sym (C := ctxj cc0 ekAnn ekJoin) (G := GCb) (B := 2) (m := 4) rfl rfl rfl (fun d _ => vb0 d) (fun us p r hc hp ht => by
  unfold con33 at hc; split at hc
  ·cases hc; exact s33 _ hp
  ·cases hc) (fun _ _ => rfl) rfl rfl d hd
open Classical in
theorem vk32 : ∀ d, 7 ≤ d → VB d 46 con32 := fun d hd us p r hc hp => by
 have hc0 := hc
 unfold con32 at hc; split at hc
 ·rename_i n b
  exact valid_of_sym (C := ctx cc0 (gAnn n)) (G := GCb) (B := 2) (m := 5) (g := 46) (c := fun us => if us = [.int .i64 n, .dat 25 b] then con32 us else none) rfl rfl rfl (fun d _ => vb0 d) (fun us p r hc hp ht => by
   split at hc
   ·rename_i e; subst e
    cases hc; exact s32 _ _ hp.1.1 hp.1.2 hp.2
   ·cases hc) (fun _ _ => rfl) rfl rfl d hd _ p r (by show (if _ then _ else _) = _; rw [if_pos rfl]; exact hc0) hp
 ·cases hc
theorem vck3 : ∀ d, 7 ≤ d → ∀ g c, ck3 g = some c → VB d g c := fun d hd g c e => by
 unfold ck3 at e
 split at e
 ·cases e; exact vk32 d hd
 ·cases e; exact vk33 d (by omega)
 ·cases e
theorem vk14 : ∀ d, 12 ≤ d → VB d 25 con14 := fun d hd =>
 valid_of_sym (C := ctx ck3 ekAnn) (G := GCb) (B := 7) (m := 5) rfl rfl rfl vck3 (fun us p r hc hp ht => by
  unfold con14 at hc; split at hc
  ·cases hc; exact s14 _ _ _ hp.1.1 hp.1.2 hp.2.1 hp.2.2
  ·cases hc) (fun _ _ => rfl) rfl rfl d hd
theorem vck4 : ∀ d, 12 ≤ d → ∀ g c, ck4 g = some c → VB d g c := fun d hd g c e => by
 unfold ck4 at e
 split at e
 ·cases e; exact vb13 d (by omega)
 ·cases e; exact vk14 d hd
 ·cases e
theorem vk5 : ∀ d, 16 ≤ d → VB d 7 con5 := fun d hd =>
 valid_of_sym (C := ctx ck4 ekAnn) (G := GCb) (B := 12) (m := 4) rfl rfl rfl vck4 (fun us p r hc hp ht => by
  unfold con5 at hc; split at hc
  ·cases hc; exact s5 _ _ _ hp.1 hp.2
  ·cases hc) (fun _ _ => rfl) rfl rfl d hd
theorem vnt1 : ∀ d, 16 ≤ d → ∀ g c, nt1 g = some c → VB d g c := fun d hd g c e => by
 unfold nt1 at e
 split at e
 ·cases e; exact vk5 d hd
 ·cases e
theorem vn16 : ∀ d, 19 ≤ d → VB d 28 con16 := fun d hd =>
 valid_of_sym (C := ctx nt1 ntAnn) (G := GCb) (B := 16) (m := 3) rfl rfl rfl vnt1 (fun us p r hc hp ht => by
  unfold con16 at hc; split at hc
  ·cases hc; exact s16 _ _ hp
  ·cases hc) (fun _ _ => rfl) rfl rfl d hd
theorem valid_extP {P : Program} {G : Msk} {run : Run} {g : FuncId} {c : Con} (h : Valid P G run g c) : Valid P G run g (extP c) := by
 intro us p r hc hp σ H vs hst hl
 refine h (us.map normV0) p r hc hp σ H vs hst ⟨by simpa using hl.1, fun j v v' hj hj' => ?_⟩
 rw [List.getElem?_map] at hj
 cases ha : us[j]? with
 | none => rw [ha] at hj; cases hj
 | some u =>
  rw [ha] at hj
  simp only [Option.map_some, Option.some.injEq] at hj
  subst hj
  exact normV0_rel (hl.2 j u v' ha hj')
structure FQ (q p r : Int) : Prop where
 s10 : ∀ a d b, eltP q a → eltP p d → eltP q b → symFun (ctx cc0 noAnn) 3 65 [fieldV q p r, .int .i64 a, .int .i64 d, .int .i64 b] (.int .i64 (plusZ q p a d b))
 s27 : ∀ a, eltP q a → symFun (ctx (cq1 q p r) noAnn) 3 76 [fieldV q p r, .int .i64 a] (.int .i64 (raisedZ q p r a))
 s11 : ∀ a b, eltP q a → eltP q b → symFun (ctx (cq2 q p r) noAnn) 4 58 [fieldV q p r, .int .i64 a, .int .i64 b] (.int .i64 (mulZ q a b))
 one : ∀ a b, eltP q a → eltP q b → plusZ q p a 1 b = addZ q a b
 pp : p = fpZ q ∧ r = frZ q ∧ 1 < p
section
variable {q p r : Int}
theorem vf10 (h : FQ q p r) : ∀ d, 5 ≤ d → VB d 65 (con10 q p r) := fun d hd =>
 valid_of_sym (C := ctx cc0 noAnn) (G := GCb) (B := 2) (m := 3) rfl rfl rfl (fun d _ => vb0 d) (fun us p r hc hp ht => by
  unfold con10 at hc; split at hc
  ·cases hc; obtain ⟨⟨rfl, rfl, rfl⟩, h1, h2, h3⟩ := hp; exact h.s10 _ _ _ h1 h2 h3
  ·cases hc) (fun _ _ => rfl) rfl rfl d hd
theorem vq1 (h : FQ q p r) : ∀ d, 5 ≤ d → ∀ g c, cq1 q p r g = some c → VB d g c := fun d hd g c e => by
 unfold cq1 at e
 split at e
 ·cases e; exact valid_extP (vf10 h d hd)
 ·cases e
theorem vf27 (h : FQ q p r) : ∀ d, 8 ≤ d → VB d 76 (extP (con27 q p r)) := fun d hd => valid_extP (
 valid_of_sym (C := ctx (cq1 q p r) noAnn) (G := GCb) (B := 5) (m := 3) rfl rfl rfl (vq1 h) (fun us p r hc hp ht => by
  unfold con27 at hc; split at hc
  ·cases hc; obtain ⟨⟨rfl, rfl, rfl⟩, h1⟩ := hp; exact h.s27 _ h1
  ·cases hc) (fun _ _ => rfl) rfl rfl d hd)
theorem vq2 (h : FQ q p r) : ∀ d, 8 ≤ d → ∀ g c, cq2 q p r g = some c → VB d g c := fun d hd g c e => by
 unfold cq2 at e
 split at e
 ·cases e; exact vf27 h d hd
 ·cases e; exact valid_extP (vf10 h d (by omega))
 ·cases e
theorem vf11 (h : FQ q p r) : ∀ d, 12 ≤ d → VB d 58 (con11 q p r) := fun d hd =>
 valid_of_sym (C := ctx (cq2 q p r) noAnn) (G := GCb) (B := 8) (m := 4) rfl rfl rfl (vq2 h) (fun us p r hc hp ht => by
  unfold con11 at hc; split at hc
  ·cases hc; obtain ⟨⟨rfl, rfl, rfl⟩, h1, h2⟩ := hp; exact h.s11 _ _ h1 h2
  ·cases hc) (fun _ _ => rfl) rfl rfl d hd
end
theorem fq_of {q : Int} (h : fldP q) : FQ q (fpZ q) (frZ q) := by
 rcases h.out with rfl | rfl | rfl | rfl | rfl | rfl | rfl | rfl | rfl | rfl
 ·exact ⟨s10q2, s27q2, s11q2, one2, by decide⟩
 ·exact ⟨s10q3, s27q3, s11q3, one3, by decide⟩
 ·exact ⟨s10q4, s27q4, s11q4, one4, by decide⟩
 ·exact ⟨s10q5, s27q5, s11q5, one5, by decide⟩
 ·exact ⟨s10q7, s27q7, s11q7, one7, by decide⟩
 ·exact ⟨s10q8, s27q8, s11q8, one8, by decide⟩
 ·exact ⟨s10q9, s27q9, s11q9, one9, by decide⟩
 ·exact ⟨s10q11, s27q11, s11q11, one11, by decide⟩
 ·exact ⟨s10q13, s27q13, s11q13, one13, by decide⟩
 ·exact ⟨s10q16, s27q16, s11q16, one16, by decide⟩
theorem fld_rel {P : Program} {σ : Sig} {ν : Nu} {q p r : Int} {us : List V} {vs : List Value} (h : LRel P σ ν (.agg [.int .i64 q, .int .i64 p, .int .i64 r] :: us) vs) : LRel P σ ν (fieldV q p r :: us) vs := by
 obtain ⟨v, w, rfl, h1, h2⟩ := h.cons_inv
 refine .cons ?_ h2
 cases h1 with
 | agg e1 e2 =>
  rename_i cs
  refine .agg e1 fun j v v' hj hj' => ?_
  have one : ∀ (n : Int) (u : Value), VRel P σ ν (.int .i64 n) u → VRel P σ ν (.val (.int .i64 n)) u := fun n u hu => by cases hu; exact .val rfl
  match j, hj with
  | 0, hj => cases hj; exact one _ _ (e2 0 _ v' rfl hj')
  | 1, hj => cases hj; exact one _ _ (e2 1 _ v' rfl hj')
  | 2, hj => cases hj; exact one _ _ (e2 2 _ v' rfl hj')
  | j + 3, hj => cases hj
theorem vf10a : ∀ d, 5 ≤ d → VB d 65 con10a := fun d hd us p r hc hp σ H vs hst hl => by
 unfold con10a at hc; split at hc
 ·rename_i q pp rr a dd b
  cases hc
  obtain ⟨hf, rfl, rfl, rfl, h1, h2⟩ := hp
  have hq := fq_of hf
  rw [← hq.one a b h1 h2]
  exact vf10 hq d hd (fieldV q (fpZ q) (frZ q) :: [.int .i64 a, .int .i64 1, .int .i64 b]) _ _ rfl ⟨⟨rfl, rfl, rfl⟩, h1, ⟨⟨by decide, hq.pp.2.2⟩, h2⟩⟩ σ H vs hst (fld_rel hl)
 ·cases hc
theorem vf11a : ∀ d, 12 ≤ d → VB d 58 con11a := fun d hd us p r hc hp σ H vs hst hl => by
 unfold con11a at hc; split at hc
 ·rename_i q pp rr a b
  cases hc
  obtain ⟨hf, rfl, rfl, h1, h2⟩ := hp
  have hq := fq_of hf
  exact vf11 hq d hd (fieldV q (fpZ q) (frZ q) :: [.int .i64 a, .int .i64 b]) _ _ rfl ⟨⟨rfl, rfl, rfl⟩, h1, h2⟩ σ H vs hst (fld_rel hl)
 ·cases hc
theorem vf9 : ∀ d, 5 ≤ d → VB d 56 con9 := fun d hd =>
 valid_of_sym (C := ctx cc0 noAnn) (G := GCb) (B := 2) (m := 3) rfl rfl rfl (fun d _ => vb0 d) (fun us p r hc hp ht => by
  unfold con9 at hc; split at hc
  ·cases hc; exact s9 _ hp
  ·cases hc) (fun _ _ => rfl) rfl rfl d hd
section
variable {P : Program}
theorem ok_int {f : Nat} {t : TypeId} {k : IntKind} {d : D} (hu : P.underlying t = some (.int k)) (h : okD P (f + 1) t d) : inR k d.asInt := by
 unfold okD at h; rw [hu] at h
 obtain ⟨n, rfl, hn⟩ := h
 exact hn
end
theorem ok5 {d : D} (h : okD Tryd.prog 20 5 d) : 0 ≤ d.asInt ∧ d.asInt < 256 := ok_int Tryd.underlying5 h
theorem vmt2 : ∀ d, 19 ≤ d → ∀ g c, mt2 g = some c → VB d g c := fun d hd g c e => by
 unfold mt2 at e
 split at e
 ·cases e; exact vn16 d (by omega)
 ·cases e
theorem vm26 : ∀ d, 27 ≤ d → VB d 26 con26 := fun d hd =>
 valid_of_sym (C := ctx mt2 mtAnn) (G := GCb) (B := 19) (m := 8) rfl rfl rfl vmt2 (fun us p r hc hp ht => by
  unfold con26 at hc; split at hc
  ·cases hc; exact s26 _ _ hp
  ·cases hc) (fun _ _ => rfl) rfl rfl d hd
theorem vm31 : ∀ d, 5 ≤ d → VB d 31 con31n := fun d hd =>
 valid_of_sym (C := ctx cc0 mtAnn) (G := GCb) (B := 2) (m := 3) rfl rfl rfl (fun d _ => vb0 d) (fun us p r hc hp ht => by
  unfold con31n at hc; split at hc
  ·cases hc; exact s31n _ hp.1 hp.2
  ·cases hc) (fun _ _ => rfl) rfl rfl d hd
theorem vmt3 : ∀ d, 27 ≤ d → ∀ g c, mt3 g = some c → VB d g c := fun d hd g c e => by
 unfold mt3 at e
 split at e
 ·cases e; exact vm26 d (by omega)
 ·cases e; exact vm31 d (by omega)
 ·cases e
theorem vm8 : ∀ d, 30 ≤ d → VB d 8 con8m := fun d hd =>
 valid_of_sym (C := ctx mt3 mtAnn) (G := GCb) (B := 27) (m := 3) rfl rfl rfl vmt3 (fun us p r hc hp ht => by
  unfold con8m at hc; split at hc
  ·cases hc; exact s8m _ _ hp
  ·cases hc) (fun _ _ => rfl) rfl rfl d hd
theorem vce0 : ∀ d, 5 ≤ d → ∀ g c, ce0 g = some c → VB d g c := fun d hd g c e => by
 unfold ce0 at e
 split at e
 ·cases e; exact vb13 d (by omega)
 ·cases e
theorem vm27 : ∀ d, 9 ≤ d → VB d 27 con38b := fun d hd =>
 valid_of_sym (C := ctx ce0 shAnn) (G := GCb) (B := 5) (m := 4) rfl rfl rfl vce0 (fun us p r hc hp ht => by
  unfold con38b at hc; split at hc
  ·cases hc; exact s27 _ _ hp
  ·cases hc) (fun _ _ => rfl) rfl rfl d hd
theorem vce1 : ∀ d, 9 ≤ d → ∀ g c, ce1 g = some c → VB d g c := fun d hd g c e => by
 unfold ce1 at e
 split at e
 ·cases e; exact vb13 d (by omega)
 ·cases e; exact vm27 d (by omega)
 ·cases e
theorem vm10 : ∀ d, 12 ≤ d → VB d 10 con17b := fun d hd =>
 valid_of_sym (C := ctx ce1 shAnn) (G := GCb) (B := 9) (m := 3) rfl rfl rfl vce1 (fun us p r hc hp ht => by
  unfold con17b at hc; split at hc
  ·cases hc; exact s10b _ _ _ hp
  ·cases hc) (fun _ _ => rfl) rfl rfl d hd
theorem vm16 : ∀ d, 6 ≤ d → VB d 16 con19 := fun d hd =>
 valid_of_sym (C := ctx cc0 prAnn) (G := GCb) (B := 2) (m := 4) rfl rfl rfl (fun d _ => vb0 d) (fun us p r hc hp ht => by
  unfold con19 at hc; split at hc
  ·cases hc; exact s19 _ hp.1 hp.2
  ·cases hc) (fun _ _ => rfl) rfl rfl d hd
theorem vm39 : ∀ d, 5 ≤ d → VB d 39 con39r := fun d hd =>
 valid_of_sym (C := ctx cc0 plAnn) (G := GCb) (B := 2) (m := 3) rfl rfl rfl (fun d _ => vb0 d) (fun us p r hc hp ht => by
  unfold con39r at hc; split at hc
  ·cases hc; exact s39r _ _ hp.1.1 hp.1.2 hp.2.1 hp.2.2
  ·cases hc) (fun _ _ => rfl) rfl rfl d hd
theorem vpl1 : ∀ d, 12 ≤ d → ∀ g c, pl1 g = some c → VB d g c := fun d hd g c e => by
 unfold pl1 at e
 split at e
 ·cases e; exact vf9 d (by omega)
 ·cases e; exact valid_extP (vf10a d (by omega))
 ·cases e; exact vf11a d (by omega)
 ·cases e; exact vm39 d (by omega)
 ·cases e
theorem vm17 : ∀ d, 16 ≤ d → VB d 17 con17p := fun d hd =>
 valid_of_sym (C := ctx pl1 plAnn) (G := GCb) (B := 12) (m := 4) rfl rfl rfl vpl1 (fun us p r hc hp ht => by
  unfold con17p at hc; split at hc
  ·cases hc; exact s17p _ hp
  ·cases hc) (fun _ _ => rfl) rfl rfl d hd
theorem vm18 : ∀ d, 5 ≤ d → VB d 18 con18k := fun d hd =>
 valid_of_sym (C := ctxs cc0 kkAnn) (G := GCb) (B := 2) (m := 3) rfl rfl rfl (fun d _ => vb0 d) (fun us p r hc hp ht => by
  unfold con18k at hc; split at hc
  ·cases hc; exact s18k ()
  ·cases hc) (fun _ _ => rfl) rfl rfl d hd
noncomputable def con38n : Con := fun | [.int .i64 _, .int .i64 q] => some (¬ fldP q, .tup [.dat 24 .nil, .int .i64 90]) | _ => none
noncomputable def con17n : Con := fun | [.int .i64 q] => some (¬ fldP q, .tup [.dat 24 .nil, .int .i64 90]) | _ => none
theorem vFal (d : Nat) (g : FuncId) : VB d g conF := fun us p r hc hp => by
 unfold conF at hc; cases hc; exact hp.elim
theorem vd67 : ∀ d, 5 ≤ d → VB d 67 con67 := fun d hd =>
 valid_of_sym (C := ctx cc0 dsAnn) (G := GCb) (B := 2) (m := 3) rfl rfl rfl (fun d _ => vb0 d) (fun us p r hc hp ht => by
  unfold con67 at hc; split at hc
  ·cases hc; exact s67 _ hp.1 hp.2
  ·cases hc) (fun _ _ => rfl) rfl rfl d hd
theorem vd56n : ∀ d, 5 ≤ d → VB d 56 con56n := fun d hd =>
 valid_of_sym (C := ctx cc0 noAnn) (G := GCb) (B := 2) (m := 3) rfl rfl rfl (fun d _ => vb0 d) (fun us p r hc hp ht => by
  unfold con56n at hc; split at hc
  ·cases hc; exact s56n _ hp
  ·cases hc) (fun _ _ => rfl) rfl rfl d hd
theorem vnf1 : ∀ d, 5 ≤ d → ∀ g c, nf1 g = some c → VB d g c := fun d hd g c e => by
 unfold nf1 at e
 split at e
 ·cases e; exact vd56n d hd
 ·cases e; exact vFal d _
 ·cases e; exact vFal d _
 ·cases e; exact vm39 d hd
 ·cases e
theorem vd38n : ∀ d, 9 ≤ d → VB d 38 con38n := fun d hd =>
 valid_of_sym (C := ctx nf1 nrAnn) (G := GCb) (B := 5) (m := 4) rfl rfl rfl vnf1 (fun us p r hc hp ht => by
  unfold con38n at hc; split at hc
  ·cases hc; exact s38n _ _ hp
  ·cases hc) (fun _ _ => rfl) rfl rfl d hd
theorem vd17n : ∀ d, 10 ≤ d → VB d 17 con17n := fun d hd =>
 valid_of_sym (C := ctx nf1 nrAnn) (G := GCb) (B := 5) (m := 5) rfl rfl rfl vnf1 (fun us p r hc hp ht => by
  unfold con17n at hc; split at hc
  ·cases hc; exact s17n _ hp
  ·cases hc) (fun _ _ => rfl) rfl rfl d hd
theorem vdt3 : ∀ d, 12 ≤ d → ∀ g c, nt3 g = some c → VB d g c := fun d hd g c e => by
 unfold nt3 at e
 split at e
 ·cases e; exact vf9 d (by omega)
 ·cases e; exact valid_extP (vf10a d (by omega))
 ·cases e; exact vf11a d (by omega)
 ·cases e
theorem vd4a : ∀ d, 16 ≤ d → VB d 38 con4a := fun d hd =>
 valid_of_sym (C := ctx nt3 ntAnn) (G := GCb) (B := 12) (m := 4) rfl rfl rfl vdt3 (fun us p r hc hp ht => by
  unfold con4a at hc; split at hc
  ·cases hc; exact s4 _ _ hp.1 hp.2.1 hp.2.2
  ·cases hc) (fun _ _ => rfl) rfl rfl d hd
theorem vd38 : ∀ d, 16 ≤ d → VB d 38 con38a := fun d hd us p r hc hp => by
 unfold con38a at hc; split at hc
 ·rename_i k q
  cases hc
  by_cases hf : fldP q
  ·exact vd4a d hd [.int .i64 k, .int .i64 q] _ _ rfl ⟨hf, hp.1.1, by omega⟩
  ·have h1 : netR k q = .nil := if_neg fun h => hf h.f
   have h2 : netX k q = 90 := if_neg fun h => hf h.f
   rw [h1, h2]
   exact vd38n d (by omega) [.int .i64 k, .int .i64 q] _ _ rfl hf
 ·cases hc
theorem vd17 : ∀ d, 16 ≤ d → VB d 17 con17a := fun d hd us p r hc hp => by
 unfold con17a at hc; split at hc
 ·rename_i q
  cases hc
  by_cases hf : plQ q
  ·have h1 : plR q = .list (plS q.toNat) := if_pos hf
   have h2 : plX q = 0 := if_pos hf
   rw [h1, h2]
   exact vm17 d hd [.int .i64 q] _ _ rfl hf
  ·have h1 : plR q = .nil := if_neg hf
   have h2 : plX q = 90 := if_neg hf
   rw [h1, h2]
   refine vd17n d (by omega) [.int .i64 q] _ _ rfl fun h => hf ?_
   obtain ⟨Q, hQ, rfl⟩ := fld_nat h
   refine ⟨Q, ?_, rfl⟩
   have h8 : Q ≤ 8 := by omega
   unfold qsL at hQ
   unfold plL
   simp only [List.mem_cons, List.not_mem_nil, or_false] at hQ ⊢
   omega
 ·cases hc
theorem vds1 : ∀ d, 16 ≤ d → ∀ g c, ds1 g = some c → VB d g c := fun d hd g c e => by
 unfold ds1 at e
 split at e
 ·cases e; exact vm16 d (by omega)
 ·cases e; exact vd17 d (by omega)
 ·cases e; exact vm18 d (by omega)
 ·cases e; exact vd38 d (by omega)
 ·cases e; exact valid_extP (vm39 d (by omega))
 ·cases e; exact vd67 d (by omega)
 ·cases e
theorem vd19 : ∀ d, 24 ≤ d → VB d 19 con19d := fun d hd =>
 valid_of_sym (C := ctx ds1 dsAnn) (G := GCb) (B := 16) (m := 8) rfl rfl rfl vds1 (fun us p r hc hp ht => by
  unfold con19d at hc; split at hc
  ·cases hc; exact s19d _ _ _ hp.1 hp.2.1 hp.2.2
  ·cases hc) (fun _ _ => rfl) rfl rfl d hd
theorem vd42 : ∀ d, 6 ≤ d → VB d 42 con15 := fun d hd =>
 valid_of_sym (C := ctx cc0 noAnn) (G := GCb) (B := 2) (m := 4) rfl rfl rfl (fun d _ => vb0 d) (fun us p r hc hp ht => by
  unfold con15 at hc; split at hc
  ·cases hc; exact s15 _ _ hp.1.1 hp.1.2 hp.2.1 hp.2.2
  ·cases hc) (fun _ _ => rfl) rfl rfl d hd
theorem vdl1 : ∀ d, 30 ≤ d → ∀ g c, dl1 g = some c → VB d g c := fun d hd g c e => by
 unfold dl1 at e
 split at e
 ·cases e; exact vd19 d (by omega)
 ·cases e; exact valid_extP (vm10 d (by omega))
 ·cases e; exact vk5 d (by omega)
 ·cases e; exact vm8 d (by omega)
 ·cases e; exact valid_extP (vd42 d (by omega))
 ·cases e
theorem v5d : ∀ d, 36 ≤ d → VB d 5 con5d := fun d hd =>
 valid_of_sym (C := ctx dl1 dlAnn) (G := GCb) (B := 30) (m := 6) rfl rfl rfl vdl1 (fun us p r hc hp ht => by
  unfold con5d at hc; split at hc
  ·cases hc; exact s5d _ _ _ hp.1.1 hp.1.2 hp.2.1.1 hp.2.1.2 hp.2.2.1 hp.2.2.2
  ·cases hc) (fun _ _ => rfl) rfl rfl d hd
end Go.Ev

end

section
open Go.Proofs Go.Proofs.YtenmglepjkflhaaDoor
namespace Go.Ev
open Go.ChangeShapes Go.WideShapes Go.ChangeAt Go.RowKit
theorem arr_ints {P : Program} {w : World} {n e : Nat} {k : IntKind} {t : TypeId} {fuel : Nat} {cs : List Value} {zs : List Int} {p : List MemPlace} {enc : TypeId × Value → Unit} {base : Nat} {sp : Nat → Bool} {held : Bool}
  (ht : P.underlying t = some (.array n e)) (he : P.underlying e = some (.int k)) (hc1 : P.cellsOf e = 1) (hct : P.cellsOf t = n)
  (h : DataW.trod enc P w base sp held fuel t cs = some (.agg (zs.map fun z => .lit (.int k z)), p)) : cs = zs.map (Value.int k) := by
 obtain ⟨xs, m, _, ex, hlen, hxl, hel⟩ := DataW.trod_array ht h
 have e3 : (zs.map fun z => (DataW.lit (.int k z) : DataW Unit)) = xs.map (·.1) := DataW.agg.inj (Prod.mk.inj ex).1
 have hzl : zs.length = n := by have := congrArg List.length e3; simp at this; omega
 rw [hct] at hlen
 refine List.ext_getElem? fun i => ?_
 by_cases hi : i < n
 ·have k0 := hel i hi
  rw [hc1, Nat.mul_one, List.getElem?_eq_getElem (by omega : i < xs.length)] at k0
  obtain ⟨z, e1, e2, _⟩ := DataW.trod_int he k0
  have h0 : ((cs.drop i).take 1)[0]? = some (.int k z) := by rw [e1]; rfl
  have h1 : cs[i]? = some (.int k z) := by simpa using h0
  have h2 : (zs.map fun z => (DataW.lit (.int k z) : DataW Unit))[i]? = (xs.map (·.1))[i]? := by rw [e3]
  rw [List.getElem?_map, List.getElem?_map, List.getElem?_eq_getElem (by omega : i < zs.length), List.getElem?_eq_getElem (by omega : i < xs.length), e2] at h2
  simp only [Option.map_some, Option.some.injEq, DataW.lit.injEq, Lit.int.injEq, true_and] at h2
  rw [h1, List.getElem?_map, List.getElem?_eq_getElem (by omega : i < zs.length), Option.map_some, h2]
 ·rw [List.getElem?_eq_none (by omega), List.getElem?_eq_none (by simp; omega)]
def pow10z : List Int := [1, 10, 100, 1000, 10000, 100000, 1000000, 10000000, 100000000, 1000000000, 10000000000, 100000000000, 1000000000000, 10000000000000, 100000000000000, 1000000000000000, 10000000000000000, 100000000000000000, 1000000000000000000, 10000000000000000000]
theorem pow_laid {W : World} (h : laidMetH Tryd.prog Rows.eveningDesignedRow.laid W) : ∃ cs, W.var? Tryd.prog "internal/strconv.uint64pow10" = some cs ∧ cs.toList = pow10s := by
 rw [MakeChecks.laidMetH_plain _ _ _ (by kernel_rfl)] at h
 obtain ⟨ps, hl, _, _⟩ := h
 obtain ⟨_, _, _, _, _, _, _, _, _, _, hl, _⟩ := hl
 obtain ⟨_, _, _, _, _, _, _, _, _, _, hl, _⟩ := hl
 obtain ⟨g, t, cs, fuel, p, q, hg, ht, hv, hd, _, _⟩ := hl
 obtain rfl := Option.some.inj ((show Tryd.prog.globalNamed "internal/strconv.uint64pow10" = some 0 by kernel_rfl).symm.trans hg)
 obtain rfl := Option.some.inj ((show (Tryd.prog.globals[0]?).map (·.type) = some 139 by kernel_rfl).symm.trans ht)
 refine ⟨cs, hv, ?_⟩
 have e : (Rows.laid_internal_strconv_uint64pow10 : DataW Unit) = .agg (pow10z.map fun z => .lit (.int .u64 z)) := by kernel_rfl
 rw [e] at hd
 exact arr_ints (zs := pow10z) (n := 20) (e := 116) Tryd.underlying139 Tryd.underlying116 (by kernel_rfl) (by kernel_rfl) hd
theorem laidG_of {W : World} (hsh : W.ShapedOpen Tryd.prog) (h : laidMetH Tryd.prog Rows.eveningDesignedRow.laid W) : LaidG W := fun x hx => by
 have hx : x = { g := 0, e := 139, cs := pow10s } := List.mem_singleton.1 hx
 subst hx
 refine ⟨by show 0 < 4; omega, by kernel_rfl, ?_⟩
 obtain ⟨cs, hv, hc⟩ := pow_laid h
 have ht : (((begin Tryd.prog (fun _ _ => 0) default).world.heap[0]?).bind Obj.row?).map (·.2) = some 139 := by kernel_rfl
 cases hr : ((begin Tryd.prog (fun _ _ => 0) default).world.heap[0]?).bind Obj.row? with
 | none => rw [hr] at ht; cases ht
 | some y =>
  obtain ⟨zero, t⟩ := y
  rw [hr] at ht
  simp only [Option.map_some, Option.some.injEq] at ht
  subst ht
  obtain ⟨cs', h1, _, _⟩ := hsh.1 0 zero 139 (show 0 < Tryd.prog.globals.size from Nat.le_of_ble_eq_true (by kernel_rfl)) hr
  refine ⟨cs', _, h1, ?_⟩
  have : W.var? Tryd.prog "internal/strconv.uint64pow10" = some cs' := by
   unfold World.var?
   rw [show Tryd.prog.globalNamed "internal/strconv.uint64pow10" = some 0 by kernel_rfl]
   simp only [Option.bind_some, h1]
  rw [hv] at this
  rw [← Option.some.inj this]; exact hc
end Go.Ev

end
