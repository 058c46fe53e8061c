/-
  Part of the engine that the claim is proved with: it states nothing of the document by itself.
-/
import Derived.Test.YtlihfnfigclbmaaDoorCoreEnA
import Derived.Test.YtlihfnfigclbmaaDoorCoreEnC
import Derived.Test.YtlihfnfigclbmaaDoorCoreAwake

section
open Go.Proofs
namespace Go.Ev
set_option maxRecDepth 100000
noncomputable def GC : Msk := { bits := GB, fast := false, ora := fun g => cond (Nat.beq g 9) (some (.bool true)) none }
abbrev VC (d : Nat) (g : FuncId) (c : Con) : Prop := Valid Tryd.prog GC (ev Tryd.prog GC d) g c
theorem vc0 (d : Nat) : ∀ g c, cc0 g = some c → VC d g c := fun _ _ h => by cases h
theorem valid_extP {P : Program} {G : Msk} {run : Run} {g : FuncId} {c : Con} (h : Valid P G run g c) : Valid P G run g (extP c) := by
 intro us p r hc hp σ H vs hst hl
 refine h (us.map normV0) p r hc hp σ H vs hst ⟨by simpa using hl.1, fun j v v' hj hj' => ?_⟩
 rw [List.getElem?_map] at hj
 cases ha : us[j]? with
 | none => rw [ha] at hj; cases hj
 | some u =>
  rw [ha] at hj
  simp only [Option.map_some, Option.some.injEq] at hj
  subst hj
  exact normV0_rel (hl.2 j u v' ha hj')
theorem val_of_int {P : Program} {σ : Sig} {ν : Nu} {k : IntKind} {n : Int} {us : List V} {vs : List Value} (h : LRel P σ ν (.int k n :: us) vs) : LRel P σ ν (.val (.int k n) :: us) vs := by
 refine ⟨h.1, fun j v v' hj hj' => ?_⟩
 cases j with
 | zero =>
  simp only [List.getElem?_cons_zero, Option.some.injEq] at hj
  subst hj
  have := h.2 0 (.int k n) v' rfl hj'
  cases this
  exact .val rfl
 | succ j => exact h.2 (j + 1) v v' (by simpa using hj) hj'
structure FQ (q p r : Int) : Prop where
 s36 : ∀ a d b, eltP q a → eltP p d → eltP q b → symFun (ctx cc0 noAnn) 3 36 [fieldV q p r, .int .i64 a, .int .i64 d, .int .i64 b] (.int .i64 (plusZ q p a d b))
 s58 : ∀ a, eltP q a → symFun (ctx (cq1 q p r) noAnn) 3 58 [fieldV q p r, .int .i64 a] (.int .i64 (raisedZ q p r a))
 s11 : ∀ a b, eltP q a → eltP q b → symFun (ctx (cq1 q p r) noAnn) 3 11 [.val (.int .i64 q), .int .i64 a, .int .i64 b] (.tup [.int .i64 (addZ q a b), .prop True])
 s13 : ∀ a b, eltP q a → eltP q b → symFun (ctx (cq2 q p r) noAnn) 4 13 [.val (.int .i64 q), .int .i64 a, .int .i64 b] (.tup [.int .i64 (mulZ q a b), .prop True])
section
variable {q p r : Int}
theorem v36 (h : FQ q p r) : ∀ d, 5 ≤ d → VC d 36 (extP (con36 q p r)) := fun d hd => valid_extP (
 valid_of_sym (C := ctx cc0 noAnn) (G := GC) (B := 2) (m := 3) rfl rfl rfl (fun d _ => vc0 d) (fun us p r hc hp ht => by
  unfold con36 at hc; split at hc
  ·cases hc; obtain ⟨⟨rfl, rfl, rfl⟩, h1, h2, h3⟩ := hp; exact h.s36 _ _ _ h1 h2 h3
  ·cases hc) (fun _ _ => rfl) rfl rfl d hd)
theorem vq1 (h : FQ q p r) : ∀ d, 5 ≤ d → ∀ g c, cq1 q p r g = some c → VC d g c := fun d hd g c e => by
 unfold cq1 at e
 split at e
 ·cases e; exact v36 h d hd
 ·cases e
theorem v58 (h : FQ q p r) : ∀ d, 8 ≤ d → VC d 58 (extP (con58 q p r)) := fun d hd => valid_extP (
 valid_of_sym (C := ctx (cq1 q p r) noAnn) (G := GC) (B := 5) (m := 3) rfl rfl rfl (vq1 h) (fun us p r hc hp ht => by
  unfold con58 at hc; split at hc
  ·cases hc; obtain ⟨⟨rfl, rfl, rfl⟩, h1⟩ := hp; exact h.s58 _ h1
  ·cases hc) (fun _ _ => rfl) rfl rfl d hd)
theorem vq2 (h : FQ q p r) : ∀ d, 8 ≤ d → ∀ g c, cq2 q p r g = some c → VC d g c := fun d hd g c e => by
 unfold cq2 at e
 split at e
 ·cases e; exact v58 h d hd
 ·cases e; exact v36 h d (by omega)
 ·cases e
theorem v11c (h : FQ q p r) : ∀ d, 8 ≤ d → VC d 11 (con11c q) := fun d hd =>
 valid_of_sym (C := ctx (cq1 q p r) noAnn) (G := GC) (B := 5) (m := 3) rfl rfl rfl (vq1 h) (fun us p r hc hp ht => by
  unfold con11c at hc; split at hc
  ·cases hc; obtain ⟨rfl, h1, h2⟩ := hp; exact h.s11 _ _ h1 h2
  ·cases hc) (fun _ _ => rfl) rfl rfl d hd
theorem v13c (h : FQ q p r) : ∀ d, 12 ≤ d → VC d 13 (con13c q) := fun d hd =>
 valid_of_sym (C := ctx (cq2 q p r) noAnn) (G := GC) (B := 8) (m := 4) rfl rfl rfl (vq2 h) (fun us p r hc hp ht => by
  unfold con13c at hc; split at hc
  ·cases hc; obtain ⟨rfl, h1, h2⟩ := hp; exact h.s13 _ _ h1 h2
  ·cases hc) (fun _ _ => rfl) rfl rfl d hd
end
theorem fq_of {q : Int} (h : fldP q) : ∃ p r, FQ q p r := by
 rcases h.out with rfl | rfl | rfl | rfl | rfl | rfl | rfl | rfl | rfl | rfl
 ·exact ⟨_, _, s36q2, s58q2, s11q2, s13q2⟩
 ·exact ⟨_, _, s36q3, s58q3, s11q3, s13q3⟩
 ·exact ⟨_, _, s36q4, s58q4, s11q4, s13q4⟩
 ·exact ⟨_, _, s36q5, s58q5, s11q5, s13q5⟩
 ·exact ⟨_, _, s36q7, s58q7, s11q7, s13q7⟩
 ·exact ⟨_, _, s36q8, s58q8, s11q8, s13q8⟩
 ·exact ⟨_, _, s36q9, s58q9, s11q9, s13q9⟩
 ·exact ⟨_, _, s36q11, s58q11, s11q11, s13q11⟩
 ·exact ⟨_, _, s36q13, s58q13, s11q13, s13q13⟩
 ·exact ⟨_, _, s36q16, s58q16, s11q16, s13q16⟩
theorem v34 : ∀ d, 5 ≤ d → VC d 34 con34 := fun d hd =>
 valid_of_sym (C := ctx cc0 noAnn) (G := GC) (B := 2) (m := 3) rfl rfl rfl (fun d _ => vc0 d) (fun us p r hc hp ht => by
  unfold con34 at hc; split at hc
  ·cases hc; exact s34 _
  ·cases hc) (fun _ _ => rfl) rfl rfl d hd
theorem v28 : ∀ d, 5 ≤ d → VC d 28 con28 := fun d hd =>
 valid_of_sym (C := ctx cc0 noAnn) (G := GC) (B := 2) (m := 3) rfl rfl rfl (fun d _ => vc0 d) (fun us p r hc hp ht => by
  unfold con28 at hc; split at hc
  ·cases hc; exact s28 _
  ·cases hc) (fun _ _ => rfl) rfl rfl d hd
theorem v54 : ∀ d, 5 ≤ d → VC d 54 con54 := fun d hd =>
 valid_of_sym (C := ctx cc0 rfAnn) (G := GC) (B := 2) (m := 3) rfl rfl rfl (fun d _ => vc0 d) (fun us p r hc hp ht => by
  unfold con54 at hc; split at hc
  ·cases hc; exact s54 _ _ _ hp.1 hp.2.1 hp.2.2
  ·cases hc) (fun _ _ => rfl) rfl rfl d hd
theorem vN4 (d : Nat) (g : FuncId) : VC d g conN4 := fun us p r hc hp => by
 unfold conN4 at hc; split at hc
 ·cases hc; exact hp.elim
 ·cases hc
theorem vN3 (d : Nat) (g : FuncId) : VC d g conN3 := fun us p r hc hp => by
 unfold conN3 at hc; split at hc
 ·cases hc; exact hp.elim
 ·cases hc
theorem vcn1 : ∀ d, 5 ≤ d → ∀ g c, cn1 g = some c → VC d g c := fun d hd g c e => by
 unfold cn1 at e
 split at e
 ·cases e; exact v34 d hd
 ·cases e; exact vN4 d _
 ·cases e; exact vN3 d _
 ·cases e
theorem vcr1 : ∀ d, 5 ≤ d → ∀ g c, cr1 g = some c → VC d g c := fun d hd g c e => by
 unfold cr1 at e
 split at e
 ·cases e; exact v28 d hd
 ·cases e; exact v54 d hd
 ·cases e
theorem v29 : ∀ d, 9 ≤ d → VC d 29 con29 := fun d hd =>
 valid_of_sym (C := ctxj cr1 rfAnn rfJoin) (G := GC) (B := 5) (m := 4) rfl rfl rfl vcr1 (fun us p r hc hp ht => by
  unfold con29 at hc; split at hc
  ·cases hc; exact s29 _ _ _ hp
  ·cases hc) (fun _ _ => rfl) rfl rfl d hd
theorem v30 : ∀ d, 9 ≤ d → VC d 30 con30 := fun d hd =>
 valid_of_sym (C := ctxj cr1 rfAnn rfJoin) (G := GC) (B := 5) (m := 4) rfl rfl rfl vcr1 (fun us p r hc hp ht => by
  unfold con30 at hc; split at hc
  ·cases hc; exact s30 _ _ _ hp
  ·cases hc) (fun _ _ => rfl) rfl rfl d hd
theorem v11n : ∀ d, 8 ≤ d → VC d 11 con11n := fun d hd =>
 valid_of_sym (C := ctx cn1 noAnn) (G := GC) (B := 5) (m := 3) rfl rfl rfl vcn1 (fun us p r hc hp ht => by
  unfold con11n at hc; split at hc
  ·cases hc; exact s11n _ _ _ hp
  ·cases hc) (fun _ _ => rfl) rfl rfl d hd
theorem v13n : ∀ d, 8 ≤ d → VC d 13 con11n := fun d hd =>
 valid_of_sym (C := ctx cn1 noAnn) (G := GC) (B := 5) (m := 3) rfl rfl rfl vcn1 (fun us p r hc hp ht => by
  unfold con11n at hc; split at hc
  ·cases hc; exact s13n _ _ _ hp
  ·cases hc) (fun _ _ => rfl) rfl rfl d hd
theorem v11 : ∀ d, 8 ≤ d → VC d 11 con11 := fun d hd us p r hc hp => by
 unfold con11 at hc; split at hc
 ·rename_i q a b
  cases hc
  by_cases h : okF q a b
  ·obtain ⟨p', r', hF⟩ := fq_of h.f
   have e1 : addA q a b = addZ q a b := by unfold addA; rw [if_pos h]
   rw [e1, eq_true h]
   exact fun σ H vs hst hl => v11c hF d hd [.val (.int .i64 q), .int .i64 a, .int .i64 b] _ _ rfl ⟨rfl, h.a, h.b⟩ σ H vs hst (val_of_int hl)
  ·have e1 : addA q a b = 0 := by unfold addA; rw [if_neg h]
   rw [e1, eq_false h]
   exact v11n d hd [.int .i64 q, .int .i64 a, .int .i64 b] _ _ rfl h
 ·cases hc
theorem v13 : ∀ d, 12 ≤ d → VC d 13 con13 := fun d hd us p r hc hp => by
 unfold con13 at hc; split at hc
 ·rename_i q a b
  cases hc
  by_cases h : okF q a b
  ·obtain ⟨p', r', hF⟩ := fq_of h.f
   have e1 : mulA q a b = mulZ q a b := by unfold mulA; rw [if_pos h]
   rw [e1, eq_true h]
   exact fun σ H vs hst hl => v13c hF d hd [.val (.int .i64 q), .int .i64 a, .int .i64 b] _ _ rfl ⟨rfl, h.a, h.b⟩ σ H vs hst (val_of_int hl)
  ·have e1 : mulA q a b = 0 := by unfold mulA; rw [if_neg h]
   rw [e1, eq_false h]
   exact v13n d (by omega) [.int .i64 q, .int .i64 a, .int .i64 b] _ _ rfl h
 ·cases hc
theorem vcf1 : ∀ d, 12 ≤ d → ∀ g c, cf1 g = some c → VC d g c := fun d hd g c e => by
 unfold cf1 at e
 split at e
 ·cases e; exact v28 d (by omega)
 ·cases e; exact v29 d (by omega)
 ·cases e; exact v30 d (by omega)
 ·cases e; exact valid_extP (v11 d (by omega))
 ·cases e; exact valid_extP (v13 d (by omega))
 ·cases e
theorem v8 : ∀ d, 15 ≤ d → VC d 8 con8 := fun d hd =>
 valid_of_sym (C := ctx cf1 noAnn) (G := GC) (B := 12) (m := 3) rfl rfl rfl vcf1 (fun us p r hc hp ht => by
  unfold con8 at hc; split at hc
  ·cases hc; exact s8 _ _ _
  ·cases hc) (fun _ _ => rfl) rfl rfl d hd
theorem vcf2 : ∀ d, 15 ≤ d → ∀ g c, cf2 g = some c → VC d g c := fun d hd g c e => by
 unfold cf2 at e
 split at e
 ·cases e; exact v8 d (by omega)
 ·cases e
end Go.Ev

end

section
open Go.Proofs
namespace Go.Ev
set_option maxRecDepth 100000
set_option maxHeartbeats 4000000
theorem vc3 : ∀ (q a b : Int), symFun (ctx cf2 noAnn) (3 : Nat) (3 : FuncId) [V.int IntKind.i64 q, V.int IntKind.i64 a, V.int IntKind.i64 b] (V.prop True) = (True ∧ (True → (true = true ↔ True)) ∧
 ((True → False) → (false = true ↔ True))) := by intros; kernel_rfl
theorem sl3 (q a b : Int) : symFun (ctx cf2 noAnn) 3 3 [.int .i64 q, .int .i64 a, .int .i64 b] (.prop True) := by
 rw [vc3]; exact ⟨trivial, fun _ => iff_of_true rfl trivial, fun h => absurd trivial h⟩
theorem vc4 : ∀ (f x y z : Int), symFun (ctxj cf1 axAnn axJoin) (4 : Nat) (4 : FuncId) [V.int IntKind.u8 f, V.int IntKind.u8 x, V.int IntKind.u8 y, V.int IntKind.u8 z] (V.prop True) = (((10 : Int) =
 (0 : Int) → False) ∧ (0 : Int) ≤ f.tmod (10 : Int) ∧ f.tmod (10 : Int) < (↑(10 : Nat) : Int) ∧ (f.tmod (10 : Int)).toNat < [D.int (2 : Int), D.int (3 : Int), D.int (4 : Int), D.int (5 : Int), D.int (7
 : Int), D.int (8 : Int), D.int (9 : Int), D.int (11 : Int), D.int (13 : Int), D.int (16 : Int)].length ∧ (qL (f.tmod (10 : Int)).toNat = (0 : Int) → False) ∧ (qL (f.tmod (10 : Int)).toNat = (0 : Int)
 → False) ∧ (qL (f.tmod (10 : Int)).toNat = (0 : Int) → False) ∧ (True ∧ ((okF (qL (f.tmod (10 : Int)).toNat) (eZ y (f.tmod (10 : Int)).toNat) (eZ z (f.tmod (10 : Int)).toNat) → ((0 : Int) ≤ addA (qL
 (f.tmod (10 : Int)).toNat) (eZ y (f.tmod (10 : Int)).toNat) (eZ z (f.tmod (10 : Int)).toNat) → ∃ (_ : Unit), True ∧ True ∧ ((addA (qL (f.tmod (10 : Int)).toNat) (eZ y (f.tmod (10 : Int)).toNat) (eZ z
 (f.tmod (10 : Int)).toNat) < qL (f.tmod (10 : Int)).toNat ↔ True) ∧ True) ∧ True) ∧ (((0 : Int) ≤ addA (qL (f.tmod (10 : Int)).toNat) (eZ y (f.tmod (10 : Int)).toNat) (eZ z (f.tmod (10 : Int)).toNat)
 → False) → ∃ (_ : Unit), True ∧ True ∧ ((false = true ↔ True) ∧ True) ∧ True)) ∧ ((okF (qL (f.tmod (10 : Int)).toNat) (eZ y (f.tmod (10 : Int)).toNat) (eZ z (f.tmod (10 : Int)).toNat) → False) → ∃ (x
 : Unit), True ∧ True ∧ ((false = true ↔ True) ∧ True) ∧ True)) ∧ ∀ (_ : Unit), True → True ∧ ((True → (okF (qL (f.tmod (10 : Int)).toNat) (eZ x (f.tmod (10 : Int)).toNat) (addA (qL (f.tmod (10 :
 Int)).toNat) (eZ y (f.tmod (10 : Int)).toNat) (eZ z (f.tmod (10 : Int)).toNat)) → ((0 : Int) ≤ addA (qL (f.tmod (10 : Int)).toNat) (eZ x (f.tmod (10 : Int)).toNat) (addA (qL (f.tmod (10 : Int)).toNat)
 (eZ y (f.tmod (10 : Int)).toNat) (eZ z (f.tmod (10 : Int)).toNat)) → ∃ (_ : Unit), True ∧ True ∧ ((addA (qL (f.tmod (10 : Int)).toNat) (eZ x (f.tmod (10 : Int)).toNat) (addA (qL (f.tmod (10 :
 Int)).toNat) (eZ y (f.tmod (10 : Int)).toNat) (eZ z (f.tmod (10 : Int)).toNat)) < qL (f.tmod (10 : Int)).toNat ↔ True) ∧ True) ∧ True) ∧ (((0 : Int) ≤ addA (qL (f.tmod (10 : Int)).toNat) (eZ x (f.tmod
 (10 : Int)).toNat) (addA (qL (f.tmod (10 : Int)).toNat) (eZ y (f.tmod (10 : Int)).toNat) (eZ z (f.tmod (10 : Int)).toNat)) → False) → ∃ (_ : Unit), True ∧ True ∧ ((false = true ↔ True) ∧ True) ∧
 True)) ∧ ((okF (qL (f.tmod (10 : Int)).toNat) (eZ x (f.tmod (10 : Int)).toNat) (addA (qL (f.tmod (10 : Int)).toNat) (eZ y (f.tmod (10 : Int)).toNat) (eZ z (f.tmod (10 : Int)).toNat)) → False) → ∃ (x :
 Unit), True ∧ True ∧ ((false = true ↔ True) ∧ True) ∧ True)) ∧ ((True → False) → ∃ (_ : Unit), True ∧ True ∧ ((false = true ↔ True) ∧ True) ∧ True)) ∧ ∀ (_ : Unit), True → True ∧ ((True → (okF (qL
 (f.tmod (10 : Int)).toNat) (eZ x (f.tmod (10 : Int)).toNat) (eZ y (f.tmod (10 : Int)).toNat) → ((0 : Int) ≤ addA (qL (f.tmod (10 : Int)).toNat) (eZ x (f.tmod (10 : Int)).toNat) (eZ y (f.tmod (10 :
 Int)).toNat) → ∃ (_ : Unit), True ∧ True ∧ ((addA (qL (f.tmod (10 : Int)).toNat) (eZ x (f.tmod (10 : Int)).toNat) (eZ y (f.tmod (10 : Int)).toNat) < qL (f.tmod (10 : Int)).toNat ↔ True) ∧ True) ∧
 True) ∧ (((0 : Int) ≤ addA (qL (f.tmod (10 : Int)).toNat) (eZ x (f.tmod (10 : Int)).toNat) (eZ y (f.tmod (10 : Int)).toNat) → False) → ∃ (_ : Unit), True ∧ True ∧ ((false = true ↔ True) ∧ True) ∧
 True)) ∧ ((okF (qL (f.tmod (10 : Int)).toNat) (eZ x (f.tmod (10 : Int)).toNat) (eZ y (f.tmod (10 : Int)).toNat) → False) → ∃ (_ : Unit), True ∧ True ∧ ((false = true ↔ True) ∧ True) ∧ True)) ∧ ((True
 → False) → ∃ (_ : Unit), True ∧ True ∧ ((false = true ↔ True) ∧ True) ∧ True)) ∧ ∀ (_ : Unit), True → True ∧ ((True → (okF (qL (f.tmod (10 : Int)).toNat) (addA (qL (f.tmod (10 : Int)).toNat) (eZ x
 (f.tmod (10 : Int)).toNat) (eZ y (f.tmod (10 : Int)).toNat)) (eZ z (f.tmod (10 : Int)).toNat) → ((0 : Int) ≤ addA (qL (f.tmod (10 : Int)).toNat) (addA (qL (f.tmod (10 : Int)).toNat) (eZ x (f.tmod (10
 : Int)).toNat) (eZ y (f.tmod (10 : Int)).toNat)) (eZ z (f.tmod (10 : Int)).toNat) → ∃ (_ : Unit), True ∧ True ∧ ((addA (qL (f.tmod (10 : Int)).toNat) (addA (qL (f.tmod (10 : Int)).toNat) (eZ x
 (f.tmod (10 : Int)).toNat) (eZ y (f.tmod (10 : Int)).toNat)) (eZ z (f.tmod (10 : Int)).toNat) < qL (f.tmod (10 : Int)).toNat ↔ True) ∧ True) ∧ True) ∧ (((0 : Int) ≤ addA (qL (f.tmod (10 : Int)).toNat)
 (addA (qL (f.tmod (10 : Int)).toNat) (eZ x (f.tmod (10 : Int)).toNat) (eZ y (f.tmod (10 : Int)).toNat)) (eZ z (f.tmod (10 : Int)).toNat) → False) → ∃ (_ : Unit), True ∧ True ∧ ((false = true ↔ True) ∧
 True) ∧ True)) ∧ ((okF (qL (f.tmod (10 : Int)).toNat) (addA (qL (f.tmod (10 : Int)).toNat) (eZ x (f.tmod (10 : Int)).toNat) (eZ y (f.tmod (10 : Int)).toNat)) (eZ z (f.tmod (10 : Int)).toNat) → False)
 → ∃ (_ : Unit), True ∧ True ∧ ((false = true ↔ True) ∧ True) ∧ True)) ∧ ((True → False) → ∃ (_ : Unit), True ∧ True ∧ ((false = true ↔ True) ∧ True) ∧ True)) ∧ ∀ (_ : Unit), True → (addA (qL (f.tmod
 (10 : Int)).toNat) (eZ x (f.tmod (10 : Int)).toNat) (addA (qL (f.tmod (10 : Int)).toNat) (eZ y (f.tmod (10 : Int)).toNat) (eZ z (f.tmod (10 : Int)).toNat)) = addA (qL (f.tmod (10 : Int)).toNat) (addA
 (qL (f.tmod (10 : Int)).toNat) (eZ x (f.tmod (10 : Int)).toNat) (eZ y (f.tmod (10 : Int)).toNat)) (eZ z (f.tmod (10 : Int)).toNat) → True ∧ ((True → (okF (qL (f.tmod (10 : Int)).toNat) (eZ y (f.tmod
 (10 : Int)).toNat) (eZ z (f.tmod (10 : Int)).toNat) → ((0 : Int) ≤ mulA (qL (f.tmod (10 : Int)).toNat) (eZ y (f.tmod (10 : Int)).toNat) (eZ z (f.tmod (10 : Int)).toNat) → ∃ (_ : Unit), True ∧ True ∧
 ((mulA (qL (f.tmod (10 : Int)).toNat) (eZ y (f.tmod (10 : Int)).toNat) (eZ z (f.tmod (10 : Int)).toNat) < qL (f.tmod (10 : Int)).toNat ↔ True) ∧ True) ∧ True) ∧ (((0 : Int) ≤ mulA (qL (f.tmod (10 :
 Int)).toNat) (eZ y (f.tmod (10 : Int)).toNat) (eZ z (f.tmod (10 : Int)).toNat) → False) → ∃ (_ : Unit), True ∧ True ∧ ((false = true ↔ True) ∧ True) ∧ True)) ∧ ((okF (qL (f.tmod (10 : Int)).toNat) (eZ
 y (f.tmod (10 : Int)).toNat) (eZ z (f.tmod (10 : Int)).toNat) → False) → ∃ (_ : Unit), True ∧ True ∧ ((false = true ↔ True) ∧ True) ∧ True)) ∧ ((True → False) → ∃ (_ : Unit), True ∧ True ∧ ((false =
 true ↔ True) ∧ True) ∧ True)) ∧ ∀ (_ : Unit), True → True ∧ ((True → (okF (qL (f.tmod (10 : Int)).toNat) (eZ x (f.tmod (10 : Int)).toNat) (mulA (qL (f.tmod (10 : Int)).toNat) (eZ y (f.tmod (10 :
 Int)).toNat) (eZ z (f.tmod (10 : Int)).toNat)) → ((0 : Int) ≤ mulA (qL (f.tmod (10 : Int)).toNat) (eZ x (f.tmod (10 : Int)).toNat) (mulA (qL (f.tmod (10 : Int)).toNat) (eZ y (f.tmod (10 : Int)).toNat)
 (eZ z (f.tmod (10 : Int)).toNat)) → ∃ (_ : Unit), True ∧ True ∧ ((mulA (qL (f.tmod (10 : Int)).toNat) (eZ x (f.tmod (10 : Int)).toNat) (mulA (qL (f.tmod (10 : Int)).toNat) (eZ y (f.tmod (10 :
 Int)).toNat) (eZ z (f.tmod (10 : Int)).toNat)) < qL (f.tmod (10 : Int)).toNat ↔ True) ∧ True) ∧ True) ∧ (((0 : Int) ≤ mulA (qL (f.tmod (10 : Int)).toNat) (eZ x (f.tmod (10 : Int)).toNat) (mulA (qL
 (f.tmod (10 : Int)).toNat) (eZ y (f.tmod (10 : Int)).toNat) (eZ z (f.tmod (10 : Int)).toNat)) → False) → ∃ (_ : Unit), True ∧ True ∧ ((false = true ↔ True) ∧ True) ∧ True)) ∧ ((okF (qL (f.tmod (10 :
 Int)).toNat) (eZ x (f.tmod (10 : Int)).toNat) (mulA (qL (f.tmod (10 : Int)).toNat) (eZ y (f.tmod (10 : Int)).toNat) (eZ z (f.tmod (10 : Int)).toNat)) → False) → ∃ (_ : Unit), True ∧ True ∧ ((false =
 true ↔ True) ∧ True) ∧ True)) ∧ ((True → False) → ∃ (_ : Unit), True ∧ True ∧ ((false = true ↔ True) ∧ True) ∧ True)) ∧ ∀ (_ : Unit), True → True ∧ ((True → (okF (qL (f.tmod (10 : Int)).toNat) (eZ x
 (f.tmod (10 : Int)).toNat) (eZ y (f.tmod (10 : Int)).toNat) → ((0 : Int) ≤ mulA (qL (f.tmod (10 : Int)).toNat) (eZ x (f.tmod (10 : Int)).toNat) (eZ y (f.tmod (10 : Int)).toNat) → ∃ (_ : Unit), True
 ∧ True ∧ ((mulA (qL (f.tmod (10 : Int)).toNat) (eZ x (f.tmod (10 : Int)).toNat) (eZ y (f.tmod (10 : Int)).toNat) < qL (f.tmod (10 : Int)).toNat ↔ True) ∧ True) ∧ True) ∧ (((0 : Int) ≤ mulA (qL (f.tmod
 (10 : Int)).toNat) (eZ x (f.tmod (10 : Int)).toNat) (eZ y (f.tmod (10 : Int)).toNat) → False) → ∃ (_ : Unit), True ∧ True ∧ ((false = true ↔ True) ∧ True) ∧ True)) ∧ ((okF (qL (f.tmod (10 :
 Int)).toNat) (eZ x (f.tmod (10 : Int)).toNat) (eZ y (f.tmod (10 : Int)).toNat) → False) → ∃ (_ : Unit), True ∧ True ∧ ((false = true ↔ True) ∧ True) ∧ True)) ∧ ((True → False) → ∃ (_ : Unit), True ∧
 True ∧ ((false = true ↔ True) ∧ True) ∧ True)) ∧ ∀ (_ : Unit), True → True ∧ ((True → (okF (qL (f.tmod (10 : Int)).toNat) (mulA (qL (f.tmod (10 : Int)).toNat) (eZ x (f.tmod (10 : Int)).toNat) (eZ y
 (f.tmod (10 : Int)).toNat)) (eZ z (f.tmod (10 : Int)).toNat) → ((0 : Int) ≤ mulA (qL (f.tmod (10 : Int)).toNat) (mulA (qL (f.tmod (10 : Int)).toNat) (eZ x (f.tmod (10 : Int)).toNat) (eZ y (f.tmod (10
 : Int)).toNat)) (eZ z (f.tmod (10 : Int)).toNat) → ∃ (_ : Unit), True ∧ True ∧ ((mulA (qL (f.tmod (10 : Int)).toNat) (mulA (qL (f.tmod (10 : Int)).toNat) (eZ x (f.tmod (10 : Int)).toNat) (eZ y
 (f.tmod (10 : Int)).toNat)) (eZ z (f.tmod (10 : Int)).toNat) < qL (f.tmod (10 : Int)).toNat ↔ True) ∧ True) ∧ True) ∧ (((0 : Int) ≤ mulA (qL (f.tmod (10 : Int)).toNat) (mulA (qL (f.tmod (10 :
 Int)).toNat) (eZ x (f.tmod (10 : Int)).toNat) (eZ y (f.tmod (10 : Int)).toNat)) (eZ z (f.tmod (10 : Int)).toNat) → False) → ∃ (_ : Unit), True ∧ True ∧ ((false = true ↔ True) ∧ True) ∧ True)) ∧ ((okF
 (qL (f.tmod (10 : Int)).toNat) (mulA (qL (f.tmod (10 : Int)).toNat) (eZ x (f.tmod (10 : Int)).toNat) (eZ y (f.tmod (10 : Int)).toNat)) (eZ z (f.tmod (10 : Int)).toNat) → False) → ∃ (_ : Unit), True ∧
 True ∧ ((false = true ↔ True) ∧ True) ∧ True)) ∧ ((True → False) → ∃ (_ : Unit), True ∧ True ∧ ((false = true ↔ True) ∧ True) ∧ True)) ∧ ∀ (_ : Unit), True → (mulA (qL (f.tmod (10 : Int)).toNat) (eZ
 x (f.tmod (10 : Int)).toNat) (mulA (qL (f.tmod (10 : Int)).toNat) (eZ y (f.tmod (10 : Int)).toNat) (eZ z (f.tmod (10 : Int)).toNat)) = mulA (qL (f.tmod (10 : Int)).toNat) (mulA (qL (f.tmod (10 :
 Int)).toNat) (eZ x (f.tmod (10 : Int)).toNat) (eZ y (f.tmod (10 : Int)).toNat)) (eZ z (f.tmod (10 : Int)).toNat) → True ∧ ((True → (okF (qL (f.tmod (10 : Int)).toNat) (eZ x (f.tmod (10 : Int)).toNat)
 (eZ y (f.tmod (10 : Int)).toNat) → ((0 : Int) ≤ addA (qL (f.tmod (10 : Int)).toNat) (eZ x (f.tmod (10 : Int)).toNat) (eZ y (f.tmod (10 : Int)).toNat) → ∃ (_ : Unit), True ∧ True ∧ ((addA (qL (f.tmod
 (10 : Int)).toNat) (eZ x (f.tmod (10 : Int)).toNat) (eZ y (f.tmod (10 : Int)).toNat) < qL (f.tmod (10 : Int)).toNat ↔ True) ∧ True) ∧ True) ∧ (((0 : Int) ≤ addA (qL (f.tmod (10 : Int)).toNat) (eZ x
 (f.tmod (10 : Int)).toNat) (eZ y (f.tmod (10 : Int)).toNat) → False) → ∃ (_ : Unit), True ∧ True ∧ ((false = true ↔ True) ∧ True) ∧ True)) ∧ ((okF (qL (f.tmod (10 : Int)).toNat) (eZ x (f.tmod (10 :
 Int)).toNat) (eZ y (f.tmod (10 : Int)).toNat) → False) → ∃ (_ : Unit), True ∧ True ∧ ((false = true ↔ True) ∧ True) ∧ True)) ∧ ((True → False) → ∃ (_ : Unit), True ∧ True ∧ ((false = true ↔ True) ∧
 True) ∧ True)) ∧ ∀ (_ : Unit), True → True ∧ ((True → (okF (qL (f.tmod (10 : Int)).toNat) (eZ y (f.tmod (10 : Int)).toNat) (eZ x (f.tmod (10 : Int)).toNat) → ((0 : Int) ≤ addA (qL (f.tmod (10 :
 Int)).toNat) (eZ y (f.tmod (10 : Int)).toNat) (eZ x (f.tmod (10 : Int)).toNat) → ∃ (_ : Unit), True ∧ True ∧ ((addA (qL (f.tmod (10 : Int)).toNat) (eZ y (f.tmod (10 : Int)).toNat) (eZ x (f.tmod (10
 : Int)).toNat) < qL (f.tmod (10 : Int)).toNat ↔ True) ∧ True) ∧ True) ∧ (((0 : Int) ≤ addA (qL (f.tmod (10 : Int)).toNat) (eZ y (f.tmod (10 : Int)).toNat) (eZ x (f.tmod (10 : Int)).toNat) → False) → ∃
 (x : Unit), True ∧ True ∧ ((false = true ↔ True) ∧ True) ∧ True)) ∧ ((okF (qL (f.tmod (10 : Int)).toNat) (eZ y (f.tmod (10 : Int)).toNat) (eZ x (f.tmod (10 : Int)).toNat) → False) → ∃ (_ : Unit), True
 ∧ True ∧ ((false = true ↔ True) ∧ True) ∧ True)) ∧ ((True → False) → ∃ (_ : Unit), True ∧ True ∧ ((false = true ↔ True) ∧ True) ∧ True)) ∧ ∀ (_ : Unit), True → (addA (qL (f.tmod (10 : Int)).toNat)
 (eZ x (f.tmod (10 : Int)).toNat) (eZ y (f.tmod (10 : Int)).toNat) = addA (qL (f.tmod (10 : Int)).toNat) (eZ y (f.tmod (10 : Int)).toNat) (eZ x (f.tmod (10 : Int)).toNat) → True ∧ ((True → (okF (qL
 (f.tmod (10 : Int)).toNat) (eZ x (f.tmod (10 : Int)).toNat) (eZ y (f.tmod (10 : Int)).toNat) → ((0 : Int) ≤ mulA (qL (f.tmod (10 : Int)).toNat) (eZ x (f.tmod (10 : Int)).toNat) (eZ y (f.tmod (10 :
 Int)).toNat) → ∃ (_ : Unit), True ∧ True ∧ ((mulA (qL (f.tmod (10 : Int)).toNat) (eZ x (f.tmod (10 : Int)).toNat) (eZ y (f.tmod (10 : Int)).toNat) < qL (f.tmod (10 : Int)).toNat ↔ True) ∧ True) ∧
 True) ∧ (((0 : Int) ≤ mulA (qL (f.tmod (10 : Int)).toNat) (eZ x (f.tmod (10 : Int)).toNat) (eZ y (f.tmod (10 : Int)).toNat) → False) → ∃ (_ : Unit), True ∧ True ∧ ((false = true ↔ True) ∧ True) ∧
 True)) ∧ ((okF (qL (f.tmod (10 : Int)).toNat) (eZ x (f.tmod (10 : Int)).toNat) (eZ y (f.tmod (10 : Int)).toNat) → False) → ∃ (_ : Unit), True ∧ True ∧ ((false = true ↔ True) ∧ True) ∧ True)) ∧ ((True
 → False) → ∃ (_ : Unit), True ∧ True ∧ ((false = true ↔ True) ∧ True) ∧ True)) ∧ ∀ (_ : Unit), True → True ∧ ((True → (okF (qL (f.tmod (10 : Int)).toNat) (eZ y (f.tmod (10 : Int)).toNat) (eZ x
 (f.tmod (10 : Int)).toNat) → ((0 : Int) ≤ mulA (qL (f.tmod (10 : Int)).toNat) (eZ y (f.tmod (10 : Int)).toNat) (eZ x (f.tmod (10 : Int)).toNat) → ∃ (_ : Unit), True ∧ True ∧ ((mulA (qL (f.tmod (10
 : Int)).toNat) (eZ y (f.tmod (10 : Int)).toNat) (eZ x (f.tmod (10 : Int)).toNat) < qL (f.tmod (10 : Int)).toNat ↔ True) ∧ True) ∧ True) ∧ (((0 : Int) ≤ mulA (qL (f.tmod (10 : Int)).toNat) (eZ y
 (f.tmod (10 : Int)).toNat) (eZ x (f.tmod (10 : Int)).toNat) → False) → ∃ (_ : Unit), True ∧ True ∧ ((false = true ↔ True) ∧ True) ∧ True)) ∧ ((okF (qL (f.tmod (10 : Int)).toNat) (eZ y (f.tmod (10 :
 Int)).toNat) (eZ x (f.tmod (10 : Int)).toNat) → False) → ∃ (_ : Unit), True ∧ True ∧ ((false = true ↔ True) ∧ True) ∧ True)) ∧ ((True → False) → ∃ (_ : Unit), True ∧ True ∧ ((false = true ↔ True) ∧
 True) ∧ True)) ∧ ∀ (_ : Unit), True → (mulA (qL (f.tmod (10 : Int)).toNat) (eZ x (f.tmod (10 : Int)).toNat) (eZ y (f.tmod (10 : Int)).toNat) = mulA (qL (f.tmod (10 : Int)).toNat) (eZ y (f.tmod (10
 : Int)).toNat) (eZ x (f.tmod (10 : Int)).toNat) → True ∧ ((True → (okF (qL (f.tmod (10 : Int)).toNat) (eZ y (f.tmod (10 : Int)).toNat) (eZ z (f.tmod (10 : Int)).toNat) → ((0 : Int) ≤ addA (qL (f.tmod
 (10 : Int)).toNat) (eZ y (f.tmod (10 : Int)).toNat) (eZ z (f.tmod (10 : Int)).toNat) → ∃ (_ : Unit), True ∧ True ∧ ((addA (qL (f.tmod (10 : Int)).toNat) (eZ y (f.tmod (10 : Int)).toNat) (eZ z (f.tmod
 (10 : Int)).toNat) < qL (f.tmod (10 : Int)).toNat ↔ True) ∧ True) ∧ True) ∧ (((0 : Int) ≤ addA (qL (f.tmod (10 : Int)).toNat) (eZ y (f.tmod (10 : Int)).toNat) (eZ z (f.tmod (10 : Int)).toNat) → False)
 → ∃ (_ : Unit), True ∧ True ∧ ((false = true ↔ True) ∧ True) ∧ True)) ∧ ((okF (qL (f.tmod (10 : Int)).toNat) (eZ y (f.tmod (10 : Int)).toNat) (eZ z (f.tmod (10 : Int)).toNat) → False) → ∃ (_ : Unit),
 True ∧ True ∧ ((false = true ↔ True) ∧ True) ∧ True)) ∧ ((True → False) → ∃ (_ : Unit), True ∧ True ∧ ((false = true ↔ True) ∧ True) ∧ True)) ∧ ∀ (_ : Unit), True → True ∧ ((True → (okF (qL (f.tmod
 (10 : Int)).toNat) (eZ x (f.tmod (10 : Int)).toNat) (addA (qL (f.tmod (10 : Int)).toNat) (eZ y (f.tmod (10 : Int)).toNat) (eZ z (f.tmod (10 : Int)).toNat)) → ((0 : Int) ≤ mulA (qL (f.tmod (10 :
 Int)).toNat) (eZ x (f.tmod (10 : Int)).toNat) (addA (qL (f.tmod (10 : Int)).toNat) (eZ y (f.tmod (10 : Int)).toNat) (eZ z (f.tmod (10 : Int)).toNat)) → ∃ (_ : Unit), True ∧ True ∧ ((mulA (qL
 (f.tmod (10 : Int)).toNat) (eZ x (f.tmod (10 : Int)).toNat) (addA (qL (f.tmod (10 : Int)).toNat) (eZ y (f.tmod (10 : Int)).toNat) (eZ z (f.tmod (10 : Int)).toNat)) < qL (f.tmod (10 : Int)).toNat ↔
 True) ∧ True) ∧ True) ∧ (((0 : Int) ≤ mulA (qL (f.tmod (10 : Int)).toNat) (eZ x (f.tmod (10 : Int)).toNat) (addA (qL (f.tmod (10 : Int)).toNat) (eZ y (f.tmod (10 : Int)).toNat) (eZ z (f.tmod (10 :
 Int)).toNat)) → False) → ∃ (_ : Unit), True ∧ True ∧ ((false = true ↔ True) ∧ True) ∧ True)) ∧ ((okF (qL (f.tmod (10 : Int)).toNat) (eZ x (f.tmod (10 : Int)).toNat) (addA (qL (f.tmod (10 :
 Int)).toNat) (eZ y (f.tmod (10 : Int)).toNat) (eZ z (f.tmod (10 : Int)).toNat)) → False) → ∃ (_ : Unit), True ∧ True ∧ ((false = true ↔ True) ∧ True) ∧ True)) ∧ ((True → False) → ∃ (_ : Unit), True ∧
 True ∧ ((false = true ↔ True) ∧ True) ∧ True)) ∧ ∀ (_ : Unit), True → True ∧ ((True → (okF (qL (f.tmod (10 : Int)).toNat) (eZ x (f.tmod (10 : Int)).toNat) (eZ y (f.tmod (10 : Int)).toNat) → ((0 :
 Int) ≤ mulA (qL (f.tmod (10 : Int)).toNat) (eZ x (f.tmod (10 : Int)).toNat) (eZ y (f.tmod (10 : Int)).toNat) → ∃ (_ : Unit), True ∧ True ∧ ((mulA (qL (f.tmod (10 : Int)).toNat) (eZ x (f.tmod (10 :
 Int)).toNat) (eZ y (f.tmod (10 : Int)).toNat) < qL (f.tmod (10 : Int)).toNat ↔ True) ∧ True) ∧ True) ∧ (((0 : Int) ≤ mulA (qL (f.tmod (10 : Int)).toNat) (eZ x (f.tmod (10 : Int)).toNat) (eZ y (f.tmod
 (10 : Int)).toNat) → False) → ∃ (_ : Unit), True ∧ True ∧ ((false = true ↔ True) ∧ True) ∧ True)) ∧ ((okF (qL (f.tmod (10 : Int)).toNat) (eZ x (f.tmod (10 : Int)).toNat) (eZ y (f.tmod (10 :
 Int)).toNat) → False) → ∃ (_ : Unit), True ∧ True ∧ ((false = true ↔ True) ∧ True) ∧ True)) ∧ ((True → False) → ∃ (_ : Unit), True ∧ True ∧ ((false = true ↔ True) ∧ True) ∧ True)) ∧ ∀ (_ : Unit),
 True → True ∧ ((True → (okF (qL (f.tmod (10 : Int)).toNat) (eZ x (f.tmod (10 : Int)).toNat) (eZ z (f.tmod (10 : Int)).toNat) → ((0 : Int) ≤ mulA (qL (f.tmod (10 : Int)).toNat) (eZ x (f.tmod (10 :
 Int)).toNat) (eZ z (f.tmod (10 : Int)).toNat) → ∃ (_ : Unit), True ∧ True ∧ ((mulA (qL (f.tmod (10 : Int)).toNat) (eZ x (f.tmod (10 : Int)).toNat) (eZ z (f.tmod (10 : Int)).toNat) < qL (f.tmod (10
 : Int)).toNat ↔ True) ∧ True) ∧ True) ∧ (((0 : Int) ≤ mulA (qL (f.tmod (10 : Int)).toNat) (eZ x (f.tmod (10 : Int)).toNat) (eZ z (f.tmod (10 : Int)).toNat) → False) → ∃ (_ : Unit), True ∧ True ∧
 ((false = true ↔ True) ∧ True) ∧ True)) ∧ ((okF (qL (f.tmod (10 : Int)).toNat) (eZ x (f.tmod (10 : Int)).toNat) (eZ z (f.tmod (10 : Int)).toNat) → False) → ∃ (_ : Unit), True ∧ True ∧ ((false = true ↔
 True) ∧ True) ∧ True)) ∧ ((True → False) → ∃ (_ : Unit), True ∧ True ∧ ((false = true ↔ True) ∧ True) ∧ True)) ∧ ∀ (_ : Unit), True → True ∧ ((True → (okF (qL (f.tmod (10 : Int)).toNat) (mulA (qL
 (f.tmod (10 : Int)).toNat) (eZ x (f.tmod (10 : Int)).toNat) (eZ y (f.tmod (10 : Int)).toNat)) (mulA (qL (f.tmod (10 : Int)).toNat) (eZ x (f.tmod (10 : Int)).toNat) (eZ z (f.tmod (10 : Int)).toNat)) →
 ((0 : Int) ≤ addA (qL (f.tmod (10 : Int)).toNat) (mulA (qL (f.tmod (10 : Int)).toNat) (eZ x (f.tmod (10 : Int)).toNat) (eZ y (f.tmod (10 : Int)).toNat)) (mulA (qL (f.tmod (10 : Int)).toNat) (eZ x
 (f.tmod (10 : Int)).toNat) (eZ z (f.tmod (10 : Int)).toNat)) → ∃ (_ : Unit), True ∧ True ∧ ((addA (qL (f.tmod (10 : Int)).toNat) (mulA (qL (f.tmod (10 : Int)).toNat) (eZ x (f.tmod (10 :
 Int)).toNat) (eZ y (f.tmod (10 : Int)).toNat)) (mulA (qL (f.tmod (10 : Int)).toNat) (eZ x (f.tmod (10 : Int)).toNat) (eZ z (f.tmod (10 : Int)).toNat)) < qL (f.tmod (10 : Int)).toNat ↔ True) ∧ True) ∧
 True) ∧ (((0 : Int) ≤ addA (qL (f.tmod (10 : Int)).toNat) (mulA (qL (f.tmod (10 : Int)).toNat) (eZ x (f.tmod (10 : Int)).toNat) (eZ y (f.tmod (10 : Int)).toNat)) (mulA (qL (f.tmod (10 : Int)).toNat)
 (eZ x (f.tmod (10 : Int)).toNat) (eZ z (f.tmod (10 : Int)).toNat)) → False) → ∃ (_ : Unit), True ∧ True ∧ ((false = true ↔ True) ∧ True) ∧ True)) ∧ ((okF (qL (f.tmod (10 : Int)).toNat) (mulA (qL
 (f.tmod (10 : Int)).toNat) (eZ x (f.tmod (10 : Int)).toNat) (eZ y (f.tmod (10 : Int)).toNat)) (mulA (qL (f.tmod (10 : Int)).toNat) (eZ x (f.tmod (10 : Int)).toNat) (eZ z (f.tmod (10 : Int)).toNat)) →
 False) → ∃ (_ : Unit), True ∧ True ∧ ((false = true ↔ True) ∧ True) ∧ True)) ∧ ((True → False) → ∃ (_ : Unit), True ∧ True ∧ ((false = true ↔ True) ∧ True) ∧ True)) ∧ ∀ (_ : Unit), True → (mulA (qL
 (f.tmod (10 : Int)).toNat) (eZ x (f.tmod (10 : Int)).toNat) (addA (qL (f.tmod (10 : Int)).toNat) (eZ y (f.tmod (10 : Int)).toNat) (eZ z (f.tmod (10 : Int)).toNat)) = addA (qL (f.tmod (10 :
 Int)).toNat) (mulA (qL (f.tmod (10 : Int)).toNat) (eZ x (f.tmod (10 : Int)).toNat) (eZ y (f.tmod (10 : Int)).toNat)) (mulA (qL (f.tmod (10 : Int)).toNat) (eZ x (f.tmod (10 : Int)).toNat) (eZ z (f.tmod
 (10 : Int)).toNat)) → True ∧ ((True → (okF (qL (f.tmod (10 : Int)).toNat) (eZ x (f.tmod (10 : Int)).toNat) (0 : Int) → ((0 : Int) ≤ addA (qL (f.tmod (10 : Int)).toNat) (eZ x (f.tmod (10 : Int)).toNat)
 (0 : Int) → ∃ (_ : Unit), True ∧ True ∧ ((addA (qL (f.tmod (10 : Int)).toNat) (eZ x (f.tmod (10 : Int)).toNat) (0 : Int) < qL (f.tmod (10 : Int)).toNat ↔ True) ∧ True) ∧ True) ∧ (((0 : Int) ≤ addA
 (qL (f.tmod (10 : Int)).toNat) (eZ x (f.tmod (10 : Int)).toNat) (0 : Int) → False) → ∃ (_ : Unit), True ∧ True ∧ ((false = true ↔ True) ∧ True) ∧ True)) ∧ ((okF (qL (f.tmod (10 : Int)).toNat) (eZ x
 (f.tmod (10 : Int)).toNat) (0 : Int) → False) → ∃ (_ : Unit), True ∧ True ∧ ((false = true ↔ True) ∧ True) ∧ True)) ∧ ((True → False) → ∃ (_ : Unit), True ∧ True ∧ ((false = true ↔ True) ∧ True) ∧
 True)) ∧ ∀ (_ : Unit), True → (addA (qL (f.tmod (10 : Int)).toNat) (eZ x (f.tmod (10 : Int)).toNat) (0 : Int) = eZ x (f.tmod (10 : Int)).toNat → True ∧ ((True → (okF (qL (f.tmod (10 : Int)).toNat)
 (eZ x (f.tmod (10 : Int)).toNat) (1 : Int) → ((0 : Int) ≤ mulA (qL (f.tmod (10 : Int)).toNat) (eZ x (f.tmod (10 : Int)).toNat) (1 : Int) → ∃ (_ : Unit), True ∧ True ∧ ((mulA (qL (f.tmod (10 :
 Int)).toNat) (eZ x (f.tmod (10 : Int)).toNat) (1 : Int) < qL (f.tmod (10 : Int)).toNat ↔ True) ∧ True) ∧ True) ∧ (((0 : Int) ≤ mulA (qL (f.tmod (10 : Int)).toNat) (eZ x (f.tmod (10 : Int)).toNat) (1 :
 Int) → False) → ∃ (_ : Unit), True ∧ True ∧ ((false = true ↔ True) ∧ True) ∧ True)) ∧ ((okF (qL (f.tmod (10 : Int)).toNat) (eZ x (f.tmod (10 : Int)).toNat) (1 : Int) → False) → ∃ (_ : Unit), True ∧
 True ∧ ((false = true ↔ True) ∧ True) ∧ True)) ∧ ((True → False) → ∃ (_ : Unit), True ∧ True ∧ ((false = true ↔ True) ∧ True) ∧ True)) ∧ ∀ (_ : Unit), True → (mulA (qL (f.tmod (10 : Int)).toNat)
 (eZ x (f.tmod (10 : Int)).toNat) (1 : Int) = eZ x (f.tmod (10 : Int)).toNat → True ∧ ((True → (okF (qL (f.tmod (10 : Int)).toNat) (eZ x (f.tmod (10 : Int)).toNat) (0 : Int) → ((0 : Int) ≤ mulA (qL
 (f.tmod (10 : Int)).toNat) (eZ x (f.tmod (10 : Int)).toNat) (0 : Int) → ∃ (_ : Unit), True ∧ True ∧ ((mulA (qL (f.tmod (10 : Int)).toNat) (eZ x (f.tmod (10 : Int)).toNat) (0 : Int) < qL (f.tmod (10
 : Int)).toNat ↔ True) ∧ True) ∧ True) ∧ (((0 : Int) ≤ mulA (qL (f.tmod (10 : Int)).toNat) (eZ x (f.tmod (10 : Int)).toNat) (0 : Int) → False) → ∃ (_ : Unit), True ∧ True ∧ ((false = true ↔ True) ∧
 True) ∧ True)) ∧ ((okF (qL (f.tmod (10 : Int)).toNat) (eZ x (f.tmod (10 : Int)).toNat) (0 : Int) → False) → ∃ (_ : Unit), True ∧ True ∧ ((false = true ↔ True) ∧ True) ∧ True)) ∧ ((True → False) → ∃ (x
 : Unit), True ∧ True ∧ ((false = true ↔ True) ∧ True) ∧ True)) ∧ ∀ (_ : Unit), True → ∃ (_ : Unit), True ∧ ((mulA (qL (f.tmod (10 : Int)).toNat) (eZ x (f.tmod (10 : Int)).toNat) (0 : Int) = (0 :
 Int) ↔ True) ∧ True) ∧ ((True ↔ True) ∧ True) ∧ True) ∧ ((mulA (qL (f.tmod (10 : Int)).toNat) (eZ x (f.tmod (10 : Int)).toNat) (1 : Int) = eZ x (f.tmod (10 : Int)).toNat → False) → ∃ (_ : Unit), True
 ∧ ((false = true ↔ True) ∧ True) ∧ ((True ↔ True) ∧ True) ∧ True)) ∧ ((addA (qL (f.tmod (10 : Int)).toNat) (eZ x (f.tmod (10 : Int)).toNat) (0 : Int) = eZ x (f.tmod (10 : Int)).toNat → False) → ∃ (x :
 Unit), True ∧ ((false = true ↔ True) ∧ True) ∧ ((True ↔ True) ∧ True) ∧ True)) ∧ ((mulA (qL (f.tmod (10 : Int)).toNat) (eZ x (f.tmod (10 : Int)).toNat) (addA (qL (f.tmod (10 : Int)).toNat) (eZ y
 (f.tmod (10 : Int)).toNat) (eZ z (f.tmod (10 : Int)).toNat)) = addA (qL (f.tmod (10 : Int)).toNat) (mulA (qL (f.tmod (10 : Int)).toNat) (eZ x (f.tmod (10 : Int)).toNat) (eZ y (f.tmod (10 :
 Int)).toNat)) (mulA (qL (f.tmod (10 : Int)).toNat) (eZ x (f.tmod (10 : Int)).toNat) (eZ z (f.tmod (10 : Int)).toNat)) → False) → ∃ (_ : Unit), True ∧ ((false = true ↔ True) ∧ True) ∧ ((True ↔ True) ∧
 True) ∧ True)) ∧ ((mulA (qL (f.tmod (10 : Int)).toNat) (eZ x (f.tmod (10 : Int)).toNat) (eZ y (f.tmod (10 : Int)).toNat) = mulA (qL (f.tmod (10 : Int)).toNat) (eZ y (f.tmod (10 : Int)).toNat) (eZ x
 (f.tmod (10 : Int)).toNat) → False) → ∃ (_ : Unit), True ∧ ((false = true ↔ True) ∧ True) ∧ ((True ↔ True) ∧ True) ∧ True)) ∧ ((addA (qL (f.tmod (10 : Int)).toNat) (eZ x (f.tmod (10 : Int)).toNat) (eZ
 y (f.tmod (10 : Int)).toNat) = addA (qL (f.tmod (10 : Int)).toNat) (eZ y (f.tmod (10 : Int)).toNat) (eZ x (f.tmod (10 : Int)).toNat) → False) → ∃ (_ : Unit), True ∧ ((false = true ↔ True) ∧ True) ∧
 ((True ↔ True) ∧ True) ∧ True)) ∧ ((mulA (qL (f.tmod (10 : Int)).toNat) (eZ x (f.tmod (10 : Int)).toNat) (mulA (qL (f.tmod (10 : Int)).toNat) (eZ y (f.tmod (10 : Int)).toNat) (eZ z (f.tmod (10 :
 Int)).toNat)) = mulA (qL (f.tmod (10 : Int)).toNat) (mulA (qL (f.tmod (10 : Int)).toNat) (eZ x (f.tmod (10 : Int)).toNat) (eZ y (f.tmod (10 : Int)).toNat)) (eZ z (f.tmod (10 : Int)).toNat) → False) →
 ∃ (_ : Unit), True ∧ ((false = true ↔ True) ∧ True) ∧ ((True ↔ True) ∧ True) ∧ True)) ∧ ((addA (qL (f.tmod (10 : Int)).toNat) (eZ x (f.tmod (10 : Int)).toNat) (addA (qL (f.tmod (10 : Int)).toNat) (eZ
 y (f.tmod (10 : Int)).toNat) (eZ z (f.tmod (10 : Int)).toNat)) = addA (qL (f.tmod (10 : Int)).toNat) (addA (qL (f.tmod (10 : Int)).toNat) (eZ x (f.tmod (10 : Int)).toNat) (eZ y (f.tmod (10 :
 Int)).toNat)) (eZ z (f.tmod (10 : Int)).toNat) → False) → ∃ (_ : Unit), True ∧ ((false = true ↔ True) ∧ True) ∧ ((True ↔ True) ∧ True) ∧ True)) ∧ ∀ (_ : Unit), True → (∃ (x_2 : Nat), x_2.le (qL
 (f.tmod (10 : Int)).toNat).toNat ∧ ((0 : Int) = (↑x_2 : Int) ∧ (0 : Int) = cntZ (fun (u : Int) => addA (qL (f.tmod (10 : Int)).toNat) (eZ x (f.tmod (10 : Int)).toNat) u = (0 : Int)) x_2 ∧ (0 : Int) =
 cntZ (fun (u : Int) => mulA (qL (f.tmod (10 : Int)).toNat) (eZ x (f.tmod (10 : Int)).toNat) u = (1 : Int)) x_2 ∧ (True ↔ True) ∧ True) ∧ ((True ↔ True) ∧ True) ∧ True) ∧ ∀ (x_2 : Nat), x_2.le (qL
 (f.tmod (10 : Int)).toNat).toNat → (qL (f.tmod (10 : Int)).toNat).toNat - x_2 < LIM ∧ ((↑x_2 : Int) < qL (f.tmod (10 : Int)).toNat → True ∧ ((True → (okF (qL (f.tmod (10 : Int)).toNat) (eZ x (f.tmod
 (10 : Int)).toNat) (↑x_2 : Int) → ((0 : Int) ≤ addA (qL (f.tmod (10 : Int)).toNat) (eZ x (f.tmod (10 : Int)).toNat) (↑x_2 : Int) → ∃ (_ : Unit), True ∧ True ∧ ((addA (qL (f.tmod (10 : Int)).toNat)
 (eZ x (f.tmod (10 : Int)).toNat) (↑x_2 : Int) < qL (f.tmod (10 : Int)).toNat ↔ True) ∧ True) ∧ True) ∧ (((0 : Int) ≤ addA (qL (f.tmod (10 : Int)).toNat) (eZ x (f.tmod (10 : Int)).toNat) (↑x_2 : Int) →
 False) → ∃ (_ : Unit), True ∧ True ∧ ((false = true ↔ True) ∧ True) ∧ True)) ∧ ((okF (qL (f.tmod (10 : Int)).toNat) (eZ x (f.tmod (10 : Int)).toNat) (↑x_2 : Int) → False) → ∃ (_ : Unit), True ∧ True ∧
 ((false = true ↔ True) ∧ True) ∧ True)) ∧ ((True → False) → ∃ (_ : Unit), True ∧ True ∧ ((false = true ↔ True) ∧ True) ∧ True)) ∧ ∀ (_ : Unit), True → (addA (qL (f.tmod (10 : Int)).toNat) (eZ x
 (f.tmod (10 : Int)).toNat) (↑x_2 : Int) = (0 : Int) → ((-9223372036854775808 : Int) ≤ cntZ (fun (u : Int) => addA (qL (f.tmod (10 : Int)).toNat) (eZ x (f.tmod (10 : Int)).toNat) u = (0 : Int)) x_2 +
 (1 : Int) ∧ cntZ (fun (u : Int) => addA (qL (f.tmod (10 : Int)).toNat) (eZ x (f.tmod (10 : Int)).toNat) u = (0 : Int)) x_2 + (1 : Int) < (9223372036854775808 : Int)) ∧ True ∧ ((True → (okF (qL (f.tmod
 (10 : Int)).toNat) (eZ x (f.tmod (10 : Int)).toNat) (↑x_2 : Int) → ((0 : Int) ≤ mulA (qL (f.tmod (10 : Int)).toNat) (eZ x (f.tmod (10 : Int)).toNat) (↑x_2 : Int) → ∃ (_ : Unit), True ∧ True ∧ ((mulA
 (qL (f.tmod (10 : Int)).toNat) (eZ x (f.tmod (10 : Int)).toNat) (↑x_2 : Int) < qL (f.tmod (10 : Int)).toNat ↔ True) ∧ True) ∧ True) ∧ (((0 : Int) ≤ mulA (qL (f.tmod (10 : Int)).toNat) (eZ x (f.tmod
 (10 : Int)).toNat) (↑x_2 : Int) → False) → ∃ (_ : Unit), True ∧ True ∧ ((false = true ↔ True) ∧ True) ∧ True)) ∧ ((okF (qL (f.tmod (10 : Int)).toNat) (eZ x (f.tmod (10 : Int)).toNat) (↑x_2 : Int) →
 False) → ∃ (_ : Unit), True ∧ True ∧ ((false = true ↔ True) ∧ True) ∧ True)) ∧ ((True → False) → ∃ (_ : Unit), True ∧ True ∧ ((false = true ↔ True) ∧ True) ∧ True)) ∧ ∀ (_ : Unit), True → (mulA (qL
 (f.tmod (10 : Int)).toNat) (eZ x (f.tmod (10 : Int)).toNat) (↑x_2 : Int) = (1 : Int) → ((-9223372036854775808 : Int) ≤ cntZ (fun (u : Int) => mulA (qL (f.tmod (10 : Int)).toNat) (eZ x (f.tmod (10 :
 Int)).toNat) u = (1 : Int)) x_2 + (1 : Int) ∧ cntZ (fun (u : Int) => mulA (qL (f.tmod (10 : Int)).toNat) (eZ x (f.tmod (10 : Int)).toNat) u = (1 : Int)) x_2 + (1 : Int) < (9223372036854775808 : Int))
 ∧ (True → True ∧ ((True → (okF (qL (f.tmod (10 : Int)).toNat) (eZ x (f.tmod (10 : Int)).toNat) (↑x_2 : Int) → ((0 : Int) ≤ mulA (qL (f.tmod (10 : Int)).toNat) (eZ x (f.tmod (10 : Int)).toNat) (↑x_2 :
 Int) → ∃ (_ : Unit), True ∧ True ∧ ((mulA (qL (f.tmod (10 : Int)).toNat) (eZ x (f.tmod (10 : Int)).toNat) (↑x_2 : Int) < qL (f.tmod (10 : Int)).toNat ↔ True) ∧ True) ∧ True) ∧ (((0 : Int) ≤ mulA (qL
 (f.tmod (10 : Int)).toNat) (eZ x (f.tmod (10 : Int)).toNat) (↑x_2 : Int) → False) → ∃ (_ : Unit), True ∧ True ∧ ((false = true ↔ True) ∧ True) ∧ True)) ∧ ((okF (qL (f.tmod (10 : Int)).toNat) (eZ x
 (f.tmod (10 : Int)).toNat) (↑x_2 : Int) → False) → ∃ (_ : Unit), True ∧ True ∧ ((false = true ↔ True) ∧ True) ∧ True)) ∧ ((True → False) → ∃ (_ : Unit), True ∧ True ∧ ((false = true ↔ True) ∧ True) ∧
 True)) ∧ ∀ (_ : Unit), True → ((eZ x (f.tmod (10 : Int)).toNat = (0 : Int) → False) → ((-9223372036854775808 : Int) ≤ (↑x_2 : Int) + (1 : Int) ∧ (↑x_2 : Int) + (1 : Int) < (9223372036854775808 :
 Int)) ∧ ∃ (y : Nat), y.le (qL (f.tmod (10 : Int)).toNat).toNat ∧ (qL (f.tmod (10 : Int)).toNat).toNat - y < (qL (f.tmod (10 : Int)).toNat).toNat - x_2 ∧ ((↑x_2 : Int) + (1 : Int) = (↑y : Int) ∧ cntZ
 (fun (u : Int) => addA (qL (f.tmod (10 : Int)).toNat) (eZ x (f.tmod (10 : Int)).toNat) u = (0 : Int)) x_2 + (1 : Int) = cntZ (fun (u : Int) => addA (qL (f.tmod (10 : Int)).toNat) (eZ x (f.tmod (10 :
 Int)).toNat) u = (0 : Int)) y ∧ cntZ (fun (u : Int) => mulA (qL (f.tmod (10 : Int)).toNat) (eZ x (f.tmod (10 : Int)).toNat) u = (1 : Int)) x_2 + (1 : Int) = cntZ (fun (u : Int) => mulA (qL (f.tmod (10
 : Int)).toNat) (eZ x (f.tmod (10 : Int)).toNat) u = (1 : Int)) y ∧ ((mulA (qL (f.tmod (10 : Int)).toNat) (eZ x (f.tmod (10 : Int)).toNat) (↑x_2 : Int) = (0 : Int) ↔ (↑x_2 : Int) = (0 : Int)) ↔ True) ∧
 True) ∧ ((True ↔ True) ∧ True) ∧ True) ∧ (eZ x (f.tmod (10 : Int)).toNat = (0 : Int) → ((-9223372036854775808 : Int) ≤ (↑x_2 : Int) + (1 : Int) ∧ (↑x_2 : Int) + (1 : Int) < (9223372036854775808 :
 Int)) ∧ ∃ (y : Nat), y.le (qL (f.tmod (10 : Int)).toNat).toNat ∧ (qL (f.tmod (10 : Int)).toNat).toNat - y < (qL (f.tmod (10 : Int)).toNat).toNat - x_2 ∧ ((↑x_2 : Int) + (1 : Int) = (↑y : Int) ∧ cntZ
 (fun (u : Int) => addA (qL (f.tmod (10 : Int)).toNat) (eZ x (f.tmod (10 : Int)).toNat) u = (0 : Int)) x_2 + (1 : Int) = cntZ (fun (u : Int) => addA (qL (f.tmod (10 : Int)).toNat) (eZ x (f.tmod (10 :
 Int)).toNat) u = (0 : Int)) y ∧ cntZ (fun (u : Int) => mulA (qL (f.tmod (10 : Int)).toNat) (eZ x (f.tmod (10 : Int)).toNat) u = (1 : Int)) x_2 + (1 : Int) = cntZ (fun (u : Int) => mulA (qL (f.tmod (10
 : Int)).toNat) (eZ x (f.tmod (10 : Int)).toNat) u = (1 : Int)) y ∧ ((mulA (qL (f.tmod (10 : Int)).toNat) (eZ x (f.tmod (10 : Int)).toNat) (↑x_2 : Int) = (0 : Int) ↔ true = true) ↔ True) ∧ True) ∧
 ((True ↔ True) ∧ True) ∧ True)) ∧ ((True → False) → ((-9223372036854775808 : Int) ≤ (↑x_2 : Int) + (1 : Int) ∧ (↑x_2 : Int) + (1 : Int) < (9223372036854775808 : Int)) ∧ ∃ (y : Nat), y.le (qL (f.tmod
 (10 : Int)).toNat).toNat ∧ (qL (f.tmod (10 : Int)).toNat).toNat - y < (qL (f.tmod (10 : Int)).toNat).toNat - x_2 ∧ ((↑x_2 : Int) + (1 : Int) = (↑y : Int) ∧ cntZ (fun (u : Int) => addA (qL (f.tmod (10
 : Int)).toNat) (eZ x (f.tmod (10 : Int)).toNat) u = (0 : Int)) x_2 + (1 : Int) = cntZ (fun (u : Int) => addA (qL (f.tmod (10 : Int)).toNat) (eZ x (f.tmod (10 : Int)).toNat) u = (0 : Int)) y ∧ cntZ
 (fun (u : Int) => mulA (qL (f.tmod (10 : Int)).toNat) (eZ x (f.tmod (10 : Int)).toNat) u = (1 : Int)) x_2 + (1 : Int) = cntZ (fun (u : Int) => mulA (qL (f.tmod (10 : Int)).toNat) (eZ x (f.tmod (10 :
 Int)).toNat) u = (1 : Int)) y ∧ (false = true ↔ True) ∧ True) ∧ ((True ↔ True) ∧ True) ∧ True)) ∧ ((mulA (qL (f.tmod (10 : Int)).toNat) (eZ x (f.tmod (10 : Int)).toNat) (↑x_2 : Int) = (1 : Int) →
 False) → (True → True ∧ ((True → (okF (qL (f.tmod (10 : Int)).toNat) (eZ x (f.tmod (10 : Int)).toNat) (↑x_2 : Int) → ((0 : Int) ≤ mulA (qL (f.tmod (10 : Int)).toNat) (eZ x (f.tmod (10 : Int)).toNat)
 (↑x_2 : Int) → ∃ (_ : Unit), True ∧ True ∧ ((mulA (qL (f.tmod (10 : Int)).toNat) (eZ x (f.tmod (10 : Int)).toNat) (↑x_2 : Int) < qL (f.tmod (10 : Int)).toNat ↔ True) ∧ True) ∧ True) ∧ (((0 : Int) ≤
 mulA (qL (f.tmod (10 : Int)).toNat) (eZ x (f.tmod (10 : Int)).toNat) (↑x_2 : Int) → False) → ∃ (_ : Unit), True ∧ True ∧ ((false = true ↔ True) ∧ True) ∧ True)) ∧ ((okF (qL (f.tmod (10 : Int)).toNat)
 (eZ x (f.tmod (10 : Int)).toNat) (↑x_2 : Int) → False) → ∃ (_ : Unit), True ∧ True ∧ ((false = true ↔ True) ∧ True) ∧ True)) ∧ ((True → False) → ∃ (_ : Unit), True ∧ True ∧ ((false = true ↔ True) ∧
 True) ∧ True)) ∧ ∀ (_ : Unit), True → ((eZ x (f.tmod (10 : Int)).toNat = (0 : Int) → False) → ((-9223372036854775808 : Int) ≤ (↑x_2 : Int) + (1 : Int) ∧ (↑x_2 : Int) + (1 : Int) <
 (9223372036854775808 : Int)) ∧ ∃ (y : Nat), y.le (qL (f.tmod (10 : Int)).toNat).toNat ∧ (qL (f.tmod (10 : Int)).toNat).toNat - y < (qL (f.tmod (10 : Int)).toNat).toNat - x_2 ∧ ((↑x_2 : Int) + (1 :
 Int) = (↑y : Int) ∧ cntZ (fun (u : Int) => addA (qL (f.tmod (10 : Int)).toNat) (eZ x (f.tmod (10 : Int)).toNat) u = (0 : Int)) x_2 + (1 : Int) = cntZ (fun (u : Int) => addA (qL (f.tmod (10 :
 Int)).toNat) (eZ x (f.tmod (10 : Int)).toNat) u = (0 : Int)) y ∧ cntZ (fun (u : Int) => mulA (qL (f.tmod (10 : Int)).toNat) (eZ x (f.tmod (10 : Int)).toNat) u = (1 : Int)) x_2 = cntZ (fun (u : Int) =>
 mulA (qL (f.tmod (10 : Int)).toNat) (eZ x (f.tmod (10 : Int)).toNat) u = (1 : Int)) y ∧ ((mulA (qL (f.tmod (10 : Int)).toNat) (eZ x (f.tmod (10 : Int)).toNat) (↑x_2 : Int) = (0 : Int) ↔ (↑x_2 : Int) =
 (0 : Int)) ↔ True) ∧ True) ∧ ((True ↔ True) ∧ True) ∧ True) ∧ (eZ x (f.tmod (10 : Int)).toNat = (0 : Int) → ((-9223372036854775808 : Int) ≤ (↑x_2 : Int) + (1 : Int) ∧ (↑x_2 : Int) + (1 : Int) <
 (9223372036854775808 : Int)) ∧ ∃ (y : Nat), y.le (qL (f.tmod (10 : Int)).toNat).toNat ∧ (qL (f.tmod (10 : Int)).toNat).toNat - y < (qL (f.tmod (10 : Int)).toNat).toNat - x_2 ∧ ((↑x_2 : Int) + (1 :
 Int) = (↑y : Int) ∧ cntZ (fun (u : Int) => addA (qL (f.tmod (10 : Int)).toNat) (eZ x (f.tmod (10 : Int)).toNat) u = (0 : Int)) x_2 + (1 : Int) = cntZ (fun (u : Int) => addA (qL (f.tmod (10 :
 Int)).toNat) (eZ x (f.tmod (10 : Int)).toNat) u = (0 : Int)) y ∧ cntZ (fun (u : Int) => mulA (qL (f.tmod (10 : Int)).toNat) (eZ x (f.tmod (10 : Int)).toNat) u = (1 : Int)) x_2 = cntZ (fun (u : Int) =>
 mulA (qL (f.tmod (10 : Int)).toNat) (eZ x (f.tmod (10 : Int)).toNat) u = (1 : Int)) y ∧ ((mulA (qL (f.tmod (10 : Int)).toNat) (eZ x (f.tmod (10 : Int)).toNat) (↑x_2 : Int) = (0 : Int) ↔ true = true) ↔
 True) ∧ True) ∧ ((True ↔ True) ∧ True) ∧ True)) ∧ ((True → False) → ((-9223372036854775808 : Int) ≤ (↑x_2 : Int) + (1 : Int) ∧ (↑x_2 : Int) + (1 : Int) < (9223372036854775808 : Int)) ∧ ∃ (y : Nat),
 y.le (qL (f.tmod (10 : Int)).toNat).toNat ∧ (qL (f.tmod (10 : Int)).toNat).toNat - y < (qL (f.tmod (10 : Int)).toNat).toNat - x_2 ∧ ((↑x_2 : Int) + (1 : Int) = (↑y : Int) ∧ cntZ (fun (u : Int) => addA
 (qL (f.tmod (10 : Int)).toNat) (eZ x (f.tmod (10 : Int)).toNat) u = (0 : Int)) x_2 + (1 : Int) = cntZ (fun (u : Int) => addA (qL (f.tmod (10 : Int)).toNat) (eZ x (f.tmod (10 : Int)).toNat) u = (0 :
 Int)) y ∧ cntZ (fun (u : Int) => mulA (qL (f.tmod (10 : Int)).toNat) (eZ x (f.tmod (10 : Int)).toNat) u = (1 : Int)) x_2 = cntZ (fun (u : Int) => mulA (qL (f.tmod (10 : Int)).toNat) (eZ x (f.tmod (10
 : Int)).toNat) u = (1 : Int)) y ∧ (false = true ↔ True) ∧ True) ∧ ((True ↔ True) ∧ True) ∧ True))) ∧ ((addA (qL (f.tmod (10 : Int)).toNat) (eZ x (f.tmod (10 : Int)).toNat) (↑x_2 : Int) = (0 : Int) →
 False) → True ∧ ((True → (okF (qL (f.tmod (10 : Int)).toNat) (eZ x (f.tmod (10 : Int)).toNat) (↑x_2 : Int) → ((0 : Int) ≤ mulA (qL (f.tmod (10 : Int)).toNat) (eZ x (f.tmod (10 : Int)).toNat) (↑x_2 :
 Int) → ∃ (_ : Unit), True ∧ True ∧ ((mulA (qL (f.tmod (10 : Int)).toNat) (eZ x (f.tmod (10 : Int)).toNat) (↑x_2 : Int) < qL (f.tmod (10 : Int)).toNat ↔ True) ∧ True) ∧ True) ∧ (((0 : Int) ≤ mulA (qL
 (f.tmod (10 : Int)).toNat) (eZ x (f.tmod (10 : Int)).toNat) (↑x_2 : Int) → False) → ∃ (_ : Unit), True ∧ True ∧ ((false = true ↔ True) ∧ True) ∧ True)) ∧ ((okF (qL (f.tmod (10 : Int)).toNat) (eZ x
 (f.tmod (10 : Int)).toNat) (↑x_2 : Int) → False) → ∃ (_ : Unit), True ∧ True ∧ ((false = true ↔ True) ∧ True) ∧ True)) ∧ ((True → False) → ∃ (_ : Unit), True ∧ True ∧ ((false = true ↔ True) ∧ True) ∧
 True)) ∧ ∀ (_ : Unit), True → (mulA (qL (f.tmod (10 : Int)).toNat) (eZ x (f.tmod (10 : Int)).toNat) (↑x_2 : Int) = (1 : Int) → ((-9223372036854775808 : Int) ≤ cntZ (fun (u : Int) => mulA (qL (f.tmod
 (10 : Int)).toNat) (eZ x (f.tmod (10 : Int)).toNat) u = (1 : Int)) x_2 + (1 : Int) ∧ cntZ (fun (u : Int) => mulA (qL (f.tmod (10 : Int)).toNat) (eZ x (f.tmod (10 : Int)).toNat) u = (1 : Int)) x_2 + (1
 : Int) < (9223372036854775808 : Int)) ∧ (True → True ∧ ((True → (okF (qL (f.tmod (10 : Int)).toNat) (eZ x (f.tmod (10 : Int)).toNat) (↑x_2 : Int) → ((0 : Int) ≤ mulA (qL (f.tmod (10 : Int)).toNat) (eZ
 x (f.tmod (10 : Int)).toNat) (↑x_2 : Int) → ∃ (_ : Unit), True ∧ True ∧ ((mulA (qL (f.tmod (10 : Int)).toNat) (eZ x (f.tmod (10 : Int)).toNat) (↑x_2 : Int) < qL (f.tmod (10 : Int)).toNat ↔ True) ∧
 True) ∧ True) ∧ (((0 : Int) ≤ mulA (qL (f.tmod (10 : Int)).toNat) (eZ x (f.tmod (10 : Int)).toNat) (↑x_2 : Int) → False) → ∃ (_ : Unit), True ∧ True ∧ ((false = true ↔ True) ∧ True) ∧ True)) ∧ ((okF
 (qL (f.tmod (10 : Int)).toNat) (eZ x (f.tmod (10 : Int)).toNat) (↑x_2 : Int) → False) → ∃ (_ : Unit), True ∧ True ∧ ((false = true ↔ True) ∧ True) ∧ True)) ∧ ((True → False) → ∃ (_ : Unit), True ∧
 True ∧ ((false = true ↔ True) ∧ True) ∧ True)) ∧ ∀ (_ : Unit), True → ((eZ x (f.tmod (10 : Int)).toNat = (0 : Int) → False) → ((-9223372036854775808 : Int) ≤ (↑x_2 : Int) + (1 : Int) ∧ (↑x_2 : Int)
 + (1 : Int) < (9223372036854775808 : Int)) ∧ ∃ (y : Nat), y.le (qL (f.tmod (10 : Int)).toNat).toNat ∧ (qL (f.tmod (10 : Int)).toNat).toNat - y < (qL (f.tmod (10 : Int)).toNat).toNat - x_2 ∧ ((↑x_2 :
 Int) + (1 : Int) = (↑y : Int) ∧ cntZ (fun (u : Int) => addA (qL (f.tmod (10 : Int)).toNat) (eZ x (f.tmod (10 : Int)).toNat) u = (0 : Int)) x_2 = cntZ (fun (u : Int) => addA (qL (f.tmod (10 :
 Int)).toNat) (eZ x (f.tmod (10 : Int)).toNat) u = (0 : Int)) y ∧ cntZ (fun (u : Int) => mulA (qL (f.tmod (10 : Int)).toNat) (eZ x (f.tmod (10 : Int)).toNat) u = (1 : Int)) x_2 + (1 : Int) = cntZ (fun
 (u : Int) => mulA (qL (f.tmod (10 : Int)).toNat) (eZ x (f.tmod (10 : Int)).toNat) u = (1 : Int)) y ∧ ((mulA (qL (f.tmod (10 : Int)).toNat) (eZ x (f.tmod (10 : Int)).toNat) (↑x_2 : Int) = (0 : Int) ↔
 (↑x_2 : Int) = (0 : Int)) ↔ True) ∧ True) ∧ ((True ↔ True) ∧ True) ∧ True) ∧ (eZ x (f.tmod (10 : Int)).toNat = (0 : Int) → ((-9223372036854775808 : Int) ≤ (↑x_2 : Int) + (1 : Int) ∧ (↑x_2 : Int) + (1
 : Int) < (9223372036854775808 : Int)) ∧ ∃ (y : Nat), y.le (qL (f.tmod (10 : Int)).toNat).toNat ∧ (qL (f.tmod (10 : Int)).toNat).toNat - y < (qL (f.tmod (10 : Int)).toNat).toNat - x_2 ∧ ((↑x_2 : Int) +
 (1 : Int) = (↑y : Int) ∧ cntZ (fun (u : Int) => addA (qL (f.tmod (10 : Int)).toNat) (eZ x (f.tmod (10 : Int)).toNat) u = (0 : Int)) x_2 = cntZ (fun (u : Int) => addA (qL (f.tmod (10 : Int)).toNat) (eZ
 x (f.tmod (10 : Int)).toNat) u = (0 : Int)) y ∧ cntZ (fun (u : Int) => mulA (qL (f.tmod (10 : Int)).toNat) (eZ x (f.tmod (10 : Int)).toNat) u = (1 : Int)) x_2 + (1 : Int) = cntZ (fun (u : Int) => mulA
 (qL (f.tmod (10 : Int)).toNat) (eZ x (f.tmod (10 : Int)).toNat) u = (1 : Int)) y ∧ ((mulA (qL (f.tmod (10 : Int)).toNat) (eZ x (f.tmod (10 : Int)).toNat) (↑x_2 : Int) = (0 : Int) ↔ true = true) ↔
 True) ∧ True) ∧ ((True ↔ True) ∧ True) ∧ True)) ∧ ((True → False) → ((-9223372036854775808 : Int) ≤ (↑x_2 : Int) + (1 : Int) ∧ (↑x_2 : Int) + (1 : Int) < (9223372036854775808 : Int)) ∧ ∃ (y : Nat),
 y.le (qL (f.tmod (10 : Int)).toNat).toNat ∧ (qL (f.tmod (10 : Int)).toNat).toNat - y < (qL (f.tmod (10 : Int)).toNat).toNat - x_2 ∧ ((↑x_2 : Int) + (1 : Int) = (↑y : Int) ∧ cntZ (fun (u : Int) => addA
 (qL (f.tmod (10 : Int)).toNat) (eZ x (f.tmod (10 : Int)).toNat) u = (0 : Int)) x_2 = cntZ (fun (u : Int) => addA (qL (f.tmod (10 : Int)).toNat) (eZ x (f.tmod (10 : Int)).toNat) u = (0 : Int)) y ∧ cntZ
 (fun (u : Int) => mulA (qL (f.tmod (10 : Int)).toNat) (eZ x (f.tmod (10 : Int)).toNat) u = (1 : Int)) x_2 + (1 : Int) = cntZ (fun (u : Int) => mulA (qL (f.tmod (10 : Int)).toNat) (eZ x (f.tmod (10 :
 Int)).toNat) u = (1 : Int)) y ∧ (false = true ↔ True) ∧ True) ∧ ((True ↔ True) ∧ True) ∧ True)) ∧ ((mulA (qL (f.tmod (10 : Int)).toNat) (eZ x (f.tmod (10 : Int)).toNat) (↑x_2 : Int) = (1 : Int) →
 False) → (True → True ∧ ((True → (okF (qL (f.tmod (10 : Int)).toNat) (eZ x (f.tmod (10 : Int)).toNat) (↑x_2 : Int) → ((0 : Int) ≤ mulA (qL (f.tmod (10 : Int)).toNat) (eZ x (f.tmod (10 : Int)).toNat)
 (↑x_2 : Int) → ∃ (_ : Unit), True ∧ True ∧ ((mulA (qL (f.tmod (10 : Int)).toNat) (eZ x (f.tmod (10 : Int)).toNat) (↑x_2 : Int) < qL (f.tmod (10 : Int)).toNat ↔ True) ∧ True) ∧ True) ∧ (((0 : Int) ≤
 mulA (qL (f.tmod (10 : Int)).toNat) (eZ x (f.tmod (10 : Int)).toNat) (↑x_2 : Int) → False) → ∃ (_ : Unit), True ∧ True ∧ ((false = true ↔ True) ∧ True) ∧ True)) ∧ ((okF (qL (f.tmod (10 : Int)).toNat)
 (eZ x (f.tmod (10 : Int)).toNat) (↑x_2 : Int) → False) → ∃ (_ : Unit), True ∧ True ∧ ((false = true ↔ True) ∧ True) ∧ True)) ∧ ((True → False) → ∃ (_ : Unit), True ∧ True ∧ ((false = true ↔ True) ∧
 True) ∧ True)) ∧ ∀ (_ : Unit), True → ((eZ x (f.tmod (10 : Int)).toNat = (0 : Int) → False) → ((-9223372036854775808 : Int) ≤ (↑x_2 : Int) + (1 : Int) ∧ (↑x_2 : Int) + (1 : Int) <
 (9223372036854775808 : Int)) ∧ ∃ (y : Nat), y.le (qL (f.tmod (10 : Int)).toNat).toNat ∧ (qL (f.tmod (10 : Int)).toNat).toNat - y < (qL (f.tmod (10 : Int)).toNat).toNat - x_2 ∧ ((↑x_2 : Int) + (1 :
 Int) = (↑y : Int) ∧ cntZ (fun (u : Int) => addA (qL (f.tmod (10 : Int)).toNat) (eZ x (f.tmod (10 : Int)).toNat) u = (0 : Int)) x_2 = cntZ (fun (u : Int) => addA (qL (f.tmod (10 : Int)).toNat) (eZ x
 (f.tmod (10 : Int)).toNat) u = (0 : Int)) y ∧ cntZ (fun (u : Int) => mulA (qL (f.tmod (10 : Int)).toNat) (eZ x (f.tmod (10 : Int)).toNat) u = (1 : Int)) x_2 = cntZ (fun (u : Int) => mulA (qL (f.tmod
 (10 : Int)).toNat) (eZ x (f.tmod (10 : Int)).toNat) u = (1 : Int)) y ∧ ((mulA (qL (f.tmod (10 : Int)).toNat) (eZ x (f.tmod (10 : Int)).toNat) (↑x_2 : Int) = (0 : Int) ↔ (↑x_2 : Int) = (0 : Int)) ↔
 True) ∧ True) ∧ ((True ↔ True) ∧ True) ∧ True) ∧ (eZ x (f.tmod (10 : Int)).toNat = (0 : Int) → ((-9223372036854775808 : Int) ≤ (↑x_2 : Int) + (1 : Int) ∧ (↑x_2 : Int) + (1 : Int) <
 (9223372036854775808 : Int)) ∧ ∃ (y : Nat), y.le (qL (f.tmod (10 : Int)).toNat).toNat ∧ (qL (f.tmod (10 : Int)).toNat).toNat - y < (qL (f.tmod (10 : Int)).toNat).toNat - x_2 ∧ ((↑x_2 : Int) + (1 :
 Int) = (↑y : Int) ∧ cntZ (fun (u : Int) => addA (qL (f.tmod (10 : Int)).toNat) (eZ x (f.tmod (10 : Int)).toNat) u = (0 : Int)) x_2 = cntZ (fun (u : Int) => addA (qL (f.tmod (10 : Int)).toNat) (eZ x
 (f.tmod (10 : Int)).toNat) u = (0 : Int)) y ∧ cntZ (fun (u : Int) => mulA (qL (f.tmod (10 : Int)).toNat) (eZ x (f.tmod (10 : Int)).toNat) u = (1 : Int)) x_2 = cntZ (fun (u : Int) => mulA (qL (f.tmod
 (10 : Int)).toNat) (eZ x (f.tmod (10 : Int)).toNat) u = (1 : Int)) y ∧ ((mulA (qL (f.tmod (10 : Int)).toNat) (eZ x (f.tmod (10 : Int)).toNat) (↑x_2 : Int) = (0 : Int) ↔ true = true) ↔ True) ∧ True) ∧
 ((True ↔ True) ∧ True) ∧ True)) ∧ ((True → False) → ((-9223372036854775808 : Int) ≤ (↑x_2 : Int) + (1 : Int) ∧ (↑x_2 : Int) + (1 : Int) < (9223372036854775808 : Int)) ∧ ∃ (y : Nat), y.le (qL (f.tmod
 (10 : Int)).toNat).toNat ∧ (qL (f.tmod (10 : Int)).toNat).toNat - y < (qL (f.tmod (10 : Int)).toNat).toNat - x_2 ∧ ((↑x_2 : Int) + (1 : Int) = (↑y : Int) ∧ cntZ (fun (u : Int) => addA (qL (f.tmod (10
 : Int)).toNat) (eZ x (f.tmod (10 : Int)).toNat) u = (0 : Int)) x_2 = cntZ (fun (u : Int) => addA (qL (f.tmod (10 : Int)).toNat) (eZ x (f.tmod (10 : Int)).toNat) u = (0 : Int)) y ∧ cntZ (fun (u : Int)
 => mulA (qL (f.tmod (10 : Int)).toNat) (eZ x (f.tmod (10 : Int)).toNat) u = (1 : Int)) x_2 = cntZ (fun (u : Int) => mulA (qL (f.tmod (10 : Int)).toNat) (eZ x (f.tmod (10 : Int)).toNat) u = (1 : Int))
 y ∧ (false = true ↔ True) ∧ True) ∧ ((True ↔ True) ∧ True) ∧ True)))) ∧ (((↑x_2 : Int) < qL (f.tmod (10 : Int)).toNat → False) → True ∧ ((8 : Int) = (0 : Int) → False) ∧ (0 : Int) ≤ x.tmod (8 : Int) ∧
 x.tmod (8 : Int) < (↑(8 : Nat) : Int) ∧ (x.tmod (8 : Int)).toNat < [D.int (0 : Int), D.int (1 : Int), D.int (6 : Int), D.int (10 : Int), D.int (12 : Int), D.int (14 : Int), D.int (15 : Int), D.int (17
 : Int)].length ∧ True ∧ (True → (True → (cntZ (fun (u : Int) => addA (qL (f.tmod (10 : Int)).toNat) (eZ x (f.tmod (10 : Int)).toNat) u = (0 : Int)) x_2 = (1 : Int) → (cntZ (fun (u : Int) => mulA (qL
 (f.tmod (10 : Int)).toNat) (eZ x (f.tmod (10 : Int)).toNat) u = (1 : Int)) x_2 = min (eZ x (f.tmod (10 : Int)).toNat) (1 : Int) → ((okF (qL (f.tmod (10 : Int)).toNat) (eZ x (f.tmod (10 : Int)).toNat)
 (qL (f.tmod (10 : Int)).toNat) → False) → ((okF (nL (x.tmod (8 : Int)).toNat) (0 : Int) (0 : Int) → False) → (true = true ↔ True)) ∧ (((okF (nL (x.tmod (8 : Int)).toNat) (0 : Int) (0 : Int) → False) →
 False) → (false = true ↔ True))) ∧ (((okF (qL (f.tmod (10 : Int)).toNat) (eZ x (f.tmod (10 : Int)).toNat) (qL (f.tmod (10 : Int)).toNat) → False) → False) → (false = true ↔ True))) ∧ ((cntZ (fun (u :
 Int) => mulA (qL (f.tmod (10 : Int)).toNat) (eZ x (f.tmod (10 : Int)).toNat) u = (1 : Int)) x_2 = min (eZ x (f.tmod (10 : Int)).toNat) (1 : Int) → False) → (false = true ↔ True))) ∧ ((cntZ (fun (u :
 Int) => addA (qL (f.tmod (10 : Int)).toNat) (eZ x (f.tmod (10 : Int)).toNat) u = (0 : Int)) x_2 = (1 : Int) → False) → (false = true ↔ True))) ∧ ((True → False) → (false = true ↔ True))) ∧ ((True →
 False) → (false = true ↔ True)))) := by intros; kernel_rfl
section
variable {q u v : Int}
theorem okT (hq : fldP q) (hu : eltP q u) (hv : eltP q v) : okF q u v = True := eq_true ⟨hq, hu, hv⟩
theorem addA_eq (hq : fldP q) (hu : eltP q u) (hv : eltP q v) : addA q u v = addZ q u v := by unfold addA; rw [if_pos ⟨hq, hu, hv⟩]
theorem mulA_eq (hq : fldP q) (hu : eltP q u) (hv : eltP q v) : mulA q u v = mulZ q u v := by unfold mulA; rw [if_pos ⟨hq, hu, hv⟩]
theorem eltA (hq : fldP q) (hu : eltP q u) (hv : eltP q v) : eltP q (addA q u v) := by rw [addA_eq hq hu hv]; exact add_elt hq hu hv
theorem eltM (hq : fldP q) (hu : eltP q u) (hv : eltP q v) : eltP q (mulA q u v) := by rw [mulA_eq hq hu hv]; exact mul_elt hq hu hv
theorem nnA (hq : fldP q) (hu : eltP q u) (hv : eltP q v) : (0 ≤ addA q u v) = True := eq_true (eltA hq hu hv).out.1
theorem ltA (hq : fldP q) (hu : eltP q u) (hv : eltP q v) : (addA q u v < q) = True := eq_true (eltA hq hu hv).out.2
theorem nnM (hq : fldP q) (hu : eltP q u) (hv : eltP q v) : (0 ≤ mulA q u v) = True := eq_true (eltM hq hu hv).out.1
theorem ltM (hq : fldP q) (hu : eltP q u) (hv : eltP q v) : (mulA q u v < q) = True := eq_true (eltM hq hu hv).out.2
end
theorem cnt_congr {f g : Int → Prop} : ∀ {n : Nat}, (∀ k : Nat, k < n → (f k ↔ g k)) → cntZ f n = cntZ g n
 | 0, _ => rfl
 | n + 1, h => by
  have ih := cnt_congr (n := n) fun k hk => h k (by omega)
  unfold cntZ
  rw [ih]
  by_cases hf : f n
  ·rw [if_pos hf, if_pos ((h n (by omega)).1 hf)]
  ·rw [if_neg hf, if_neg fun hg => hf ((h n (by omega)).2 hg)]
theorem cnt_yes {f : Int → Prop} {k : Nat} (h : f k) : cntZ f (k + 1) = cntZ f k + 1 := if_pos h
theorem cnt_no {f : Int → Prop} {k : Nat} (h : ¬ f k) : cntZ f (k + 1) = cntZ f k := if_neg h
theorem qL_fld (f : Int) (h : 0 ≤ f) : fldP (qL (f.tmod 10).toNat) := by
 have h1 := tmod_rng (p := 10) (by decide) h
 have : ∀ n : Nat, n < 10 → fldP (qL n) := fun n hn => by
  match n, hn with
  | 0, _ | 1, _ | 2, _ | 3, _ | 4, _ | 5, _ | 6, _ | 7, _ | 8, _ | 9, _ => exact ⟨by decide⟩
 exact this _ (by omega)
theorem nL_no : ∀ n : Nat, ¬ fldP (nL n) := fun n h => by
 match n with
 | 0 | 1 | 2 | 3 | 4 | 5 | 6 | 7 => exact absurd h.out (by decide)
 | n + 8 => exact absurd h.out (show ¬ ((0 : Int) = 2 ∨ (0 : Int) = 3 ∨ (0 : Int) = 4 ∨ (0 : Int) = 5 ∨ (0 : Int) = 7 ∨ (0 : Int) = 8 ∨ (0 : Int) = 9 ∨ (0 : Int) = 11 ∨ (0 : Int) = 13 ∨ (0 : Int) = 16) by decide)
theorem eZ_elt {x : Int} {n : Nat} (hq : fldP (qL n)) (h0 : 0 ≤ x) (h1 : x < 256) : eltP (qL n) (eZ x n) := by
 have : 2 ≤ qL n := by have := hq.out; omega
 have e : IntKind.i64.wrap x = x := by
  exact wrap_inR (k := .i64) ⟨by omega, by omega⟩
 unfold eZ
 rw [e]
 exact ⟨tmod_rng (by omega) h0⟩
theorem sl4 (f x y z : Int) (hf : 0 ≤ f ∧ f < 256) (hx : 0 ≤ x ∧ x < 256) (hy : 0 ≤ y ∧ y < 256) (hz : 0 ≤ z ∧ z < 256) : symFun (ctxj cf1 axAnn axJoin) 4 4 [.int .u8 f, .int .u8 x, .int .u8 y, .int .u8 z] (.prop True) := by
 rw [vc4]
 have hq := qL_fld f hf.1
 have ha := eZ_elt hq hx.1 hx.2
 have hb := eZ_elt hq hy.1 hy.2
 have hc := eZ_elt hq hz.1 hz.2
 have ht := tmod_rng (p := 10) (by decide) hf.1
 have ht8 := tmod_rng (p := 8) (by decide) hx.1
 have hn := nL_no (x.tmod 8).toNat
 generalize eZ x (f.tmod 10).toNat = A at ha ⊢
 generalize eZ y (f.tmod 10).toNat = B at hb ⊢
 generalize eZ z (f.tmod 10).toNat = C at hc ⊢
 generalize qL (f.tmod 10).toNat = Q at hq ha hb hc ⊢
 have hq2 : 2 ≤ Q ∧ Q ≤ 16 := by have := hq.out; omega
 have h0 : eltP Q 0 := ⟨by omega, by omega⟩
 have h1 : eltP Q 1 := ⟨by omega, by omega⟩
 have f1 : (addA Q A (addA Q B C) = addA Q (addA Q A B) C) = True := eq_true (by
  rw [addA_eq hq hb hc, addA_eq hq ha hb, addA_eq hq ha (add_elt hq hb hc), addA_eq hq (add_elt hq ha hb) hc]; exact add_assoc' hq ha hb hc)
 have f2 : (mulA Q A (mulA Q B C) = mulA Q (mulA Q A B) C) = True := eq_true (by
  rw [mulA_eq hq hb hc, mulA_eq hq ha hb, mulA_eq hq ha (mul_elt hq hb hc), mulA_eq hq (mul_elt hq ha hb) hc]; exact mul_assoc' hq ha hb hc)
 have f3 : (addA Q A B = addA Q B A) = True := eq_true (by rw [addA_eq hq ha hb, addA_eq hq hb ha]; exact add_comm' hq ha hb)
 have f4 : (mulA Q A B = mulA Q B A) = True := eq_true (by rw [mulA_eq hq ha hb, mulA_eq hq hb ha]; exact mul_comm' hq ha hb)
 have f5 : (mulA Q A (addA Q B C) = addA Q (mulA Q A B) (mulA Q A C)) = True := eq_true (by
  rw [addA_eq hq hb hc, mulA_eq hq ha hb, mulA_eq hq ha hc, mulA_eq hq ha (add_elt hq hb hc), addA_eq hq (mul_elt hq ha hb) (mul_elt hq ha hc)]; exact distrib' hq ha hb hc)
 have f6 : (addA Q A 0 = A) = True := eq_true (by rw [addA_eq hq ha h0]; exact add_zero' hq ha)
 have f7 : (mulA Q A 1 = A) = True := eq_true (by rw [mulA_eq hq ha h1]; exact mul_one' hq ha)
 have f8 : (mulA Q A 0 = 0) = True := eq_true (by rw [mulA_eq hq ha h0]; exact mul_zero' hq ha)
 have g1 : ((10 : Int) = 0) = False := by decide
 have g2 : (0 ≤ f.tmod 10) = True := eq_true ht.1
 have g3 : (f.tmod 10 < ((10 : Nat) : Int)) = True := eq_true ht.2
 have g4 : ((f.tmod 10).toNat < [D.int (2 : Int), D.int (3 : Int), D.int (4 : Int), D.int (5 : Int), D.int (7 : Int), D.int (8 : Int), D.int (9 : Int), D.int (11 : Int), D.int (13 : Int), D.int (16 : Int)].length) = True := eq_true (by show _ < 10; omega)
 have g5 : (Q = 0) = False := eq_false (by omega)
 simp only [okT hq, nnA hq, ltA hq, nnM hq, ltM hq, eltA hq, eltM hq, ha, hb, hc, h0, h1, f1, f2, f3, f4, f5, f6, f7, f8, g1, g2, g3, g4, g5, true_implies, false_implies, not_true_eq_false, not_false_eq_true, true_and, and_true, iff_self, exists_const, forall_const, implies_true, imp_false]
 refine And.intro ⟨0, Nat.zero_le _, rfl, rfl, rfl⟩ (fun k hk => ?_)
 have hk : k ≤ Q.toNat := hk
 have c1 := cnt_rng (fun u => addA Q A u = 0) k
 have c2 := cnt_rng (fun u => mulA Q A u = 1) k
 refine ⟨lim_of (by omega), fun hlt => ?_, fun hge => ?_⟩
 ·have hu : eltP Q (k : Int) := ⟨by omega, hlt⟩
  have z := mul_zero_iff hq ha hu
  rw [← mulA_eq hq ha hu] at z
  simp only [okT hq, nnA hq, ltA hq, nnM hq, ltM hq, ha, hu, true_implies, false_implies, not_true_eq_false, true_and, and_true, iff_self, exists_const, forall_const, implies_true, imp_false]
  have fin : ∀ {i j : Int} {E : Prop}, cntZ (fun u => addA Q A u = 0) (k + 1) = i → cntZ (fun u => mulA Q A u = 1) (k + 1) = j → E →
    (-9223372036854775808 ≤ (k : Int) + 1 ∧ (k : Int) + 1 < 9223372036854775808) ∧ ∃ y : Nat, Nat.le y Q.toNat ∧ Q.toNat - y < Q.toNat - k ∧ ((k : Int) + 1 = y ∧ i = cntZ (fun u => addA Q A u = 0) y ∧ j = cntZ (fun u => mulA Q A u = 1) y ∧ (E ↔ True)) := fun h1 h2 h3 =>
   ⟨⟨by omega, by omega⟩, k + 1, show k + 1 ≤ _ by omega, by omega, by omega, h1.symm, h2.symm, iff_of_true h3 trivial⟩
  have e1 : ¬ A = 0 → (mulA Q A (k : Int) = 0 ↔ (k : Int) = 0) := fun h => ⟨fun w => (z.1 w).resolve_left h, fun w => z.2 (.inr w)⟩
  have e2 : A = 0 → (mulA Q A (k : Int) = 0 ↔ True) := fun h => iff_of_true (z.2 (.inl h)) trivial
  have y1 := cnt_yes (f := fun u => addA Q A u = 0) (k := k)
  have n1 := cnt_no (f := fun u => addA Q A u = 0) (k := k)
  have y2 := cnt_yes (f := fun u => mulA Q A u = 1) (k := k)
  have n2 := cnt_no (f := fun u => mulA Q A u = 1) (k := k)
  exact ⟨fun p => ⟨⟨by omega, by omega⟩, fun r => ⟨⟨by omega, by omega⟩, fun s => fin (y1 p) (y2 r) (e1 s), fun s => fin (y1 p) (y2 r) (e2 s)⟩, fun r => ⟨fun s => fin (y1 p) (n2 r) (e1 s), fun s => fin (y1 p) (n2 r) (e2 s)⟩⟩,
   fun p => ⟨fun r => ⟨⟨by omega, by omega⟩, fun s => fin (n1 p) (y2 r) (e1 s), fun s => fin (n1 p) (y2 r) (e2 s)⟩, fun r => ⟨fun s => fin (n1 p) (n2 r) (e1 s), fun s => fin (n1 p) (n2 r) (e2 s)⟩⟩⟩
 ·have hkk : k = Q.toNat := by have := not_of hge; omega
  have k1 : cntZ (fun u => addA Q A u = 0) k = 1 := by
   rw [hkk, ← opp_one hq ha]
   exact cnt_congr fun j hj => by rw [addA_eq hq ha ⟨by omega, by omega⟩]
  have k2 : cntZ (fun u => mulA Q A u = 1) k = min A 1 := by
   rw [hkk, ← inv_one hq ha]
   exact cnt_congr fun j hj => by rw [mulA_eq hq ha ⟨by omega, by omega⟩]
  have n1 : okF Q A Q = False := eq_false fun h => absurd h.b.out.2 (Int.lt_irrefl _)
  have n2 : okF (nL (x.tmod 8).toNat) 0 0 = False := eq_false fun h => hn h.f
  simp only [k1, k2, n1, n2, true_implies, false_implies, not_true_eq_false, not_false_eq_true, true_and, and_true, iff_self, implies_true, imp_false]
  exact ⟨by decide, ht8.1, ht8.2, show _ < 8 by omega⟩
end Go.Ev

end
