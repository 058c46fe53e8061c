/-
  Part of the engine that the claim is proved with: it states nothing of the document by itself.
-/
import Derived.Test.YtenmglepjkflhaaDoorCoreG31
open Go.Proofs
namespace Go.Ev
set_option maxRecDepth 100000
set_option maxHeartbeats 4000000
instance (q a : Int) : Decidable (eltP q a) := decidable_of_iff (0 ≤ a ∧ a < q) ⟨fun h => ⟨h⟩, fun h => h.out⟩
theorem all1 {n : Nat} {p : Int → Prop} (i : ∀ a, Decidable (p a)) (h : upto n (fun a => @decide (p (a : Int)) (i a)) = true) {a : Int} (ha : eltP n a) : p a := by
 obtain ⟨a, h1, rfl⟩ := elt_nat ha
 exact @of_decide_eq_true _ _ (upto_all h a h1)
theorem all2 {n m : Nat} {p : Int → Int → Prop} (i : ∀ a b, Decidable (p a b)) (h : upto n (fun a => upto m fun b => @decide (p (a : Int) (b : Int)) (i a b)) = true) {a b : Int} (ha : eltP n a) (hb : eltP m b) : p a b := by
 obtain ⟨a, h1, rfl⟩ := elt_nat ha; obtain ⟨b, h2, rfl⟩ := elt_nat hb
 exact @of_decide_eq_true _ _ (upto_all (upto_all h a h1) b h2)
theorem all3 {n m k : Nat} {p : Int → Int → Int → Prop} (i : ∀ a b c, Decidable (p a b c)) (h : upto n (fun a => upto m fun b => upto k fun c => @decide (p (a : Int) (b : Int) (c : Int)) (i a b c)) = true) {a b c : Int} (ha : eltP n a) (hb : eltP m b) (hc : eltP k c) : p a b c := by
 obtain ⟨a, h1, rfl⟩ := elt_nat ha; obtain ⟨b, h2, rfl⟩ := elt_nat hb; obtain ⟨c, h3, rfl⟩ := elt_nat hc
 exact @of_decide_eq_true _ _ (upto_all (upto_all (upto_all h a h1) b h2) c h3)
def p10q2 (a d b : Int) : Prop := (((1 : Int) = (0 : Int) → False) ∧ fits64 (a.tdiv (1 : Int)) ∧ ((1 : Int) = (0 : Int) → False) ∧ fits64 (b.tdiv (1 : Int)) ∧ fits64 (d * b.tdiv (1 : Int)) ∧ fits64 (a.tdiv (1 : Int) + d
* b.tdiv (1 : Int)) ∧ ((2 : Int) = (0 : Int) → False) ∧ fits64 ((a.tdiv (1 : Int) + d * b.tdiv (1 : Int)).tmod (2 : Int) * (1 : Int)) ∧ fits64 ((0 : Int) + (a.tdiv (1 : Int) + d * b.tdiv (1 : Int)).tmod (2 : Int) * (1 :
Int)) ∧ (0 : Int) + (a.tdiv (1 : Int) + d * b.tdiv (1 : Int)).tmod (2 : Int) * (1 : Int) = plusZ (2 : Int) (2 : Int) a d b)
instance d10q2 : ∀ a d b : Int, Decidable (p10q2 a d b) := fun a d b => by delta p10q2; repeat' (first | refine @instDecidableAnd _ _ ?_ ?_ | refine @instDecidableIff _ _ ?_ ?_ | refine @instDecidableForall _ _ ?_ ?_ | infer_instance)
theorem vc10q2 : ∀ (a d b : Int), symFun (ctx cc0 noAnn) 3 (65 : FuncId) [fieldV 2 2 0, V.int IntKind.i64 a, V.int IntKind.i64 d, V.int IntKind.i64 b] (V.int IntKind.i64 (plusZ 2 2 a d b)) = p10q2 a d b := by intros; kernel_rfl
theorem s10q2 (a d b : Int) (ha : eltP 2 a) (hd : eltP 2 d) (hb : eltP 2 b) : symFun (ctx cc0 noAnn) 3 65 [fieldV 2 2 0, .int .i64 a, .int .i64 d, .int .i64 b] (.int .i64 (plusZ 2 2 a d b)) := by
 rw [vc10q2]; exact all3 (i := fun _ _ _ => inferInstance) (p := p10q2) (a := a) (b := d) (c := b) (n := 2) (m := 2) (k := 2) (by kernel_rfl) ha hd hb
def p27q2 (a : Int) : Prop := ((Int.ofNat (1 : Nat) = (0 : Int) → False) ∧ fits64 (a.tmod (Int.ofNat (1 : Nat)) * (2 : Int)) ∧ (Int.ofNat (1 : Nat) = (0 : Int) → False) ∧ fits64 (a.tdiv (Int.ofNat (1 : Nat))) ∧ (((2 :
Int) = (2 : Int) ∧ (2 : Int) = (2 : Int) ∧ (0 : Int) = (0 : Int)) ∧ eltP (2 : Int) (a.tmod (Int.ofNat (1 : Nat)) * (2 : Int)) ∧ eltP (2 : Int) (a.tdiv (Int.ofNat (1 : Nat))) ∧ eltP (2 : Int) (0 : Int)) ∧ plusZ (2 : Int)
(2 : Int) (a.tmod (Int.ofNat (1 : Nat)) * (2 : Int)) (a.tdiv (Int.ofNat (1 : Nat))) (0 : Int) = raisedZ (2 : Int) (2 : Int) (0 : Int) a)
instance d27q2 : ∀ a : Int, Decidable (p27q2 a) := fun a => by delta p27q2; repeat' (first | refine @instDecidableAnd _ _ ?_ ?_ | refine @instDecidableIff _ _ ?_ ?_ | refine @instDecidableForall _ _ ?_ ?_ | infer_instance)
theorem vc27q2 : ∀ (a : Int), symFun (ctx (cq1 2 2 0) noAnn) 3 (76 : FuncId) [fieldV 2 2 0, V.int IntKind.i64 a] (V.int IntKind.i64 (raisedZ 2 2 0 a)) = p27q2 a := by intros; kernel_rfl
theorem s27q2 (a : Int) (ha : eltP 2 a) : symFun (ctx (cq1 2 2 0) noAnn) 3 76 [fieldV 2 2 0, .int .i64 a] (.int .i64 (raisedZ 2 2 0 a)) := by
 rw [vc27q2]; exact all1 (i := fun _ => inferInstance) (p := p27q2) (a := a) (n := 2) (by kernel_rfl) ha
def p11q2 (a b : Int) : Prop := ((((2 : Int) = (2 : Int) ∧ (2 : Int) = (2 : Int) ∧ (0 : Int) = (0 : Int)) ∧ eltP (2 : Int) (0 : Int)) ∧ (Int.ofNat (1 : Nat) = (0 : Int) → False) ∧ fits64 (b.tdiv (Int.ofNat (1 : Nat))) ∧
((2 : Int) = (0 : Int) → False) ∧ (((2 : Int) = (2 : Int) ∧ (2 : Int) = (2 : Int) ∧ (0 : Int) = (0 : Int)) ∧ eltP (2 : Int) (raisedZ (2 : Int) (2 : Int) (0 : Int) (0 : Int)) ∧ eltP (2 : Int) ((b.tdiv (Int.ofNat (1 :
Nat))).tmod (2 : Int)) ∧ eltP (2 : Int) a) ∧ plusZ (2 : Int) (2 : Int) (raisedZ (2 : Int) (2 : Int) (0 : Int) (0 : Int)) ((b.tdiv (Int.ofNat (1 : Nat))).tmod (2 : Int)) a = mulZ (2 : Int) a b)
instance d11q2 : ∀ a b : Int, Decidable (p11q2 a b) := fun a b => by delta p11q2; repeat' (first | refine @instDecidableAnd _ _ ?_ ?_ | refine @instDecidableIff _ _ ?_ ?_ | refine @instDecidableForall _ _ ?_ ?_ | infer_instance)
theorem vc11q2 : ∀ (a b : Int), symFun (ctx (cq2 2 2 0) noAnn) 4 (58 : FuncId) [fieldV 2 2 0, V.int IntKind.i64 a, V.int IntKind.i64 b] (V.int IntKind.i64 (mulZ 2 a b)) = p11q2 a b := by intros; kernel_rfl
theorem s11q2 (a b : Int) (ha : eltP 2 a) (hb : eltP 2 b) : symFun (ctx (cq2 2 2 0) noAnn) 4 58 [fieldV 2 2 0, .int .i64 a, .int .i64 b] (.int .i64 (mulZ 2 a b)) := by
 rw [vc11q2]; exact all2 (i := fun _ _ => inferInstance) (p := p11q2) (a := a) (b := b) (n := 2) (m := 2) (by kernel_rfl) ha hb
def p1q2 (a b : Int) : Prop := plusZ 2 2 a 1 b = addZ 2 a b
instance d1q2 : ∀ a b : Int, Decidable (p1q2 a b) := fun a b => by delta p1q2; infer_instance
theorem one2 (a b : Int) (ha : eltP 2 a) (hb : eltP 2 b) : plusZ 2 2 a 1 b = addZ 2 a b := all2 (i := fun _ _ => inferInstance) (p := p1q2) (a := a) (b := b) (n := 2) (m := 2) (by kernel_rfl) ha hb
def p10q3 (a d b : Int) : Prop := (((1 : Int) = (0 : Int) → False) ∧ fits64 (a.tdiv (1 : Int)) ∧ ((1 : Int) = (0 : Int) → False) ∧ fits64 (b.tdiv (1 : Int)) ∧ fits64 (d * b.tdiv (1 : Int)) ∧ fits64 (a.tdiv (1 : Int) + d
* b.tdiv (1 : Int)) ∧ ((3 : Int) = (0 : Int) → False) ∧ fits64 ((a.tdiv (1 : Int) + d * b.tdiv (1 : Int)).tmod (3 : Int) * (1 : Int)) ∧ fits64 ((0 : Int) + (a.tdiv (1 : Int) + d * b.tdiv (1 : Int)).tmod (3 : Int) * (1 :
Int)) ∧ (0 : Int) + (a.tdiv (1 : Int) + d * b.tdiv (1 : Int)).tmod (3 : Int) * (1 : Int) = plusZ (3 : Int) (3 : Int) a d b)
instance d10q3 : ∀ a d b : Int, Decidable (p10q3 a d b) := fun a d b => by delta p10q3; repeat' (first | refine @instDecidableAnd _ _ ?_ ?_ | refine @instDecidableIff _ _ ?_ ?_ | refine @instDecidableForall _ _ ?_ ?_ | infer_instance)
theorem vc10q3 : ∀ (a d b : Int), symFun (ctx cc0 noAnn) 3 (65 : FuncId) [fieldV 3 3 0, V.int IntKind.i64 a, V.int IntKind.i64 d, V.int IntKind.i64 b] (V.int IntKind.i64 (plusZ 3 3 a d b)) = p10q3 a d b := by intros; kernel_rfl
theorem s10q3 (a d b : Int) (ha : eltP 3 a) (hd : eltP 3 d) (hb : eltP 3 b) : symFun (ctx cc0 noAnn) 3 65 [fieldV 3 3 0, .int .i64 a, .int .i64 d, .int .i64 b] (.int .i64 (plusZ 3 3 a d b)) := by
 rw [vc10q3]; exact all3 (i := fun _ _ _ => inferInstance) (p := p10q3) (a := a) (b := d) (c := b) (n := 3) (m := 3) (k := 3) (by kernel_rfl) ha hd hb
def p27q3 (a : Int) : Prop := ((Int.ofNat (1 : Nat) = (0 : Int) → False) ∧ fits64 (a.tmod (Int.ofNat (1 : Nat)) * (3 : Int)) ∧ (Int.ofNat (1 : Nat) = (0 : Int) → False) ∧ fits64 (a.tdiv (Int.ofNat (1 : Nat))) ∧ (((3 :
Int) = (3 : Int) ∧ (3 : Int) = (3 : Int) ∧ (0 : Int) = (0 : Int)) ∧ eltP (3 : Int) (a.tmod (Int.ofNat (1 : Nat)) * (3 : Int)) ∧ eltP (3 : Int) (a.tdiv (Int.ofNat (1 : Nat))) ∧ eltP (3 : Int) (0 : Int)) ∧ plusZ (3 : Int)
(3 : Int) (a.tmod (Int.ofNat (1 : Nat)) * (3 : Int)) (a.tdiv (Int.ofNat (1 : Nat))) (0 : Int) = raisedZ (3 : Int) (3 : Int) (0 : Int) a)
instance d27q3 : ∀ a : Int, Decidable (p27q3 a) := fun a => by delta p27q3; repeat' (first | refine @instDecidableAnd _ _ ?_ ?_ | refine @instDecidableIff _ _ ?_ ?_ | refine @instDecidableForall _ _ ?_ ?_ | infer_instance)
theorem vc27q3 : ∀ (a : Int), symFun (ctx (cq1 3 3 0) noAnn) 3 (76 : FuncId) [fieldV 3 3 0, V.int IntKind.i64 a] (V.int IntKind.i64 (raisedZ 3 3 0 a)) = p27q3 a := by intros; kernel_rfl
theorem s27q3 (a : Int) (ha : eltP 3 a) : symFun (ctx (cq1 3 3 0) noAnn) 3 76 [fieldV 3 3 0, .int .i64 a] (.int .i64 (raisedZ 3 3 0 a)) := by
 rw [vc27q3]; exact all1 (i := fun _ => inferInstance) (p := p27q3) (a := a) (n := 3) (by kernel_rfl) ha
def p11q3 (a b : Int) : Prop := ((((3 : Int) = (3 : Int) ∧ (3 : Int) = (3 : Int) ∧ (0 : Int) = (0 : Int)) ∧ eltP (3 : Int) (0 : Int)) ∧ (Int.ofNat (1 : Nat) = (0 : Int) → False) ∧ fits64 (b.tdiv (Int.ofNat (1 : Nat))) ∧
((3 : Int) = (0 : Int) → False) ∧ (((3 : Int) = (3 : Int) ∧ (3 : Int) = (3 : Int) ∧ (0 : Int) = (0 : Int)) ∧ eltP (3 : Int) (raisedZ (3 : Int) (3 : Int) (0 : Int) (0 : Int)) ∧ eltP (3 : Int) ((b.tdiv (Int.ofNat (1 :
Nat))).tmod (3 : Int)) ∧ eltP (3 : Int) a) ∧ plusZ (3 : Int) (3 : Int) (raisedZ (3 : Int) (3 : Int) (0 : Int) (0 : Int)) ((b.tdiv (Int.ofNat (1 : Nat))).tmod (3 : Int)) a = mulZ (3 : Int) a b)
instance d11q3 : ∀ a b : Int, Decidable (p11q3 a b) := fun a b => by delta p11q3; repeat' (first | refine @instDecidableAnd _ _ ?_ ?_ | refine @instDecidableIff _ _ ?_ ?_ | refine @instDecidableForall _ _ ?_ ?_ | infer_instance)
theorem vc11q3 : ∀ (a b : Int), symFun (ctx (cq2 3 3 0) noAnn) 4 (58 : FuncId) [fieldV 3 3 0, V.int IntKind.i64 a, V.int IntKind.i64 b] (V.int IntKind.i64 (mulZ 3 a b)) = p11q3 a b := by intros; kernel_rfl
theorem s11q3 (a b : Int) (ha : eltP 3 a) (hb : eltP 3 b) : symFun (ctx (cq2 3 3 0) noAnn) 4 58 [fieldV 3 3 0, .int .i64 a, .int .i64 b] (.int .i64 (mulZ 3 a b)) := by
 rw [vc11q3]; exact all2 (i := fun _ _ => inferInstance) (p := p11q3) (a := a) (b := b) (n := 3) (m := 3) (by kernel_rfl) ha hb
def p1q3 (a b : Int) : Prop := plusZ 3 3 a 1 b = addZ 3 a b
instance d1q3 : ∀ a b : Int, Decidable (p1q3 a b) := fun a b => by delta p1q3; infer_instance
theorem one3 (a b : Int) (ha : eltP 3 a) (hb : eltP 3 b) : plusZ 3 3 a 1 b = addZ 3 a b := all2 (i := fun _ _ => inferInstance) (p := p1q3) (a := a) (b := b) (n := 3) (m := 3) (by kernel_rfl) ha hb
def p10q4 (a d b : Int) : Prop := (((1 : Int) = (0 : Int) → False) ∧ fits64 (a.tdiv (1 : Int)) ∧ ((1 : Int) = (0 : Int) → False) ∧ fits64 (b.tdiv (1 : Int)) ∧ fits64 (d * b.tdiv (1 : Int)) ∧ fits64 (a.tdiv (1 : Int) + d
* b.tdiv (1 : Int)) ∧ ((2 : Int) = (0 : Int) → False) ∧ fits64 ((a.tdiv (1 : Int) + d * b.tdiv (1 : Int)).tmod (2 : Int) * (1 : Int)) ∧ fits64 ((0 : Int) + (a.tdiv (1 : Int) + d * b.tdiv (1 : Int)).tmod (2 : Int) * (1 :
Int)) ∧ (Int.ofNat (2 : Nat) = (0 : Int) → False) ∧ fits64 (a.tdiv (Int.ofNat (2 : Nat))) ∧ (Int.ofNat (2 : Nat) = (0 : Int) → False) ∧ fits64 (b.tdiv (Int.ofNat (2 : Nat))) ∧ fits64 (d * b.tdiv (Int.ofNat (2 : Nat))) ∧
fits64 (a.tdiv (Int.ofNat (2 : Nat)) + d * b.tdiv (Int.ofNat (2 : Nat))) ∧ ((2 : Int) = (0 : Int) → False) ∧ fits64 ((a.tdiv (Int.ofNat (2 : Nat)) + d * b.tdiv (Int.ofNat (2 : Nat))).tmod (2 : Int) * Int.ofNat (2 : Nat))
∧ fits64 ((0 : Int) + (a.tdiv (1 : Int) + d * b.tdiv (1 : Int)).tmod (2 : Int) * (1 : Int) + (a.tdiv (Int.ofNat (2 : Nat)) + d * b.tdiv (Int.ofNat (2 : Nat))).tmod (2 : Int) * Int.ofNat (2 : Nat)) ∧ (0 : Int) + (a.tdiv
(1 : Int) + d * b.tdiv (1 : Int)).tmod (2 : Int) * (1 : Int) + (a.tdiv (Int.ofNat (2 : Nat)) + d * b.tdiv (Int.ofNat (2 : Nat))).tmod (2 : Int) * Int.ofNat (2 : Nat) = plusZ (4 : Int) (2 : Int) a d b)
instance d10q4 : ∀ a d b : Int, Decidable (p10q4 a d b) := fun a d b => by delta p10q4; repeat' (first | refine @instDecidableAnd _ _ ?_ ?_ | refine @instDecidableIff _ _ ?_ ?_ | refine @instDecidableForall _ _ ?_ ?_ | infer_instance)
theorem vc10q4 : ∀ (a d b : Int), symFun (ctx cc0 noAnn) 3 (65 : FuncId) [fieldV 4 2 3, V.int IntKind.i64 a, V.int IntKind.i64 d, V.int IntKind.i64 b] (V.int IntKind.i64 (plusZ 4 2 a d b)) = p10q4 a d b := by intros; kernel_rfl
theorem s10q4 (a d b : Int) (ha : eltP 4 a) (hd : eltP 2 d) (hb : eltP 4 b) : symFun (ctx cc0 noAnn) 3 65 [fieldV 4 2 3, .int .i64 a, .int .i64 d, .int .i64 b] (.int .i64 (plusZ 4 2 a d b)) := by
 rw [vc10q4]; exact all3 (i := fun _ _ _ => inferInstance) (p := p10q4) (a := a) (b := d) (c := b) (n := 4) (m := 2) (k := 4) (by kernel_rfl) ha hd hb
def p27q4 (a : Int) : Prop := ((Int.ofNat (2 : Nat) = (0 : Int) → False) ∧ fits64 (a.tmod (Int.ofNat (2 : Nat)) * (2 : Int)) ∧ (Int.ofNat (2 : Nat) = (0 : Int) → False) ∧ fits64 (a.tdiv (Int.ofNat (2 : Nat))) ∧ (((4 :
Int) = (4 : Int) ∧ (2 : Int) = (2 : Int) ∧ (3 : Int) = (3 : Int)) ∧ eltP (4 : Int) (a.tmod (Int.ofNat (2 : Nat)) * (2 : Int)) ∧ eltP (2 : Int) (a.tdiv (Int.ofNat (2 : Nat))) ∧ eltP (4 : Int) (3 : Int)) ∧ plusZ (4 : Int)
(2 : Int) (a.tmod (Int.ofNat (2 : Nat)) * (2 : Int)) (a.tdiv (Int.ofNat (2 : Nat))) (3 : Int) = raisedZ (4 : Int) (2 : Int) (3 : Int) a)
instance d27q4 : ∀ a : Int, Decidable (p27q4 a) := fun a => by delta p27q4; repeat' (first | refine @instDecidableAnd _ _ ?_ ?_ | refine @instDecidableIff _ _ ?_ ?_ | refine @instDecidableForall _ _ ?_ ?_ | infer_instance)
theorem vc27q4 : ∀ (a : Int), symFun (ctx (cq1 4 2 3) noAnn) 3 (76 : FuncId) [fieldV 4 2 3, V.int IntKind.i64 a] (V.int IntKind.i64 (raisedZ 4 2 3 a)) = p27q4 a := by intros; kernel_rfl
theorem s27q4 (a : Int) (ha : eltP 4 a) : symFun (ctx (cq1 4 2 3) noAnn) 3 76 [fieldV 4 2 3, .int .i64 a] (.int .i64 (raisedZ 4 2 3 a)) := by
 rw [vc27q4]; exact all1 (i := fun _ => inferInstance) (p := p27q4) (a := a) (n := 4) (by kernel_rfl) ha
def p11q4 (a b : Int) : Prop := ((((4 : Int) = (4 : Int) ∧ (2 : Int) = (2 : Int) ∧ (3 : Int) = (3 : Int)) ∧ eltP (4 : Int) (0 : Int)) ∧ (Int.ofNat (2 : Nat) = (0 : Int) → False) ∧ fits64 (b.tdiv (Int.ofNat (2 : Nat))) ∧
((2 : Int) = (0 : Int) → False) ∧ (((4 : Int) = (4 : Int) ∧ (2 : Int) = (2 : Int) ∧ (3 : Int) = (3 : Int)) ∧ eltP (4 : Int) (raisedZ (4 : Int) (2 : Int) (3 : Int) (0 : Int)) ∧ eltP (2 : Int) ((b.tdiv (Int.ofNat (2 :
Nat))).tmod (2 : Int)) ∧ eltP (4 : Int) a) ∧ (((4 : Int) = (4 : Int) ∧ (2 : Int) = (2 : Int) ∧ (3 : Int) = (3 : Int)) ∧ eltP (4 : Int) (plusZ (4 : Int) (2 : Int) (raisedZ (4 : Int) (2 : Int) (3 : Int) (0 : Int)) ((b.tdiv
(Int.ofNat (2 : Nat))).tmod (2 : Int)) a)) ∧ (Int.ofNat (1 : Nat) = (0 : Int) → False) ∧ fits64 (b.tdiv (Int.ofNat (1 : Nat))) ∧ ((2 : Int) = (0 : Int) → False) ∧ (((4 : Int) = (4 : Int) ∧ (2 : Int) = (2 : Int) ∧ (3 :
Int) = (3 : Int)) ∧ eltP (4 : Int) (raisedZ (4 : Int) (2 : Int) (3 : Int) (plusZ (4 : Int) (2 : Int) (raisedZ (4 : Int) (2 : Int) (3 : Int) (0 : Int)) ((b.tdiv (Int.ofNat (2 : Nat))).tmod (2 : Int)) a)) ∧ eltP (2 : Int)
((b.tdiv (Int.ofNat (1 : Nat))).tmod (2 : Int)) ∧ eltP (4 : Int) a) ∧ plusZ (4 : Int) (2 : Int) (raisedZ (4 : Int) (2 : Int) (3 : Int) (plusZ (4 : Int) (2 : Int) (raisedZ (4 : Int) (2 : Int) (3 : Int) (0 : Int)) ((b.tdiv
(Int.ofNat (2 : Nat))).tmod (2 : Int)) a)) ((b.tdiv (Int.ofNat (1 : Nat))).tmod (2 : Int)) a = mulZ (4 : Int) a b)
instance d11q4 : ∀ a b : Int, Decidable (p11q4 a b) := fun a b => by delta p11q4; repeat' (first | refine @instDecidableAnd _ _ ?_ ?_ | refine @instDecidableIff _ _ ?_ ?_ | refine @instDecidableForall _ _ ?_ ?_ | infer_instance)
theorem vc11q4 : ∀ (a b : Int), symFun (ctx (cq2 4 2 3) noAnn) 4 (58 : FuncId) [fieldV 4 2 3, V.int IntKind.i64 a, V.int IntKind.i64 b] (V.int IntKind.i64 (mulZ 4 a b)) = p11q4 a b := by intros; kernel_rfl
theorem s11q4 (a b : Int) (ha : eltP 4 a) (hb : eltP 4 b) : symFun (ctx (cq2 4 2 3) noAnn) 4 58 [fieldV 4 2 3, .int .i64 a, .int .i64 b] (.int .i64 (mulZ 4 a b)) := by
 rw [vc11q4]; exact all2 (i := fun _ _ => inferInstance) (p := p11q4) (a := a) (b := b) (n := 4) (m := 4) (by kernel_rfl) ha hb
def p1q4 (a b : Int) : Prop := plusZ 4 2 a 1 b = addZ 4 a b
instance d1q4 : ∀ a b : Int, Decidable (p1q4 a b) := fun a b => by delta p1q4; infer_instance
theorem one4 (a b : Int) (ha : eltP 4 a) (hb : eltP 4 b) : plusZ 4 2 a 1 b = addZ 4 a b := all2 (i := fun _ _ => inferInstance) (p := p1q4) (a := a) (b := b) (n := 4) (m := 4) (by kernel_rfl) ha hb
def p10q5 (a d b : Int) : Prop := (((1 : Int) = (0 : Int) → False) ∧ fits64 (a.tdiv (1 : Int)) ∧ ((1 : Int) = (0 : Int) → False) ∧ fits64 (b.tdiv (1 : Int)) ∧ fits64 (d * b.tdiv (1 : Int)) ∧ fits64 (a.tdiv (1 : Int) + d
* b.tdiv (1 : Int)) ∧ ((5 : Int) = (0 : Int) → False) ∧ fits64 ((a.tdiv (1 : Int) + d * b.tdiv (1 : Int)).tmod (5 : Int) * (1 : Int)) ∧ fits64 ((0 : Int) + (a.tdiv (1 : Int) + d * b.tdiv (1 : Int)).tmod (5 : Int) * (1 :
Int)) ∧ (0 : Int) + (a.tdiv (1 : Int) + d * b.tdiv (1 : Int)).tmod (5 : Int) * (1 : Int) = plusZ (5 : Int) (5 : Int) a d b)
instance d10q5 : ∀ a d b : Int, Decidable (p10q5 a d b) := fun a d b => by delta p10q5; repeat' (first | refine @instDecidableAnd _ _ ?_ ?_ | refine @instDecidableIff _ _ ?_ ?_ | refine @instDecidableForall _ _ ?_ ?_ | infer_instance)
theorem vc10q5 : ∀ (a d b : Int), symFun (ctx cc0 noAnn) 3 (65 : FuncId) [fieldV 5 5 0, V.int IntKind.i64 a, V.int IntKind.i64 d, V.int IntKind.i64 b] (V.int IntKind.i64 (plusZ 5 5 a d b)) = p10q5 a d b := by intros; kernel_rfl
theorem s10q5 (a d b : Int) (ha : eltP 5 a) (hd : eltP 5 d) (hb : eltP 5 b) : symFun (ctx cc0 noAnn) 3 65 [fieldV 5 5 0, .int .i64 a, .int .i64 d, .int .i64 b] (.int .i64 (plusZ 5 5 a d b)) := by
 rw [vc10q5]; exact all3 (i := fun _ _ _ => inferInstance) (p := p10q5) (a := a) (b := d) (c := b) (n := 5) (m := 5) (k := 5) (by kernel_rfl) ha hd hb
def p27q5 (a : Int) : Prop := ((Int.ofNat (1 : Nat) = (0 : Int) → False) ∧ fits64 (a.tmod (Int.ofNat (1 : Nat)) * (5 : Int)) ∧ (Int.ofNat (1 : Nat) = (0 : Int) → False) ∧ fits64 (a.tdiv (Int.ofNat (1 : Nat))) ∧ (((5 :
Int) = (5 : Int) ∧ (5 : Int) = (5 : Int) ∧ (0 : Int) = (0 : Int)) ∧ eltP (5 : Int) (a.tmod (Int.ofNat (1 : Nat)) * (5 : Int)) ∧ eltP (5 : Int) (a.tdiv (Int.ofNat (1 : Nat))) ∧ eltP (5 : Int) (0 : Int)) ∧ plusZ (5 : Int)
(5 : Int) (a.tmod (Int.ofNat (1 : Nat)) * (5 : Int)) (a.tdiv (Int.ofNat (1 : Nat))) (0 : Int) = raisedZ (5 : Int) (5 : Int) (0 : Int) a)
instance d27q5 : ∀ a : Int, Decidable (p27q5 a) := fun a => by delta p27q5; repeat' (first | refine @instDecidableAnd _ _ ?_ ?_ | refine @instDecidableIff _ _ ?_ ?_ | refine @instDecidableForall _ _ ?_ ?_ | infer_instance)
theorem vc27q5 : ∀ (a : Int), symFun (ctx (cq1 5 5 0) noAnn) 3 (76 : FuncId) [fieldV 5 5 0, V.int IntKind.i64 a] (V.int IntKind.i64 (raisedZ 5 5 0 a)) = p27q5 a := by intros; kernel_rfl
theorem s27q5 (a : Int) (ha : eltP 5 a) : symFun (ctx (cq1 5 5 0) noAnn) 3 76 [fieldV 5 5 0, .int .i64 a] (.int .i64 (raisedZ 5 5 0 a)) := by
 rw [vc27q5]; exact all1 (i := fun _ => inferInstance) (p := p27q5) (a := a) (n := 5) (by kernel_rfl) ha
def p11q5 (a b : Int) : Prop := ((((5 : Int) = (5 : Int) ∧ (5 : Int) = (5 : Int) ∧ (0 : Int) = (0 : Int)) ∧ eltP (5 : Int) (0 : Int)) ∧ (Int.ofNat (1 : Nat) = (0 : Int) → False) ∧ fits64 (b.tdiv (Int.ofNat (1 : Nat))) ∧
((5 : Int) = (0 : Int) → False) ∧ (((5 : Int) = (5 : Int) ∧ (5 : Int) = (5 : Int) ∧ (0 : Int) = (0 : Int)) ∧ eltP (5 : Int) (raisedZ (5 : Int) (5 : Int) (0 : Int) (0 : Int)) ∧ eltP (5 : Int) ((b.tdiv (Int.ofNat (1 :
Nat))).tmod (5 : Int)) ∧ eltP (5 : Int) a) ∧ plusZ (5 : Int) (5 : Int) (raisedZ (5 : Int) (5 : Int) (0 : Int) (0 : Int)) ((b.tdiv (Int.ofNat (1 : Nat))).tmod (5 : Int)) a = mulZ (5 : Int) a b)
instance d11q5 : ∀ a b : Int, Decidable (p11q5 a b) := fun a b => by delta p11q5; repeat' (first | refine @instDecidableAnd _ _ ?_ ?_ | refine @instDecidableIff _ _ ?_ ?_ | refine @instDecidableForall _ _ ?_ ?_ | infer_instance)
theorem vc11q5 : ∀ (a b : Int), symFun (ctx (cq2 5 5 0) noAnn) 4 (58 : FuncId) [fieldV 5 5 0, V.int IntKind.i64 a, V.int IntKind.i64 b] (V.int IntKind.i64 (mulZ 5 a b)) = p11q5 a b := by intros; kernel_rfl
theorem s11q5 (a b : Int) (ha : eltP 5 a) (hb : eltP 5 b) : symFun (ctx (cq2 5 5 0) noAnn) 4 58 [fieldV 5 5 0, .int .i64 a, .int .i64 b] (.int .i64 (mulZ 5 a b)) := by
 rw [vc11q5]; exact all2 (i := fun _ _ => inferInstance) (p := p11q5) (a := a) (b := b) (n := 5) (m := 5) (by kernel_rfl) ha hb
def p1q5 (a b : Int) : Prop := plusZ 5 5 a 1 b = addZ 5 a b
instance d1q5 : ∀ a b : Int, Decidable (p1q5 a b) := fun a b => by delta p1q5; infer_instance
theorem one5 (a b : Int) (ha : eltP 5 a) (hb : eltP 5 b) : plusZ 5 5 a 1 b = addZ 5 a b := all2 (i := fun _ _ => inferInstance) (p := p1q5) (a := a) (b := b) (n := 5) (m := 5) (by kernel_rfl) ha hb
def p10q7 (a d b : Int) : Prop := (((1 : Int) = (0 : Int) → False) ∧ fits64 (a.tdiv (1 : Int)) ∧ ((1 : Int) = (0 : Int) → False) ∧ fits64 (b.tdiv (1 : Int)) ∧ fits64 (d * b.tdiv (1 : Int)) ∧ fits64 (a.tdiv (1 : Int) + d
* b.tdiv (1 : Int)) ∧ ((7 : Int) = (0 : Int) → False) ∧ fits64 ((a.tdiv (1 : Int) + d * b.tdiv (1 : Int)).tmod (7 : Int) * (1 : Int)) ∧ fits64 ((0 : Int) + (a.tdiv (1 : Int) + d * b.tdiv (1 : Int)).tmod (7 : Int) * (1 :
Int)) ∧ (0 : Int) + (a.tdiv (1 : Int) + d * b.tdiv (1 : Int)).tmod (7 : Int) * (1 : Int) = plusZ (7 : Int) (7 : Int) a d b)
instance d10q7 : ∀ a d b : Int, Decidable (p10q7 a d b) := fun a d b => by delta p10q7; repeat' (first | refine @instDecidableAnd _ _ ?_ ?_ | refine @instDecidableIff _ _ ?_ ?_ | refine @instDecidableForall _ _ ?_ ?_ | infer_instance)
theorem vc10q7 : ∀ (a d b : Int), symFun (ctx cc0 noAnn) 3 (65 : FuncId) [fieldV 7 7 0, V.int IntKind.i64 a, V.int IntKind.i64 d, V.int IntKind.i64 b] (V.int IntKind.i64 (plusZ 7 7 a d b)) = p10q7 a d b := by intros; kernel_rfl
theorem s10q7 (a d b : Int) (ha : eltP 7 a) (hd : eltP 7 d) (hb : eltP 7 b) : symFun (ctx cc0 noAnn) 3 65 [fieldV 7 7 0, .int .i64 a, .int .i64 d, .int .i64 b] (.int .i64 (plusZ 7 7 a d b)) := by
 rw [vc10q7]; exact all3 (i := fun _ _ _ => inferInstance) (p := p10q7) (a := a) (b := d) (c := b) (n := 7) (m := 7) (k := 7) (by kernel_rfl) ha hd hb
def p27q7 (a : Int) : Prop := ((Int.ofNat (1 : Nat) = (0 : Int) → False) ∧ fits64 (a.tmod (Int.ofNat (1 : Nat)) * (7 : Int)) ∧ (Int.ofNat (1 : Nat) = (0 : Int) → False) ∧ fits64 (a.tdiv (Int.ofNat (1 : Nat))) ∧ (((7 :
Int) = (7 : Int) ∧ (7 : Int) = (7 : Int) ∧ (0 : Int) = (0 : Int)) ∧ eltP (7 : Int) (a.tmod (Int.ofNat (1 : Nat)) * (7 : Int)) ∧ eltP (7 : Int) (a.tdiv (Int.ofNat (1 : Nat))) ∧ eltP (7 : Int) (0 : Int)) ∧ plusZ (7 : Int)
(7 : Int) (a.tmod (Int.ofNat (1 : Nat)) * (7 : Int)) (a.tdiv (Int.ofNat (1 : Nat))) (0 : Int) = raisedZ (7 : Int) (7 : Int) (0 : Int) a)
instance d27q7 : ∀ a : Int, Decidable (p27q7 a) := fun a => by delta p27q7; repeat' (first | refine @instDecidableAnd _ _ ?_ ?_ | refine @instDecidableIff _ _ ?_ ?_ | refine @instDecidableForall _ _ ?_ ?_ | infer_instance)
theorem vc27q7 : ∀ (a : Int), symFun (ctx (cq1 7 7 0) noAnn) 3 (76 : FuncId) [fieldV 7 7 0, V.int IntKind.i64 a] (V.int IntKind.i64 (raisedZ 7 7 0 a)) = p27q7 a := by intros; kernel_rfl
theorem s27q7 (a : Int) (ha : eltP 7 a) : symFun (ctx (cq1 7 7 0) noAnn) 3 76 [fieldV 7 7 0, .int .i64 a] (.int .i64 (raisedZ 7 7 0 a)) := by
 rw [vc27q7]; exact all1 (i := fun _ => inferInstance) (p := p27q7) (a := a) (n := 7) (by kernel_rfl) ha
def p11q7 (a b : Int) : Prop := ((((7 : Int) = (7 : Int) ∧ (7 : Int) = (7 : Int) ∧ (0 : Int) = (0 : Int)) ∧ eltP (7 : Int) (0 : Int)) ∧ (Int.ofNat (1 : Nat) = (0 : Int) → False) ∧ fits64 (b.tdiv (Int.ofNat (1 : Nat))) ∧
((7 : Int) = (0 : Int) → False) ∧ (((7 : Int) = (7 : Int) ∧ (7 : Int) = (7 : Int) ∧ (0 : Int) = (0 : Int)) ∧ eltP (7 : Int) (raisedZ (7 : Int) (7 : Int) (0 : Int) (0 : Int)) ∧ eltP (7 : Int) ((b.tdiv (Int.ofNat (1 :
Nat))).tmod (7 : Int)) ∧ eltP (7 : Int) a) ∧ plusZ (7 : Int) (7 : Int) (raisedZ (7 : Int) (7 : Int) (0 : Int) (0 : Int)) ((b.tdiv (Int.ofNat (1 : Nat))).tmod (7 : Int)) a = mulZ (7 : Int) a b)
instance d11q7 : ∀ a b : Int, Decidable (p11q7 a b) := fun a b => by delta p11q7; repeat' (first | refine @instDecidableAnd _ _ ?_ ?_ | refine @instDecidableIff _ _ ?_ ?_ | refine @instDecidableForall _ _ ?_ ?_ | infer_instance)
theorem vc11q7 : ∀ (a b : Int), symFun (ctx (cq2 7 7 0) noAnn) 4 (58 : FuncId) [fieldV 7 7 0, V.int IntKind.i64 a, V.int IntKind.i64 b] (V.int IntKind.i64 (mulZ 7 a b)) = p11q7 a b := by intros; kernel_rfl
theorem s11q7 (a b : Int) (ha : eltP 7 a) (hb : eltP 7 b) : symFun (ctx (cq2 7 7 0) noAnn) 4 58 [fieldV 7 7 0, .int .i64 a, .int .i64 b] (.int .i64 (mulZ 7 a b)) := by
 rw [vc11q7]; exact all2 (i := fun _ _ => inferInstance) (p := p11q7) (a := a) (b := b) (n := 7) (m := 7) (by kernel_rfl) ha hb
def p1q7 (a b : Int) : Prop := plusZ 7 7 a 1 b = addZ 7 a b
instance d1q7 : ∀ a b : Int, Decidable (p1q7 a b) := fun a b => by delta p1q7; infer_instance
theorem one7 (a b : Int) (ha : eltP 7 a) (hb : eltP 7 b) : plusZ 7 7 a 1 b = addZ 7 a b := all2 (i := fun _ _ => inferInstance) (p := p1q7) (a := a) (b := b) (n := 7) (m := 7) (by kernel_rfl) ha hb
def p10q8 (a d b : Int) : Prop := (((1 : Int) = (0 : Int) → False) ∧ fits64 (a.tdiv (1 : Int)) ∧ ((1 : Int) = (0 : Int) → False) ∧ fits64 (b.tdiv (1 : Int)) ∧ fits64 (d * b.tdiv (1 : Int)) ∧ fits64 (a.tdiv (1 : Int) + d
* b.tdiv (1 : Int)) ∧ ((2 : Int) = (0 : Int) → False) ∧ fits64 ((a.tdiv (1 : Int) + d * b.tdiv (1 : Int)).tmod (2 : Int) * (1 : Int)) ∧ fits64 ((0 : Int) + (a.tdiv (1 : Int) + d * b.tdiv (1 : Int)).tmod (2 : Int) * (1 :
Int)) ∧ (Int.ofNat (2 : Nat) = (0 : Int) → False) ∧ fits64 (a.tdiv (Int.ofNat (2 : Nat))) ∧ (Int.ofNat (2 : Nat) = (0 : Int) → False) ∧ fits64 (b.tdiv (Int.ofNat (2 : Nat))) ∧ fits64 (d * b.tdiv (Int.ofNat (2 : Nat))) ∧
fits64 (a.tdiv (Int.ofNat (2 : Nat)) + d * b.tdiv (Int.ofNat (2 : Nat))) ∧ ((2 : Int) = (0 : Int) → False) ∧ fits64 ((a.tdiv (Int.ofNat (2 : Nat)) + d * b.tdiv (Int.ofNat (2 : Nat))).tmod (2 : Int) * Int.ofNat (2 : Nat))
∧ fits64 ((0 : Int) + (a.tdiv (1 : Int) + d * b.tdiv (1 : Int)).tmod (2 : Int) * (1 : Int) + (a.tdiv (Int.ofNat (2 : Nat)) + d * b.tdiv (Int.ofNat (2 : Nat))).tmod (2 : Int) * Int.ofNat (2 : Nat)) ∧ (Int.ofNat (4 : Nat)
= (0 : Int) → False) ∧ fits64 (a.tdiv (Int.ofNat (4 : Nat))) ∧ (Int.ofNat (4 : Nat) = (0 : Int) → False) ∧ fits64 (b.tdiv (Int.ofNat (4 : Nat))) ∧ fits64 (d * b.tdiv (Int.ofNat (4 : Nat))) ∧ fits64 (a.tdiv (Int.ofNat (4
: Nat)) + d * b.tdiv (Int.ofNat (4 : Nat))) ∧ ((2 : Int) = (0 : Int) → False) ∧ fits64 ((a.tdiv (Int.ofNat (4 : Nat)) + d * b.tdiv (Int.ofNat (4 : Nat))).tmod (2 : Int) * Int.ofNat (4 : Nat)) ∧ fits64 ((0 : Int) +
(a.tdiv (1 : Int) + d * b.tdiv (1 : Int)).tmod (2 : Int) * (1 : Int) + (a.tdiv (Int.ofNat (2 : Nat)) + d * b.tdiv (Int.ofNat (2 : Nat))).tmod (2 : Int) * Int.ofNat (2 : Nat) + (a.tdiv (Int.ofNat (4 : Nat)) + d * b.tdiv
(Int.ofNat (4 : Nat))).tmod (2 : Int) * Int.ofNat (4 : Nat)) ∧ (0 : Int) + (a.tdiv (1 : Int) + d * b.tdiv (1 : Int)).tmod (2 : Int) * (1 : Int) + (a.tdiv (Int.ofNat (2 : Nat)) + d * b.tdiv (Int.ofNat (2 : Nat))).tmod (2
: Int) * Int.ofNat (2 : Nat) + (a.tdiv (Int.ofNat (4 : Nat)) + d * b.tdiv (Int.ofNat (4 : Nat))).tmod (2 : Int) * Int.ofNat (4 : Nat) = plusZ (8 : Int) (2 : Int) a d b)
instance d10q8 : ∀ a d b : Int, Decidable (p10q8 a d b) := fun a d b => by delta p10q8; repeat' (first | refine @instDecidableAnd _ _ ?_ ?_ | refine @instDecidableIff _ _ ?_ ?_ | refine @instDecidableForall _ _ ?_ ?_ | infer_instance)
theorem vc10q8 : ∀ (a d b : Int), symFun (ctx cc0 noAnn) 3 (65 : FuncId) [fieldV 8 2 3, V.int IntKind.i64 a, V.int IntKind.i64 d, V.int IntKind.i64 b] (V.int IntKind.i64 (plusZ 8 2 a d b)) = p10q8 a d b := by intros; kernel_rfl
theorem s10q8 (a d b : Int) (ha : eltP 8 a) (hd : eltP 2 d) (hb : eltP 8 b) : symFun (ctx cc0 noAnn) 3 65 [fieldV 8 2 3, .int .i64 a, .int .i64 d, .int .i64 b] (.int .i64 (plusZ 8 2 a d b)) := by
 rw [vc10q8]; exact all3 (i := fun _ _ _ => inferInstance) (p := p10q8) (a := a) (b := d) (c := b) (n := 8) (m := 2) (k := 8) (by kernel_rfl) ha hd hb
def p27q8 (a : Int) : Prop := ((Int.ofNat (4 : Nat) = (0 : Int) → False) ∧ fits64 (a.tmod (Int.ofNat (4 : Nat)) * (2 : Int)) ∧ (Int.ofNat (4 : Nat) = (0 : Int) → False) ∧ fits64 (a.tdiv (Int.ofNat (4 : Nat))) ∧ (((8 :
Int) = (8 : Int) ∧ (2 : Int) = (2 : Int) ∧ (3 : Int) = (3 : Int)) ∧ eltP (8 : Int) (a.tmod (Int.ofNat (4 : Nat)) * (2 : Int)) ∧ eltP (2 : Int) (a.tdiv (Int.ofNat (4 : Nat))) ∧ eltP (8 : Int) (3 : Int)) ∧ plusZ (8 : Int)
(2 : Int) (a.tmod (Int.ofNat (4 : Nat)) * (2 : Int)) (a.tdiv (Int.ofNat (4 : Nat))) (3 : Int) = raisedZ (8 : Int) (2 : Int) (3 : Int) a)
instance d27q8 : ∀ a : Int, Decidable (p27q8 a) := fun a => by delta p27q8; repeat' (first | refine @instDecidableAnd _ _ ?_ ?_ | refine @instDecidableIff _ _ ?_ ?_ | refine @instDecidableForall _ _ ?_ ?_ | infer_instance)
theorem vc27q8 : ∀ (a : Int), symFun (ctx (cq1 8 2 3) noAnn) 3 (76 : FuncId) [fieldV 8 2 3, V.int IntKind.i64 a] (V.int IntKind.i64 (raisedZ 8 2 3 a)) = p27q8 a := by intros; kernel_rfl
theorem s27q8 (a : Int) (ha : eltP 8 a) : symFun (ctx (cq1 8 2 3) noAnn) 3 76 [fieldV 8 2 3, .int .i64 a] (.int .i64 (raisedZ 8 2 3 a)) := by
 rw [vc27q8]; exact all1 (i := fun _ => inferInstance) (p := p27q8) (a := a) (n := 8) (by kernel_rfl) ha
def p11q8 (a b : Int) : Prop := ((((8 : Int) = (8 : Int) ∧ (2 : Int) = (2 : Int) ∧ (3 : Int) = (3 : Int)) ∧ eltP (8 : Int) (0 : Int)) ∧ (Int.ofNat (4 : Nat) = (0 : Int) → False) ∧ fits64 (b.tdiv (Int.ofNat (4 : Nat))) ∧
((2 : Int) = (0 : Int) → False) ∧ (((8 : Int) = (8 : Int) ∧ (2 : Int) = (2 : Int) ∧ (3 : Int) = (3 : Int)) ∧ eltP (8 : Int) (raisedZ (8 : Int) (2 : Int) (3 : Int) (0 : Int)) ∧ eltP (2 : Int) ((b.tdiv (Int.ofNat (4 :
Nat))).tmod (2 : Int)) ∧ eltP (8 : Int) a) ∧ (((8 : Int) = (8 : Int) ∧ (2 : Int) = (2 : Int) ∧ (3 : Int) = (3 : Int)) ∧ eltP (8 : Int) (plusZ (8 : Int) (2 : Int) (raisedZ (8 : Int) (2 : Int) (3 : Int) (0 : Int)) ((b.tdiv
(Int.ofNat (4 : Nat))).tmod (2 : Int)) a)) ∧ (Int.ofNat (2 : Nat) = (0 : Int) → False) ∧ fits64 (b.tdiv (Int.ofNat (2 : Nat))) ∧ ((2 : Int) = (0 : Int) → False) ∧ (((8 : Int) = (8 : Int) ∧ (2 : Int) = (2 : Int) ∧ (3 :
Int) = (3 : Int)) ∧ eltP (8 : Int) (raisedZ (8 : Int) (2 : Int) (3 : Int) (plusZ (8 : Int) (2 : Int) (raisedZ (8 : Int) (2 : Int) (3 : Int) (0 : Int)) ((b.tdiv (Int.ofNat (4 : Nat))).tmod (2 : Int)) a)) ∧ eltP (2 : Int)
((b.tdiv (Int.ofNat (2 : Nat))).tmod (2 : Int)) ∧ eltP (8 : Int) a) ∧ (((8 : Int) = (8 : Int) ∧ (2 : Int) = (2 : Int) ∧ (3 : Int) = (3 : Int)) ∧ eltP (8 : Int) (plusZ (8 : Int) (2 : Int) (raisedZ (8 : Int) (2 : Int) (3 :
Int) (plusZ (8 : Int) (2 : Int) (raisedZ (8 : Int) (2 : Int) (3 : Int) (0 : Int)) ((b.tdiv (Int.ofNat (4 : Nat))).tmod (2 : Int)) a)) ((b.tdiv (Int.ofNat (2 : Nat))).tmod (2 : Int)) a)) ∧ (Int.ofNat (1 : Nat) = (0 : Int)
→ False) ∧ fits64 (b.tdiv (Int.ofNat (1 : Nat))) ∧ ((2 : Int) = (0 : Int) → False) ∧ (((8 : Int) = (8 : Int) ∧ (2 : Int) = (2 : Int) ∧ (3 : Int) = (3 : Int)) ∧ eltP (8 : Int) (raisedZ (8 : Int) (2 : Int) (3 : Int) (plusZ
(8 : Int) (2 : Int) (raisedZ (8 : Int) (2 : Int) (3 : Int) (plusZ (8 : Int) (2 : Int) (raisedZ (8 : Int) (2 : Int) (3 : Int) (0 : Int)) ((b.tdiv (Int.ofNat (4 : Nat))).tmod (2 : Int)) a)) ((b.tdiv (Int.ofNat (2 :
Nat))).tmod (2 : Int)) a)) ∧ eltP (2 : Int) ((b.tdiv (Int.ofNat (1 : Nat))).tmod (2 : Int)) ∧ eltP (8 : Int) a) ∧ plusZ (8 : Int) (2 : Int) (raisedZ (8 : Int) (2 : Int) (3 : Int) (plusZ (8 : Int) (2 : Int) (raisedZ (8 :
Int) (2 : Int) (3 : Int) (plusZ (8 : Int) (2 : Int) (raisedZ (8 : Int) (2 : Int) (3 : Int) (0 : Int)) ((b.tdiv (Int.ofNat (4 : Nat))).tmod (2 : Int)) a)) ((b.tdiv (Int.ofNat (2 : Nat))).tmod (2 : Int)) a)) ((b.tdiv
(Int.ofNat (1 : Nat))).tmod (2 : Int)) a = mulZ (8 : Int) a b)
instance d11q8 : ∀ a b : Int, Decidable (p11q8 a b) := fun a b => by delta p11q8; repeat' (first | refine @instDecidableAnd _ _ ?_ ?_ | refine @instDecidableIff _ _ ?_ ?_ | refine @instDecidableForall _ _ ?_ ?_ | infer_instance)
theorem vc11q8 : ∀ (a b : Int), symFun (ctx (cq2 8 2 3) noAnn) 4 (58 : FuncId) [fieldV 8 2 3, V.int IntKind.i64 a, V.int IntKind.i64 b] (V.int IntKind.i64 (mulZ 8 a b)) = p11q8 a b := by intros; kernel_rfl
theorem s11q8 (a b : Int) (ha : eltP 8 a) (hb : eltP 8 b) : symFun (ctx (cq2 8 2 3) noAnn) 4 58 [fieldV 8 2 3, .int .i64 a, .int .i64 b] (.int .i64 (mulZ 8 a b)) := by
 rw [vc11q8]; exact all2 (i := fun _ _ => inferInstance) (p := p11q8) (a := a) (b := b) (n := 8) (m := 8) (by kernel_rfl) ha hb
def p1q8 (a b : Int) : Prop := plusZ 8 2 a 1 b = addZ 8 a b
instance d1q8 : ∀ a b : Int, Decidable (p1q8 a b) := fun a b => by delta p1q8; infer_instance
theorem one8 (a b : Int) (ha : eltP 8 a) (hb : eltP 8 b) : plusZ 8 2 a 1 b = addZ 8 a b := all2 (i := fun _ _ => inferInstance) (p := p1q8) (a := a) (b := b) (n := 8) (m := 8) (by kernel_rfl) ha hb
def p10q9 (a d b : Int) : Prop := (((1 : Int) = (0 : Int) → False) ∧ fits64 (a.tdiv (1 : Int)) ∧ ((1 : Int) = (0 : Int) → False) ∧ fits64 (b.tdiv (1 : Int)) ∧ fits64 (d * b.tdiv (1 : Int)) ∧ fits64 (a.tdiv (1 : Int) + d
* b.tdiv (1 : Int)) ∧ ((3 : Int) = (0 : Int) → False) ∧ fits64 ((a.tdiv (1 : Int) + d * b.tdiv (1 : Int)).tmod (3 : Int) * (1 : Int)) ∧ fits64 ((0 : Int) + (a.tdiv (1 : Int) + d * b.tdiv (1 : Int)).tmod (3 : Int) * (1 :
Int)) ∧ (Int.ofNat (3 : Nat) = (0 : Int) → False) ∧ fits64 (a.tdiv (Int.ofNat (3 : Nat))) ∧ (Int.ofNat (3 : Nat) = (0 : Int) → False) ∧ fits64 (b.tdiv (Int.ofNat (3 : Nat))) ∧ fits64 (d * b.tdiv (Int.ofNat (3 : Nat))) ∧
fits64 (a.tdiv (Int.ofNat (3 : Nat)) + d * b.tdiv (Int.ofNat (3 : Nat))) ∧ ((3 : Int) = (0 : Int) → False) ∧ fits64 ((a.tdiv (Int.ofNat (3 : Nat)) + d * b.tdiv (Int.ofNat (3 : Nat))).tmod (3 : Int) * Int.ofNat (3 : Nat))
∧ fits64 ((0 : Int) + (a.tdiv (1 : Int) + d * b.tdiv (1 : Int)).tmod (3 : Int) * (1 : Int) + (a.tdiv (Int.ofNat (3 : Nat)) + d * b.tdiv (Int.ofNat (3 : Nat))).tmod (3 : Int) * Int.ofNat (3 : Nat)) ∧ (0 : Int) + (a.tdiv
(1 : Int) + d * b.tdiv (1 : Int)).tmod (3 : Int) * (1 : Int) + (a.tdiv (Int.ofNat (3 : Nat)) + d * b.tdiv (Int.ofNat (3 : Nat))).tmod (3 : Int) * Int.ofNat (3 : Nat) = plusZ (9 : Int) (3 : Int) a d b)
instance d10q9 : ∀ a d b : Int, Decidable (p10q9 a d b) := fun a d b => by delta p10q9; repeat' (first | refine @instDecidableAnd _ _ ?_ ?_ | refine @instDecidableIff _ _ ?_ ?_ | refine @instDecidableForall _ _ ?_ ?_ | infer_instance)
theorem vc10q9 : ∀ (a d b : Int), symFun (ctx cc0 noAnn) 3 (65 : FuncId) [fieldV 9 3 2, V.int IntKind.i64 a, V.int IntKind.i64 d, V.int IntKind.i64 b] (V.int IntKind.i64 (plusZ 9 3 a d b)) = p10q9 a d b := by intros; kernel_rfl
theorem s10q9 (a d b : Int) (ha : eltP 9 a) (hd : eltP 3 d) (hb : eltP 9 b) : symFun (ctx cc0 noAnn) 3 65 [fieldV 9 3 2, .int .i64 a, .int .i64 d, .int .i64 b] (.int .i64 (plusZ 9 3 a d b)) := by
 rw [vc10q9]; exact all3 (i := fun _ _ _ => inferInstance) (p := p10q9) (a := a) (b := d) (c := b) (n := 9) (m := 3) (k := 9) (by kernel_rfl) ha hd hb
def p27q9 (a : Int) : Prop := ((Int.ofNat (3 : Nat) = (0 : Int) → False) ∧ fits64 (a.tmod (Int.ofNat (3 : Nat)) * (3 : Int)) ∧ (Int.ofNat (3 : Nat) = (0 : Int) → False) ∧ fits64 (a.tdiv (Int.ofNat (3 : Nat))) ∧ (((9 :
Int) = (9 : Int) ∧ (3 : Int) = (3 : Int) ∧ (2 : Int) = (2 : Int)) ∧ eltP (9 : Int) (a.tmod (Int.ofNat (3 : Nat)) * (3 : Int)) ∧ eltP (3 : Int) (a.tdiv (Int.ofNat (3 : Nat))) ∧ eltP (9 : Int) (2 : Int)) ∧ plusZ (9 : Int)
(3 : Int) (a.tmod (Int.ofNat (3 : Nat)) * (3 : Int)) (a.tdiv (Int.ofNat (3 : Nat))) (2 : Int) = raisedZ (9 : Int) (3 : Int) (2 : Int) a)
instance d27q9 : ∀ a : Int, Decidable (p27q9 a) := fun a => by delta p27q9; repeat' (first | refine @instDecidableAnd _ _ ?_ ?_ | refine @instDecidableIff _ _ ?_ ?_ | refine @instDecidableForall _ _ ?_ ?_ | infer_instance)
theorem vc27q9 : ∀ (a : Int), symFun (ctx (cq1 9 3 2) noAnn) 3 (76 : FuncId) [fieldV 9 3 2, V.int IntKind.i64 a] (V.int IntKind.i64 (raisedZ 9 3 2 a)) = p27q9 a := by intros; kernel_rfl
theorem s27q9 (a : Int) (ha : eltP 9 a) : symFun (ctx (cq1 9 3 2) noAnn) 3 76 [fieldV 9 3 2, .int .i64 a] (.int .i64 (raisedZ 9 3 2 a)) := by
 rw [vc27q9]; exact all1 (i := fun _ => inferInstance) (p := p27q9) (a := a) (n := 9) (by kernel_rfl) ha
def p11q9 (a b : Int) : Prop := ((((9 : Int) = (9 : Int) ∧ (3 : Int) = (3 : Int) ∧ (2 : Int) = (2 : Int)) ∧ eltP (9 : Int) (0 : Int)) ∧ (Int.ofNat (3 : Nat) = (0 : Int) → False) ∧ fits64 (b.tdiv (Int.ofNat (3 : Nat))) ∧
((3 : Int) = (0 : Int) → False) ∧ (((9 : Int) = (9 : Int) ∧ (3 : Int) = (3 : Int) ∧ (2 : Int) = (2 : Int)) ∧ eltP (9 : Int) (raisedZ (9 : Int) (3 : Int) (2 : Int) (0 : Int)) ∧ eltP (3 : Int) ((b.tdiv (Int.ofNat (3 :
Nat))).tmod (3 : Int)) ∧ eltP (9 : Int) a) ∧ (((9 : Int) = (9 : Int) ∧ (3 : Int) = (3 : Int) ∧ (2 : Int) = (2 : Int)) ∧ eltP (9 : Int) (plusZ (9 : Int) (3 : Int) (raisedZ (9 : Int) (3 : Int) (2 : Int) (0 : Int)) ((b.tdiv
(Int.ofNat (3 : Nat))).tmod (3 : Int)) a)) ∧ (Int.ofNat (1 : Nat) = (0 : Int) → False) ∧ fits64 (b.tdiv (Int.ofNat (1 : Nat))) ∧ ((3 : Int) = (0 : Int) → False) ∧ (((9 : Int) = (9 : Int) ∧ (3 : Int) = (3 : Int) ∧ (2 :
Int) = (2 : Int)) ∧ eltP (9 : Int) (raisedZ (9 : Int) (3 : Int) (2 : Int) (plusZ (9 : Int) (3 : Int) (raisedZ (9 : Int) (3 : Int) (2 : Int) (0 : Int)) ((b.tdiv (Int.ofNat (3 : Nat))).tmod (3 : Int)) a)) ∧ eltP (3 : Int)
((b.tdiv (Int.ofNat (1 : Nat))).tmod (3 : Int)) ∧ eltP (9 : Int) a) ∧ plusZ (9 : Int) (3 : Int) (raisedZ (9 : Int) (3 : Int) (2 : Int) (plusZ (9 : Int) (3 : Int) (raisedZ (9 : Int) (3 : Int) (2 : Int) (0 : Int)) ((b.tdiv
(Int.ofNat (3 : Nat))).tmod (3 : Int)) a)) ((b.tdiv (Int.ofNat (1 : Nat))).tmod (3 : Int)) a = mulZ (9 : Int) a b)
instance d11q9 : ∀ a b : Int, Decidable (p11q9 a b) := fun a b => by delta p11q9; repeat' (first | refine @instDecidableAnd _ _ ?_ ?_ | refine @instDecidableIff _ _ ?_ ?_ | refine @instDecidableForall _ _ ?_ ?_ | infer_instance)
theorem vc11q9 : ∀ (a b : Int), symFun (ctx (cq2 9 3 2) noAnn) 4 (58 : FuncId) [fieldV 9 3 2, V.int IntKind.i64 a, V.int IntKind.i64 b] (V.int IntKind.i64 (mulZ 9 a b)) = p11q9 a b := by intros; kernel_rfl
theorem s11q9 (a b : Int) (ha : eltP 9 a) (hb : eltP 9 b) : symFun (ctx (cq2 9 3 2) noAnn) 4 58 [fieldV 9 3 2, .int .i64 a, .int .i64 b] (.int .i64 (mulZ 9 a b)) := by
 rw [vc11q9]; exact all2 (i := fun _ _ => inferInstance) (p := p11q9) (a := a) (b := b) (n := 9) (m := 9) (by kernel_rfl) ha hb
def p1q9 (a b : Int) : Prop := plusZ 9 3 a 1 b = addZ 9 a b
instance d1q9 : ∀ a b : Int, Decidable (p1q9 a b) := fun a b => by delta p1q9; infer_instance
theorem one9 (a b : Int) (ha : eltP 9 a) (hb : eltP 9 b) : plusZ 9 3 a 1 b = addZ 9 a b := all2 (i := fun _ _ => inferInstance) (p := p1q9) (a := a) (b := b) (n := 9) (m := 9) (by kernel_rfl) ha hb
def p10q11 (a d b : Int) : Prop := (((1 : Int) = (0 : Int) → False) ∧ fits64 (a.tdiv (1 : Int)) ∧ ((1 : Int) = (0 : Int) → False) ∧ fits64 (b.tdiv (1 : Int)) ∧ fits64 (d * b.tdiv (1 : Int)) ∧ fits64 (a.tdiv (1 : Int) + d
* b.tdiv (1 : Int)) ∧ ((11 : Int) = (0 : Int) → False) ∧ fits64 ((a.tdiv (1 : Int) + d * b.tdiv (1 : Int)).tmod (11 : Int) * (1 : Int)) ∧ fits64 ((0 : Int) + (a.tdiv (1 : Int) + d * b.tdiv (1 : Int)).tmod (11 : Int) * (1
: Int)) ∧ (0 : Int) + (a.tdiv (1 : Int) + d * b.tdiv (1 : Int)).tmod (11 : Int) * (1 : Int) = plusZ (11 : Int) (11 : Int) a d b)
instance d10q11 : ∀ a d b : Int, Decidable (p10q11 a d b) := fun a d b => by delta p10q11; repeat' (first | refine @instDecidableAnd _ _ ?_ ?_ | refine @instDecidableIff _ _ ?_ ?_ | refine @instDecidableForall _ _ ?_ ?_ | infer_instance)
theorem vc10q11 : ∀ (a d b : Int), symFun (ctx cc0 noAnn) 3 (65 : FuncId) [fieldV 11 11 0, V.int IntKind.i64 a, V.int IntKind.i64 d, V.int IntKind.i64 b] (V.int IntKind.i64 (plusZ 11 11 a d b)) = p10q11 a d b := by intros; kernel_rfl
theorem s10q11 (a d b : Int) (ha : eltP 11 a) (hd : eltP 11 d) (hb : eltP 11 b) : symFun (ctx cc0 noAnn) 3 65 [fieldV 11 11 0, .int .i64 a, .int .i64 d, .int .i64 b] (.int .i64 (plusZ 11 11 a d b)) := by
 rw [vc10q11]; exact all3 (i := fun _ _ _ => inferInstance) (p := p10q11) (a := a) (b := d) (c := b) (n := 11) (m := 11) (k := 11) (by kernel_rfl) ha hd hb
def p27q11 (a : Int) : Prop := ((Int.ofNat (1 : Nat) = (0 : Int) → False) ∧ fits64 (a.tmod (Int.ofNat (1 : Nat)) * (11 : Int)) ∧ (Int.ofNat (1 : Nat) = (0 : Int) → False) ∧ fits64 (a.tdiv (Int.ofNat (1 : Nat))) ∧ (((11 :
Int) = (11 : Int) ∧ (11 : Int) = (11 : Int) ∧ (0 : Int) = (0 : Int)) ∧ eltP (11 : Int) (a.tmod (Int.ofNat (1 : Nat)) * (11 : Int)) ∧ eltP (11 : Int) (a.tdiv (Int.ofNat (1 : Nat))) ∧ eltP (11 : Int) (0 : Int)) ∧ plusZ (11
: Int) (11 : Int) (a.tmod (Int.ofNat (1 : Nat)) * (11 : Int)) (a.tdiv (Int.ofNat (1 : Nat))) (0 : Int) = raisedZ (11 : Int) (11 : Int) (0 : Int) a)
instance d27q11 : ∀ a : Int, Decidable (p27q11 a) := fun a => by delta p27q11; repeat' (first | refine @instDecidableAnd _ _ ?_ ?_ | refine @instDecidableIff _ _ ?_ ?_ | refine @instDecidableForall _ _ ?_ ?_ | infer_instance)
theorem vc27q11 : ∀ (a : Int), symFun (ctx (cq1 11 11 0) noAnn) 3 (76 : FuncId) [fieldV 11 11 0, V.int IntKind.i64 a] (V.int IntKind.i64 (raisedZ 11 11 0 a)) = p27q11 a := by intros; kernel_rfl
theorem s27q11 (a : Int) (ha : eltP 11 a) : symFun (ctx (cq1 11 11 0) noAnn) 3 76 [fieldV 11 11 0, .int .i64 a] (.int .i64 (raisedZ 11 11 0 a)) := by
 rw [vc27q11]; exact all1 (i := fun _ => inferInstance) (p := p27q11) (a := a) (n := 11) (by kernel_rfl) ha
def p11q11 (a b : Int) : Prop := ((((11 : Int) = (11 : Int) ∧ (11 : Int) = (11 : Int) ∧ (0 : Int) = (0 : Int)) ∧ eltP (11 : Int) (0 : Int)) ∧ (Int.ofNat (1 : Nat) = (0 : Int) → False) ∧ fits64 (b.tdiv (Int.ofNat (1 :
Nat))) ∧ ((11 : Int) = (0 : Int) → False) ∧ (((11 : Int) = (11 : Int) ∧ (11 : Int) = (11 : Int) ∧ (0 : Int) = (0 : Int)) ∧ eltP (11 : Int) (raisedZ (11 : Int) (11 : Int) (0 : Int) (0 : Int)) ∧ eltP (11 : Int) ((b.tdiv
(Int.ofNat (1 : Nat))).tmod (11 : Int)) ∧ eltP (11 : Int) a) ∧ plusZ (11 : Int) (11 : Int) (raisedZ (11 : Int) (11 : Int) (0 : Int) (0 : Int)) ((b.tdiv (Int.ofNat (1 : Nat))).tmod (11 : Int)) a = mulZ (11 : Int) a b)
instance d11q11 : ∀ a b : Int, Decidable (p11q11 a b) := fun a b => by delta p11q11; repeat' (first | refine @instDecidableAnd _ _ ?_ ?_ | refine @instDecidableIff _ _ ?_ ?_ | refine @instDecidableForall _ _ ?_ ?_ | infer_instance)
theorem vc11q11 : ∀ (a b : Int), symFun (ctx (cq2 11 11 0) noAnn) 4 (58 : FuncId) [fieldV 11 11 0, V.int IntKind.i64 a, V.int IntKind.i64 b] (V.int IntKind.i64 (mulZ 11 a b)) = p11q11 a b := by intros; kernel_rfl
theorem s11q11 (a b : Int) (ha : eltP 11 a) (hb : eltP 11 b) : symFun (ctx (cq2 11 11 0) noAnn) 4 58 [fieldV 11 11 0, .int .i64 a, .int .i64 b] (.int .i64 (mulZ 11 a b)) := by
 rw [vc11q11]; exact all2 (i := fun _ _ => inferInstance) (p := p11q11) (a := a) (b := b) (n := 11) (m := 11) (by kernel_rfl) ha hb
def p1q11 (a b : Int) : Prop := plusZ 11 11 a 1 b = addZ 11 a b
instance d1q11 : ∀ a b : Int, Decidable (p1q11 a b) := fun a b => by delta p1q11; infer_instance
theorem one11 (a b : Int) (ha : eltP 11 a) (hb : eltP 11 b) : plusZ 11 11 a 1 b = addZ 11 a b := all2 (i := fun _ _ => inferInstance) (p := p1q11) (a := a) (b := b) (n := 11) (m := 11) (by kernel_rfl) ha hb
def p10q13 (a d b : Int) : Prop := (((1 : Int) = (0 : Int) → False) ∧ fits64 (a.tdiv (1 : Int)) ∧ ((1 : Int) = (0 : Int) → False) ∧ fits64 (b.tdiv (1 : Int)) ∧ fits64 (d * b.tdiv (1 : Int)) ∧ fits64 (a.tdiv (1 : Int) + d
* b.tdiv (1 : Int)) ∧ ((13 : Int) = (0 : Int) → False) ∧ fits64 ((a.tdiv (1 : Int) + d * b.tdiv (1 : Int)).tmod (13 : Int) * (1 : Int)) ∧ fits64 ((0 : Int) + (a.tdiv (1 : Int) + d * b.tdiv (1 : Int)).tmod (13 : Int) * (1
: Int)) ∧ (0 : Int) + (a.tdiv (1 : Int) + d * b.tdiv (1 : Int)).tmod (13 : Int) * (1 : Int) = plusZ (13 : Int) (13 : Int) a d b)
instance d10q13 : ∀ a d b : Int, Decidable (p10q13 a d b) := fun a d b => by delta p10q13; repeat' (first | refine @instDecidableAnd _ _ ?_ ?_ | refine @instDecidableIff _ _ ?_ ?_ | refine @instDecidableForall _ _ ?_ ?_ | infer_instance)
theorem vc10q13 : ∀ (a d b : Int), symFun (ctx cc0 noAnn) 3 (65 : FuncId) [fieldV 13 13 0, V.int IntKind.i64 a, V.int IntKind.i64 d, V.int IntKind.i64 b] (V.int IntKind.i64 (plusZ 13 13 a d b)) = p10q13 a d b := by intros; kernel_rfl
theorem s10q13 (a d b : Int) (ha : eltP 13 a) (hd : eltP 13 d) (hb : eltP 13 b) : symFun (ctx cc0 noAnn) 3 65 [fieldV 13 13 0, .int .i64 a, .int .i64 d, .int .i64 b] (.int .i64 (plusZ 13 13 a d b)) := by
 rw [vc10q13]; exact all3 (i := fun _ _ _ => inferInstance) (p := p10q13) (a := a) (b := d) (c := b) (n := 13) (m := 13) (k := 13) (by kernel_rfl) ha hd hb
def p27q13 (a : Int) : Prop := ((Int.ofNat (1 : Nat) = (0 : Int) → False) ∧ fits64 (a.tmod (Int.ofNat (1 : Nat)) * (13 : Int)) ∧ (Int.ofNat (1 : Nat) = (0 : Int) → False) ∧ fits64 (a.tdiv (Int.ofNat (1 : Nat))) ∧ (((13 :
Int) = (13 : Int) ∧ (13 : Int) = (13 : Int) ∧ (0 : Int) = (0 : Int)) ∧ eltP (13 : Int) (a.tmod (Int.ofNat (1 : Nat)) * (13 : Int)) ∧ eltP (13 : Int) (a.tdiv (Int.ofNat (1 : Nat))) ∧ eltP (13 : Int) (0 : Int)) ∧ plusZ (13
: Int) (13 : Int) (a.tmod (Int.ofNat (1 : Nat)) * (13 : Int)) (a.tdiv (Int.ofNat (1 : Nat))) (0 : Int) = raisedZ (13 : Int) (13 : Int) (0 : Int) a)
instance d27q13 : ∀ a : Int, Decidable (p27q13 a) := fun a => by delta p27q13; repeat' (first | refine @instDecidableAnd _ _ ?_ ?_ | refine @instDecidableIff _ _ ?_ ?_ | refine @instDecidableForall _ _ ?_ ?_ | infer_instance)
theorem vc27q13 : ∀ (a : Int), symFun (ctx (cq1 13 13 0) noAnn) 3 (76 : FuncId) [fieldV 13 13 0, V.int IntKind.i64 a] (V.int IntKind.i64 (raisedZ 13 13 0 a)) = p27q13 a := by intros; kernel_rfl
theorem s27q13 (a : Int) (ha : eltP 13 a) : symFun (ctx (cq1 13 13 0) noAnn) 3 76 [fieldV 13 13 0, .int .i64 a] (.int .i64 (raisedZ 13 13 0 a)) := by
 rw [vc27q13]; exact all1 (i := fun _ => inferInstance) (p := p27q13) (a := a) (n := 13) (by kernel_rfl) ha
def p11q13 (a b : Int) : Prop := ((((13 : Int) = (13 : Int) ∧ (13 : Int) = (13 : Int) ∧ (0 : Int) = (0 : Int)) ∧ eltP (13 : Int) (0 : Int)) ∧ (Int.ofNat (1 : Nat) = (0 : Int) → False) ∧ fits64 (b.tdiv (Int.ofNat (1 :
Nat))) ∧ ((13 : Int) = (0 : Int) → False) ∧ (((13 : Int) = (13 : Int) ∧ (13 : Int) = (13 : Int) ∧ (0 : Int) = (0 : Int)) ∧ eltP (13 : Int) (raisedZ (13 : Int) (13 : Int) (0 : Int) (0 : Int)) ∧ eltP (13 : Int) ((b.tdiv
(Int.ofNat (1 : Nat))).tmod (13 : Int)) ∧ eltP (13 : Int) a) ∧ plusZ (13 : Int) (13 : Int) (raisedZ (13 : Int) (13 : Int) (0 : Int) (0 : Int)) ((b.tdiv (Int.ofNat (1 : Nat))).tmod (13 : Int)) a = mulZ (13 : Int) a b)
instance d11q13 : ∀ a b : Int, Decidable (p11q13 a b) := fun a b => by delta p11q13; repeat' (first | refine @instDecidableAnd _ _ ?_ ?_ | refine @instDecidableIff _ _ ?_ ?_ | refine @instDecidableForall _ _ ?_ ?_ | infer_instance)
theorem vc11q13 : ∀ (a b : Int), symFun (ctx (cq2 13 13 0) noAnn) 4 (58 : FuncId) [fieldV 13 13 0, V.int IntKind.i64 a, V.int IntKind.i64 b] (V.int IntKind.i64 (mulZ 13 a b)) = p11q13 a b := by intros; kernel_rfl
theorem s11q13 (a b : Int) (ha : eltP 13 a) (hb : eltP 13 b) : symFun (ctx (cq2 13 13 0) noAnn) 4 58 [fieldV 13 13 0, .int .i64 a, .int .i64 b] (.int .i64 (mulZ 13 a b)) := by
 rw [vc11q13]; exact all2 (i := fun _ _ => inferInstance) (p := p11q13) (a := a) (b := b) (n := 13) (m := 13) (by kernel_rfl) ha hb
def p1q13 (a b : Int) : Prop := plusZ 13 13 a 1 b = addZ 13 a b
instance d1q13 : ∀ a b : Int, Decidable (p1q13 a b) := fun a b => by delta p1q13; infer_instance
theorem one13 (a b : Int) (ha : eltP 13 a) (hb : eltP 13 b) : plusZ 13 13 a 1 b = addZ 13 a b := all2 (i := fun _ _ => inferInstance) (p := p1q13) (a := a) (b := b) (n := 13) (m := 13) (by kernel_rfl) ha hb
def p10q16 (a d b : Int) : Prop := (((1 : Int) = (0 : Int) → False) ∧ fits64 (a.tdiv (1 : Int)) ∧ ((1 : Int) = (0 : Int) → False) ∧ fits64 (b.tdiv (1 : Int)) ∧ fits64 (d * b.tdiv (1 : Int)) ∧ fits64 (a.tdiv (1 : Int) + d
* b.tdiv (1 : Int)) ∧ ((2 : Int) = (0 : Int) → False) ∧ fits64 ((a.tdiv (1 : Int) + d * b.tdiv (1 : Int)).tmod (2 : Int) * (1 : Int)) ∧ fits64 ((0 : Int) + (a.tdiv (1 : Int) + d * b.tdiv (1 : Int)).tmod (2 : Int) * (1 :
Int)) ∧ (Int.ofNat (2 : Nat) = (0 : Int) → False) ∧ fits64 (a.tdiv (Int.ofNat (2 : Nat))) ∧ (Int.ofNat (2 : Nat) = (0 : Int) → False) ∧ fits64 (b.tdiv (Int.ofNat (2 : Nat))) ∧ fits64 (d * b.tdiv (Int.ofNat (2 : Nat))) ∧
fits64 (a.tdiv (Int.ofNat (2 : Nat)) + d * b.tdiv (Int.ofNat (2 : Nat))) ∧ ((2 : Int) = (0 : Int) → False) ∧ fits64 ((a.tdiv (Int.ofNat (2 : Nat)) + d * b.tdiv (Int.ofNat (2 : Nat))).tmod (2 : Int) * Int.ofNat (2 : Nat))
∧ fits64 ((0 : Int) + (a.tdiv (1 : Int) + d * b.tdiv (1 : Int)).tmod (2 : Int) * (1 : Int) + (a.tdiv (Int.ofNat (2 : Nat)) + d * b.tdiv (Int.ofNat (2 : Nat))).tmod (2 : Int) * Int.ofNat (2 : Nat)) ∧ (Int.ofNat (4 : Nat)
= (0 : Int) → False) ∧ fits64 (a.tdiv (Int.ofNat (4 : Nat))) ∧ (Int.ofNat (4 : Nat) = (0 : Int) → False) ∧ fits64 (b.tdiv (Int.ofNat (4 : Nat))) ∧ fits64 (d * b.tdiv (Int.ofNat (4 : Nat))) ∧ fits64 (a.tdiv (Int.ofNat (4
: Nat)) + d * b.tdiv (Int.ofNat (4 : Nat))) ∧ ((2 : Int) = (0 : Int) → False) ∧ fits64 ((a.tdiv (Int.ofNat (4 : Nat)) + d * b.tdiv (Int.ofNat (4 : Nat))).tmod (2 : Int) * Int.ofNat (4 : Nat)) ∧ fits64 ((0 : Int) +
(a.tdiv (1 : Int) + d * b.tdiv (1 : Int)).tmod (2 : Int) * (1 : Int) + (a.tdiv (Int.ofNat (2 : Nat)) + d * b.tdiv (Int.ofNat (2 : Nat))).tmod (2 : Int) * Int.ofNat (2 : Nat) + (a.tdiv (Int.ofNat (4 : Nat)) + d * b.tdiv
(Int.ofNat (4 : Nat))).tmod (2 : Int) * Int.ofNat (4 : Nat)) ∧ (Int.ofNat (Nat.succ (7 : Nat)) = (0 : Int) → False) ∧ fits64 (a.tdiv (Int.ofNat (Nat.succ (7 : Nat)))) ∧ (Int.ofNat (Nat.succ (7 : Nat)) = (0 : Int) →
False) ∧ fits64 (b.tdiv (Int.ofNat (Nat.succ (7 : Nat)))) ∧ fits64 (d * b.tdiv (Int.ofNat (Nat.succ (7 : Nat)))) ∧ fits64 (a.tdiv (Int.ofNat (Nat.succ (7 : Nat))) + d * b.tdiv (Int.ofNat (Nat.succ (7 : Nat)))) ∧ ((2 :
Int) = (0 : Int) → False) ∧ fits64 ((a.tdiv (Int.ofNat (Nat.succ (7 : Nat))) + d * b.tdiv (Int.ofNat (Nat.succ (7 : Nat)))).tmod (2 : Int) * Int.ofNat (Nat.succ (7 : Nat))) ∧ fits64 ((0 : Int) + (a.tdiv (1 : Int) + d *
b.tdiv (1 : Int)).tmod (2 : Int) * (1 : Int) + (a.tdiv (Int.ofNat (2 : Nat)) + d * b.tdiv (Int.ofNat (2 : Nat))).tmod (2 : Int) * Int.ofNat (2 : Nat) + (a.tdiv (Int.ofNat (4 : Nat)) + d * b.tdiv (Int.ofNat (4 :
Nat))).tmod (2 : Int) * Int.ofNat (4 : Nat) + (a.tdiv (Int.ofNat (Nat.succ (7 : Nat))) + d * b.tdiv (Int.ofNat (Nat.succ (7 : Nat)))).tmod (2 : Int) * Int.ofNat (Nat.succ (7 : Nat))) ∧ (0 : Int) + (a.tdiv (1 : Int) + d *
b.tdiv (1 : Int)).tmod (2 : Int) * (1 : Int) + (a.tdiv (Int.ofNat (2 : Nat)) + d * b.tdiv (Int.ofNat (2 : Nat))).tmod (2 : Int) * Int.ofNat (2 : Nat) + (a.tdiv (Int.ofNat (4 : Nat)) + d * b.tdiv (Int.ofNat (4 :
Nat))).tmod (2 : Int) * Int.ofNat (4 : Nat) + (a.tdiv (Int.ofNat (Nat.succ (7 : Nat))) + d * b.tdiv (Int.ofNat (Nat.succ (7 : Nat)))).tmod (2 : Int) * Int.ofNat (Nat.succ (7 : Nat)) = plusZ (16 : Int) (2 : Int) a d b)
instance d10q16 : ∀ a d b : Int, Decidable (p10q16 a d b) := fun a d b => by delta p10q16; repeat' (first | refine @instDecidableAnd _ _ ?_ ?_ | refine @instDecidableIff _ _ ?_ ?_ | refine @instDecidableForall _ _ ?_ ?_ | infer_instance)
theorem vc10q16 : ∀ (a d b : Int), symFun (ctx cc0 noAnn) 3 (65 : FuncId) [fieldV 16 2 3, V.int IntKind.i64 a, V.int IntKind.i64 d, V.int IntKind.i64 b] (V.int IntKind.i64 (plusZ 16 2 a d b)) = p10q16 a d b := by intros; kernel_rfl
theorem s10q16 (a d b : Int) (ha : eltP 16 a) (hd : eltP 2 d) (hb : eltP 16 b) : symFun (ctx cc0 noAnn) 3 65 [fieldV 16 2 3, .int .i64 a, .int .i64 d, .int .i64 b] (.int .i64 (plusZ 16 2 a d b)) := by
 rw [vc10q16]; exact all3 (i := fun _ _ _ => inferInstance) (p := p10q16) (a := a) (b := d) (c := b) (n := 16) (m := 2) (k := 16) (by kernel_rfl) ha hd hb
def p27q16 (a : Int) : Prop := ((Int.ofNat (Nat.succ (7 : Nat)) = (0 : Int) → False) ∧ fits64 (a.tmod (Int.ofNat (Nat.succ (7 : Nat))) * (2 : Int)) ∧ (Int.ofNat (Nat.succ (7 : Nat)) = (0 : Int) → False) ∧ fits64 (a.tdiv
(Int.ofNat (Nat.succ (7 : Nat)))) ∧ (((16 : Int) = (16 : Int) ∧ (2 : Int) = (2 : Int) ∧ (3 : Int) = (3 : Int)) ∧ eltP (16 : Int) (a.tmod (Int.ofNat (Nat.succ (7 : Nat))) * (2 : Int)) ∧ eltP (2 : Int) (a.tdiv (Int.ofNat
(Nat.succ (7 : Nat)))) ∧ eltP (16 : Int) (3 : Int)) ∧ plusZ (16 : Int) (2 : Int) (a.tmod (Int.ofNat (Nat.succ (7 : Nat))) * (2 : Int)) (a.tdiv (Int.ofNat (Nat.succ (7 : Nat)))) (3 : Int) = raisedZ (16 : Int) (2 : Int) (3
: Int) a)
instance d27q16 : ∀ a : Int, Decidable (p27q16 a) := fun a => by delta p27q16; repeat' (first | refine @instDecidableAnd _ _ ?_ ?_ | refine @instDecidableIff _ _ ?_ ?_ | refine @instDecidableForall _ _ ?_ ?_ | infer_instance)
theorem vc27q16 : ∀ (a : Int), symFun (ctx (cq1 16 2 3) noAnn) 3 (76 : FuncId) [fieldV 16 2 3, V.int IntKind.i64 a] (V.int IntKind.i64 (raisedZ 16 2 3 a)) = p27q16 a := by intros; kernel_rfl
theorem s27q16 (a : Int) (ha : eltP 16 a) : symFun (ctx (cq1 16 2 3) noAnn) 3 76 [fieldV 16 2 3, .int .i64 a] (.int .i64 (raisedZ 16 2 3 a)) := by
 rw [vc27q16]; exact all1 (i := fun _ => inferInstance) (p := p27q16) (a := a) (n := 16) (by kernel_rfl) ha
def p11q16 (a b : Int) : Prop := ((((16 : Int) = (16 : Int) ∧ (2 : Int) = (2 : Int) ∧ (3 : Int) = (3 : Int)) ∧ eltP (16 : Int) (0 : Int)) ∧ (Int.ofNat (Nat.succ (7 : Nat)) = (0 : Int) → False) ∧ fits64 (b.tdiv (Int.ofNat
(Nat.succ (7 : Nat)))) ∧ ((2 : Int) = (0 : Int) → False) ∧ (((16 : Int) = (16 : Int) ∧ (2 : Int) = (2 : Int) ∧ (3 : Int) = (3 : Int)) ∧ eltP (16 : Int) (raisedZ (16 : Int) (2 : Int) (3 : Int) (0 : Int)) ∧ eltP (2 : Int)
((b.tdiv (Int.ofNat (Nat.succ (7 : Nat)))).tmod (2 : Int)) ∧ eltP (16 : Int) a) ∧ (((16 : Int) = (16 : Int) ∧ (2 : Int) = (2 : Int) ∧ (3 : Int) = (3 : Int)) ∧ eltP (16 : Int) (plusZ (16 : Int) (2 : Int) (raisedZ (16 :
Int) (2 : Int) (3 : Int) (0 : Int)) ((b.tdiv (Int.ofNat (Nat.succ (7 : Nat)))).tmod (2 : Int)) a)) ∧ (Int.ofNat (4 : Nat) = (0 : Int) → False) ∧ fits64 (b.tdiv (Int.ofNat (4 : Nat))) ∧ ((2 : Int) = (0 : Int) → False) ∧
(((16 : Int) = (16 : Int) ∧ (2 : Int) = (2 : Int) ∧ (3 : Int) = (3 : Int)) ∧ eltP (16 : Int) (raisedZ (16 : Int) (2 : Int) (3 : Int) (plusZ (16 : Int) (2 : Int) (raisedZ (16 : Int) (2 : Int) (3 : Int) (0 : Int)) ((b.tdiv
(Int.ofNat (Nat.succ (7 : Nat)))).tmod (2 : Int)) a)) ∧ eltP (2 : Int) ((b.tdiv (Int.ofNat (4 : Nat))).tmod (2 : Int)) ∧ eltP (16 : Int) a) ∧ (((16 : Int) = (16 : Int) ∧ (2 : Int) = (2 : Int) ∧ (3 : Int) = (3 : Int)) ∧
eltP (16 : Int) (plusZ (16 : Int) (2 : Int) (raisedZ (16 : Int) (2 : Int) (3 : Int) (plusZ (16 : Int) (2 : Int) (raisedZ (16 : Int) (2 : Int) (3 : Int) (0 : Int)) ((b.tdiv (Int.ofNat (Nat.succ (7 : Nat)))).tmod (2 :
Int)) a)) ((b.tdiv (Int.ofNat (4 : Nat))).tmod (2 : Int)) a)) ∧ (Int.ofNat (2 : Nat) = (0 : Int) → False) ∧ fits64 (b.tdiv (Int.ofNat (2 : Nat))) ∧ ((2 : Int) = (0 : Int) → False) ∧ (((16 : Int) = (16 : Int) ∧ (2 : Int)
= (2 : Int) ∧ (3 : Int) = (3 : Int)) ∧ eltP (16 : Int) (raisedZ (16 : Int) (2 : Int) (3 : Int) (plusZ (16 : Int) (2 : Int) (raisedZ (16 : Int) (2 : Int) (3 : Int) (plusZ (16 : Int) (2 : Int) (raisedZ (16 : Int) (2 : Int)
(3 : Int) (0 : Int)) ((b.tdiv (Int.ofNat (Nat.succ (7 : Nat)))).tmod (2 : Int)) a)) ((b.tdiv (Int.ofNat (4 : Nat))).tmod (2 : Int)) a)) ∧ eltP (2 : Int) ((b.tdiv (Int.ofNat (2 : Nat))).tmod (2 : Int)) ∧ eltP (16 : Int)
a) ∧ (((16 : Int) = (16 : Int) ∧ (2 : Int) = (2 : Int) ∧ (3 : Int) = (3 : Int)) ∧ eltP (16 : Int) (plusZ (16 : Int) (2 : Int) (raisedZ (16 : Int) (2 : Int) (3 : Int) (plusZ (16 : Int) (2 : Int) (raisedZ (16 : Int) (2 :
Int) (3 : Int) (plusZ (16 : Int) (2 : Int) (raisedZ (16 : Int) (2 : Int) (3 : Int) (0 : Int)) ((b.tdiv (Int.ofNat (Nat.succ (7 : Nat)))).tmod (2 : Int)) a)) ((b.tdiv (Int.ofNat (4 : Nat))).tmod (2 : Int)) a)) ((b.tdiv
(Int.ofNat (2 : Nat))).tmod (2 : Int)) a)) ∧ (Int.ofNat (1 : Nat) = (0 : Int) → False) ∧ fits64 (b.tdiv (Int.ofNat (1 : Nat))) ∧ ((2 : Int) = (0 : Int) → False) ∧ (((16 : Int) = (16 : Int) ∧ (2 : Int) = (2 : Int) ∧ (3 :
Int) = (3 : Int)) ∧ eltP (16 : Int) (raisedZ (16 : Int) (2 : Int) (3 : Int) (plusZ (16 : Int) (2 : Int) (raisedZ (16 : Int) (2 : Int) (3 : Int) (plusZ (16 : Int) (2 : Int) (raisedZ (16 : Int) (2 : Int) (3 : Int) (plusZ
(16 : Int) (2 : Int) (raisedZ (16 : Int) (2 : Int) (3 : Int) (0 : Int)) ((b.tdiv (Int.ofNat (Nat.succ (7 : Nat)))).tmod (2 : Int)) a)) ((b.tdiv (Int.ofNat (4 : Nat))).tmod (2 : Int)) a)) ((b.tdiv (Int.ofNat (2 :
Nat))).tmod (2 : Int)) a)) ∧ eltP (2 : Int) ((b.tdiv (Int.ofNat (1 : Nat))).tmod (2 : Int)) ∧ eltP (16 : Int) a) ∧ plusZ (16 : Int) (2 : Int) (raisedZ (16 : Int) (2 : Int) (3 : Int) (plusZ (16 : Int) (2 : Int) (raisedZ
(16 : Int) (2 : Int) (3 : Int) (plusZ (16 : Int) (2 : Int) (raisedZ (16 : Int) (2 : Int) (3 : Int) (plusZ (16 : Int) (2 : Int) (raisedZ (16 : Int) (2 : Int) (3 : Int) (0 : Int)) ((b.tdiv (Int.ofNat (Nat.succ (7 :
Nat)))).tmod (2 : Int)) a)) ((b.tdiv (Int.ofNat (4 : Nat))).tmod (2 : Int)) a)) ((b.tdiv (Int.ofNat (2 : Nat))).tmod (2 : Int)) a)) ((b.tdiv (Int.ofNat (1 : Nat))).tmod (2 : Int)) a = mulZ (16 : Int) a b)
instance d11q16 : ∀ a b : Int, Decidable (p11q16 a b) := fun a b => by delta p11q16; repeat' (first | refine @instDecidableAnd _ _ ?_ ?_ | refine @instDecidableIff _ _ ?_ ?_ | refine @instDecidableForall _ _ ?_ ?_ | infer_instance)
theorem vc11q16 : ∀ (a b : Int), symFun (ctx (cq2 16 2 3) noAnn) 4 (58 : FuncId) [fieldV 16 2 3, V.int IntKind.i64 a, V.int IntKind.i64 b] (V.int IntKind.i64 (mulZ 16 a b)) = p11q16 a b := by intros; kernel_rfl
theorem s11q16 (a b : Int) (ha : eltP 16 a) (hb : eltP 16 b) : symFun (ctx (cq2 16 2 3) noAnn) 4 58 [fieldV 16 2 3, .int .i64 a, .int .i64 b] (.int .i64 (mulZ 16 a b)) := by
 rw [vc11q16]; exact all2 (i := fun _ _ => inferInstance) (p := p11q16) (a := a) (b := b) (n := 16) (m := 16) (by kernel_rfl) ha hb
def p1q16 (a b : Int) : Prop := plusZ 16 2 a 1 b = addZ 16 a b
instance d1q16 : ∀ a b : Int, Decidable (p1q16 a b) := fun a b => by delta p1q16; infer_instance
theorem one16 (a b : Int) (ha : eltP 16 a) (hb : eltP 16 b) : plusZ 16 2 a 1 b = addZ 16 a b := all2 (i := fun _ _ => inferInstance) (p := p1q16) (a := a) (b := b) (n := 16) (m := 16) (by kernel_rfl) ha hb
end Go.Ev
