/-
  Part of the engine that the claim is proved with: it states nothing of the document by itself.
-/
import Derived.Test.YtlihfnfigclbmaaDoorCoreEnDefs
open Go.Proofs
namespace Go.Ev
set_option maxRecDepth 100000
set_option maxHeartbeats 4000000
instance (q a : Int) : Decidable (eltP q a) := decidable_of_iff (0 ≤ a ∧ a < q) ⟨fun h => ⟨h⟩, fun h => h.out⟩
theorem all1 {n : Nat} {p : Int → Prop} (i : ∀ a, Decidable (p a)) (h : upto n (fun a => @decide (p (a : Int)) (i a)) = true) {a : Int} (ha : eltP n a) : p a := by
 obtain ⟨a, h1, rfl⟩ := elt_nat ha
 exact @of_decide_eq_true _ _ (upto_all h a h1)
theorem all2 {n m : Nat} {p : Int → Int → Prop} (i : ∀ a b, Decidable (p a b)) (h : upto n (fun a => upto m fun b => @decide (p (a : Int) (b : Int)) (i a b)) = true) {a b : Int} (ha : eltP n a) (hb : eltP m b) : p a b := by
 obtain ⟨a, h1, rfl⟩ := elt_nat ha; obtain ⟨b, h2, rfl⟩ := elt_nat hb
 exact @of_decide_eq_true _ _ (upto_all (upto_all h a h1) b h2)
theorem all3 {n m k : Nat} {p : Int → Int → Int → Prop} (i : ∀ a b c, Decidable (p a b c)) (h : upto n (fun a => upto m fun b => upto k fun c => @decide (p (a : Int) (b : Int) (c : Int)) (i a b c)) = true) {a b c : Int} (ha : eltP n a) (hb : eltP m b) (hc : eltP k c) : p a b c := by
 obtain ⟨a, h1, rfl⟩ := elt_nat ha; obtain ⟨b, h2, rfl⟩ := elt_nat hb; obtain ⟨c, h3, rfl⟩ := elt_nat hc
 exact @of_decide_eq_true _ _ (upto_all (upto_all (upto_all h a h1) b h2) c h3)
def p36q2 (a d b : Int) : Prop := (((1 : Int) = (0 : Int) → False) ∧ ((-9223372036854775808 : Int) ≤ a.tdiv (1 : Int) ∧ a.tdiv (1 : Int) < (9223372036854775808 : Int)) ∧ ((1 : Int) = (0 : Int) → False) ∧ ((-9223372036854775808 : Int)
 ≤ b.tdiv (1 : Int) ∧ b.tdiv (1 : Int) < (9223372036854775808 : Int)) ∧ ((-9223372036854775808 : Int) ≤ d * b.tdiv (1 : Int) ∧ d * b.tdiv (1 : Int) < (9223372036854775808 : Int)) ∧
 ((-9223372036854775808 : Int) ≤ a.tdiv (1 : Int) + d * b.tdiv (1 : Int) ∧ a.tdiv (1 : Int) + d * b.tdiv (1 : Int) < (9223372036854775808 : Int)) ∧ ((2 : Int) = (0 : Int) → False) ∧
 ((-9223372036854775808 : Int) ≤ (a.tdiv (1 : Int) + d * b.tdiv (1 : Int)).tmod (2 : Int) * (1 : Int) ∧ (a.tdiv (1 : Int) + d * b.tdiv (1 : Int)).tmod (2 : Int) * (1 : Int) < (9223372036854775808 :
 Int)) ∧ ((-9223372036854775808 : Int) ≤ (0 : Int) + (a.tdiv (1 : Int) + d * b.tdiv (1 : Int)).tmod (2 : Int) * (1 : Int) ∧ (0 : Int) + (a.tdiv (1 : Int) + d * b.tdiv (1 : Int)).tmod (2 : Int) * (1 :
 Int) < (9223372036854775808 : Int)) ∧ (0 : Int) + (a.tdiv (1 : Int) + d * b.tdiv (1 : Int)).tmod (2 : Int) * (1 : Int) = plusZ (2 : Int) (2 : Int) a d b)
instance d36q2 : ∀ a d b : Int, Decidable (p36q2 a d b) := fun a d b => by delta p36q2; repeat' (first | refine @instDecidableAnd _ _ ?_ ?_ | refine @instDecidableIff _ _ ?_ ?_ | refine @instDecidableForall _ _ ?_ ?_ | infer_instance)
theorem vc36q2 : ∀ (a d b : Int), symFun (ctx cc0 noAnn) (3 : Nat) (36 : FuncId) [fieldV (2 : Int) (2 : Int) (0 : Int), V.int IntKind.i64 a, V.int IntKind.i64 d, V.int IntKind.i64 b] (V.int IntKind.i64 (plusZ (2 : Int) (2 : Int) a d
 b)) = p36q2 a d b := by intros; kernel_rfl
theorem s36q2 (a d b : Int) (ha : eltP 2 a) (hd : eltP 2 d) (hb : eltP 2 b) : symFun (ctx cc0 noAnn) 3 36 [fieldV 2 2 0, .int .i64 a, .int .i64 d, .int .i64 b] (.int .i64 (plusZ 2 2 a d b)) := by
 rw [vc36q2]; exact all3 (i := fun _ _ _ => inferInstance) (p := p36q2) (a := a) (b := d) (c := b) (n := 2) (m := 2) (k := 2) (by kernel_rfl) ha hd hb
def p58q2 (a : Int) : Prop := ((Int.ofNat (1 : Nat) = (0 : Int) → False) ∧ ((-9223372036854775808 : Int) ≤ a.tmod (Int.ofNat (1 : Nat)) * (2 : Int) ∧ a.tmod (Int.ofNat (1 : Nat)) * (2 : Int) < (9223372036854775808 : Int)) ∧
 (Int.ofNat (1 : Nat) = (0 : Int) → False) ∧ ((-9223372036854775808 : Int) ≤ a.tdiv (Int.ofNat (1 : Nat)) ∧ a.tdiv (Int.ofNat (1 : Nat)) < (9223372036854775808 : Int)) ∧ (((2 : Int) = (2 : Int) ∧ (2 :
 Int) = (2 : Int) ∧ (0 : Int) = (0 : Int)) ∧ eltP (2 : Int) (a.tmod (Int.ofNat (1 : Nat)) * (2 : Int)) ∧ eltP (2 : Int) (a.tdiv (Int.ofNat (1 : Nat))) ∧ eltP (2 : Int) (0 : Int)) ∧ plusZ (2 : Int) (2 :
 Int) (a.tmod (Int.ofNat (1 : Nat)) * (2 : Int)) (a.tdiv (Int.ofNat (1 : Nat))) (0 : Int) = raisedZ (2 : Int) (2 : Int) (0 : Int) a)
instance d58q2 : ∀ a : Int, Decidable (p58q2 a) := fun a => by delta p58q2; repeat' (first | refine @instDecidableAnd _ _ ?_ ?_ | refine @instDecidableIff _ _ ?_ ?_ | refine @instDecidableForall _ _ ?_ ?_ | infer_instance)
theorem vc58q2 : ∀ (a : Int), symFun (ctx (cq1 (2 : Int) (2 : Int) (0 : Int)) noAnn) (3 : Nat) (58 : FuncId) [fieldV (2 : Int) (2 : Int) (0 : Int), V.int IntKind.i64 a] (V.int IntKind.i64 (raisedZ (2 : Int) (2 : Int) (0 : Int)
 a)) = p58q2 a := by intros; kernel_rfl
theorem s58q2 (a : Int) (ha : eltP 2 a) : symFun (ctx (cq1 2 2 0) noAnn) 3 58 [fieldV 2 2 0, .int .i64 a] (.int .i64 (raisedZ 2 2 0 a)) := by
 rw [vc58q2]; exact all1 (i := fun _ => inferInstance) (p := p58q2) (a := a) (n := 2) (by kernel_rfl) ha
def p11q2 (a b : Int) : Prop := (((0 : Int) ≤ a → (((a < (2 : Int) → False) → False) → ((0 : Int) ≤ b → ((b < (2 : Int) → False) → (0 : Int) = addZ (2 : Int) a b ∧ (false = true ↔ True) ∧ True) ∧ (((b < (2 : Int) → False) → False) →
 (((2 : Int) = (2 : Int) ∧ (2 : Int) = (2 : Int) ∧ (0 : Int) = (0 : Int)) ∧ eltP (2 : Int) a ∧ eltP (2 : Int) (1 : Int) ∧ eltP (2 : Int) b) ∧ plusZ (2 : Int) (2 : Int) a (1 : Int) b = addZ (2 : Int) a
 b ∧ (true = true ↔ True) ∧ True)) ∧ (((0 : Int) ≤ b → False) → (0 : Int) = addZ (2 : Int) a b ∧ (false = true ↔ True) ∧ True)) ∧ ((a < (2 : Int) → False) → (0 : Int) = addZ (2 : Int) a b ∧ (false =
 true ↔ True) ∧ True)) ∧ (((0 : Int) ≤ a → False) → (0 : Int) = addZ (2 : Int) a b ∧ (false = true ↔ True) ∧ True))
instance d11q2 : ∀ a b : Int, Decidable (p11q2 a b) := fun a b => by delta p11q2; repeat' (first | refine @instDecidableAnd _ _ ?_ ?_ | refine @instDecidableIff _ _ ?_ ?_ | refine @instDecidableForall _ _ ?_ ?_ | infer_instance)
theorem vc11q2 : ∀ (a b : Int), symFun (ctx (cq1 (2 : Int) (2 : Int) (0 : Int)) noAnn) (3 : Nat) (11 : FuncId) [V.val (Value.int IntKind.i64 (2 : Int)), V.int IntKind.i64 a, V.int IntKind.i64 b] (V.tup [V.int IntKind.i64 (addZ (2 :
 Int) a b), V.prop True]) = p11q2 a b := by intros; kernel_rfl
theorem s11q2 (a b : Int) (ha : eltP 2 a) (hb : eltP 2 b) : symFun (ctx (cq1 2 2 0) noAnn) 3 11 [.val (.int .i64 2), .int .i64 a, .int .i64 b] (.tup [.int .i64 (addZ 2 a b), .prop True]) := by
 rw [vc11q2]; exact all2 (i := fun _ _ => inferInstance) (p := p11q2) (a := a) (b := b) (n := 2) (m := 2) (by kernel_rfl) ha hb
def p13q2 (a b : Int) : Prop := (((0 : Int) ≤ a → (((a < (2 : Int) → False) → False) → ((0 : Int) ≤ b → ((b < (2 : Int) → False) → (0 : Int) = mulZ (2 : Int) a b ∧ (false = true ↔ True) ∧ True) ∧ (((b < (2 : Int) → False) → False) →
 (((2 : Int) = (2 : Int) ∧ (2 : Int) = (2 : Int) ∧ (0 : Int) = (0 : Int)) ∧ eltP (2 : Int) (0 : Int)) ∧ (Int.ofNat (1 : Nat) = (0 : Int) → False) ∧ ((-9223372036854775808 : Int) ≤ b.tdiv (Int.ofNat (1
 : Nat)) ∧ b.tdiv (Int.ofNat (1 : Nat)) < (9223372036854775808 : Int)) ∧ ((2 : Int) = (0 : Int) → False) ∧ (((2 : Int) = (2 : Int) ∧ (2 : Int) = (2 : Int) ∧ (0 : Int) = (0 : Int)) ∧ eltP (2 : Int)
 (raisedZ (2 : Int) (2 : Int) (0 : Int) (0 : Int)) ∧ eltP (2 : Int) ((b.tdiv (Int.ofNat (1 : Nat))).tmod (2 : Int)) ∧ eltP (2 : Int) a) ∧ plusZ (2 : Int) (2 : Int) (raisedZ (2 : Int) (2 : Int) (0 :
 Int) (0 : Int)) ((b.tdiv (Int.ofNat (1 : Nat))).tmod (2 : Int)) a = mulZ (2 : Int) a b ∧ (true = true ↔ True) ∧ True)) ∧ (((0 : Int) ≤ b → False) → (0 : Int) = mulZ (2 : Int) a b ∧ (false = true ↔
 True) ∧ True)) ∧ ((a < (2 : Int) → False) → (0 : Int) = mulZ (2 : Int) a b ∧ (false = true ↔ True) ∧ True)) ∧ (((0 : Int) ≤ a → False) → (0 : Int) = mulZ (2 : Int) a b ∧ (false = true ↔ True) ∧ True))
instance d13q2 : ∀ a b : Int, Decidable (p13q2 a b) := fun a b => by delta p13q2; repeat' (first | refine @instDecidableAnd _ _ ?_ ?_ | refine @instDecidableIff _ _ ?_ ?_ | refine @instDecidableForall _ _ ?_ ?_ | infer_instance)
theorem vc13q2 : ∀ (a b : Int), symFun (ctx (cq2 (2 : Int) (2 : Int) (0 : Int)) noAnn) (4 : Nat) (13 : FuncId) [V.val (Value.int IntKind.i64 (2 : Int)), V.int IntKind.i64 a, V.int IntKind.i64 b] (V.tup [V.int IntKind.i64 (mulZ (2 :
 Int) a b), V.prop True]) = p13q2 a b := by intros; kernel_rfl
theorem s13q2 (a b : Int) (ha : eltP 2 a) (hb : eltP 2 b) : symFun (ctx (cq2 2 2 0) noAnn) 4 13 [.val (.int .i64 2), .int .i64 a, .int .i64 b] (.tup [.int .i64 (mulZ 2 a b), .prop True]) := by
 rw [vc13q2]; exact all2 (i := fun _ _ => inferInstance) (p := p13q2) (a := a) (b := b) (n := 2) (m := 2) (by kernel_rfl) ha hb
def p36q3 (a d b : Int) : Prop := (((1 : Int) = (0 : Int) → False) ∧ ((-9223372036854775808 : Int) ≤ a.tdiv (1 : Int) ∧ a.tdiv (1 : Int) < (9223372036854775808 : Int)) ∧ ((1 : Int) = (0 : Int) → False) ∧ ((-9223372036854775808 : Int)
 ≤ b.tdiv (1 : Int) ∧ b.tdiv (1 : Int) < (9223372036854775808 : Int)) ∧ ((-9223372036854775808 : Int) ≤ d * b.tdiv (1 : Int) ∧ d * b.tdiv (1 : Int) < (9223372036854775808 : Int)) ∧
 ((-9223372036854775808 : Int) ≤ a.tdiv (1 : Int) + d * b.tdiv (1 : Int) ∧ a.tdiv (1 : Int) + d * b.tdiv (1 : Int) < (9223372036854775808 : Int)) ∧ ((3 : Int) = (0 : Int) → False) ∧
 ((-9223372036854775808 : Int) ≤ (a.tdiv (1 : Int) + d * b.tdiv (1 : Int)).tmod (3 : Int) * (1 : Int) ∧ (a.tdiv (1 : Int) + d * b.tdiv (1 : Int)).tmod (3 : Int) * (1 : Int) < (9223372036854775808 :
 Int)) ∧ ((-9223372036854775808 : Int) ≤ (0 : Int) + (a.tdiv (1 : Int) + d * b.tdiv (1 : Int)).tmod (3 : Int) * (1 : Int) ∧ (0 : Int) + (a.tdiv (1 : Int) + d * b.tdiv (1 : Int)).tmod (3 : Int) * (1 :
 Int) < (9223372036854775808 : Int)) ∧ (0 : Int) + (a.tdiv (1 : Int) + d * b.tdiv (1 : Int)).tmod (3 : Int) * (1 : Int) = plusZ (3 : Int) (3 : Int) a d b)
instance d36q3 : ∀ a d b : Int, Decidable (p36q3 a d b) := fun a d b => by delta p36q3; repeat' (first | refine @instDecidableAnd _ _ ?_ ?_ | refine @instDecidableIff _ _ ?_ ?_ | refine @instDecidableForall _ _ ?_ ?_ | infer_instance)
theorem vc36q3 : ∀ (a d b : Int), symFun (ctx cc0 noAnn) (3 : Nat) (36 : FuncId) [fieldV (3 : Int) (3 : Int) (0 : Int), V.int IntKind.i64 a, V.int IntKind.i64 d, V.int IntKind.i64 b] (V.int IntKind.i64 (plusZ (3 : Int) (3 : Int) a d
 b)) = p36q3 a d b := by intros; kernel_rfl
theorem s36q3 (a d b : Int) (ha : eltP 3 a) (hd : eltP 3 d) (hb : eltP 3 b) : symFun (ctx cc0 noAnn) 3 36 [fieldV 3 3 0, .int .i64 a, .int .i64 d, .int .i64 b] (.int .i64 (plusZ 3 3 a d b)) := by
 rw [vc36q3]; exact all3 (i := fun _ _ _ => inferInstance) (p := p36q3) (a := a) (b := d) (c := b) (n := 3) (m := 3) (k := 3) (by kernel_rfl) ha hd hb
def p58q3 (a : Int) : Prop := ((Int.ofNat (1 : Nat) = (0 : Int) → False) ∧ ((-9223372036854775808 : Int) ≤ a.tmod (Int.ofNat (1 : Nat)) * (3 : Int) ∧ a.tmod (Int.ofNat (1 : Nat)) * (3 : Int) < (9223372036854775808 : Int)) ∧
 (Int.ofNat (1 : Nat) = (0 : Int) → False) ∧ ((-9223372036854775808 : Int) ≤ a.tdiv (Int.ofNat (1 : Nat)) ∧ a.tdiv (Int.ofNat (1 : Nat)) < (9223372036854775808 : Int)) ∧ (((3 : Int) = (3 : Int) ∧ (3 :
 Int) = (3 : Int) ∧ (0 : Int) = (0 : Int)) ∧ eltP (3 : Int) (a.tmod (Int.ofNat (1 : Nat)) * (3 : Int)) ∧ eltP (3 : Int) (a.tdiv (Int.ofNat (1 : Nat))) ∧ eltP (3 : Int) (0 : Int)) ∧ plusZ (3 : Int) (3 :
 Int) (a.tmod (Int.ofNat (1 : Nat)) * (3 : Int)) (a.tdiv (Int.ofNat (1 : Nat))) (0 : Int) = raisedZ (3 : Int) (3 : Int) (0 : Int) a)
instance d58q3 : ∀ a : Int, Decidable (p58q3 a) := fun a => by delta p58q3; repeat' (first | refine @instDecidableAnd _ _ ?_ ?_ | refine @instDecidableIff _ _ ?_ ?_ | refine @instDecidableForall _ _ ?_ ?_ | infer_instance)
theorem vc58q3 : ∀ (a : Int), symFun (ctx (cq1 (3 : Int) (3 : Int) (0 : Int)) noAnn) (3 : Nat) (58 : FuncId) [fieldV (3 : Int) (3 : Int) (0 : Int), V.int IntKind.i64 a] (V.int IntKind.i64 (raisedZ (3 : Int) (3 : Int) (0 : Int)
 a)) = p58q3 a := by intros; kernel_rfl
theorem s58q3 (a : Int) (ha : eltP 3 a) : symFun (ctx (cq1 3 3 0) noAnn) 3 58 [fieldV 3 3 0, .int .i64 a] (.int .i64 (raisedZ 3 3 0 a)) := by
 rw [vc58q3]; exact all1 (i := fun _ => inferInstance) (p := p58q3) (a := a) (n := 3) (by kernel_rfl) ha
def p11q3 (a b : Int) : Prop := (((0 : Int) ≤ a → (((a < (3 : Int) → False) → False) → ((0 : Int) ≤ b → ((b < (3 : Int) → False) → (0 : Int) = addZ (3 : Int) a b ∧ (false = true ↔ True) ∧ True) ∧ (((b < (3 : Int) → False) → False) →
 (((3 : Int) = (3 : Int) ∧ (3 : Int) = (3 : Int) ∧ (0 : Int) = (0 : Int)) ∧ eltP (3 : Int) a ∧ eltP (3 : Int) (1 : Int) ∧ eltP (3 : Int) b) ∧ plusZ (3 : Int) (3 : Int) a (1 : Int) b = addZ (3 : Int) a
 b ∧ (true = true ↔ True) ∧ True)) ∧ (((0 : Int) ≤ b → False) → (0 : Int) = addZ (3 : Int) a b ∧ (false = true ↔ True) ∧ True)) ∧ ((a < (3 : Int) → False) → (0 : Int) = addZ (3 : Int) a b ∧ (false =
 true ↔ True) ∧ True)) ∧ (((0 : Int) ≤ a → False) → (0 : Int) = addZ (3 : Int) a b ∧ (false = true ↔ True) ∧ True))
instance d11q3 : ∀ a b : Int, Decidable (p11q3 a b) := fun a b => by delta p11q3; repeat' (first | refine @instDecidableAnd _ _ ?_ ?_ | refine @instDecidableIff _ _ ?_ ?_ | refine @instDecidableForall _ _ ?_ ?_ | infer_instance)
theorem vc11q3 : ∀ (a b : Int), symFun (ctx (cq1 (3 : Int) (3 : Int) (0 : Int)) noAnn) (3 : Nat) (11 : FuncId) [V.val (Value.int IntKind.i64 (3 : Int)), V.int IntKind.i64 a, V.int IntKind.i64 b] (V.tup [V.int IntKind.i64 (addZ (3 :
 Int) a b), V.prop True]) = p11q3 a b := by intros; kernel_rfl
theorem s11q3 (a b : Int) (ha : eltP 3 a) (hb : eltP 3 b) : symFun (ctx (cq1 3 3 0) noAnn) 3 11 [.val (.int .i64 3), .int .i64 a, .int .i64 b] (.tup [.int .i64 (addZ 3 a b), .prop True]) := by
 rw [vc11q3]; exact all2 (i := fun _ _ => inferInstance) (p := p11q3) (a := a) (b := b) (n := 3) (m := 3) (by kernel_rfl) ha hb
def p13q3 (a b : Int) : Prop := (((0 : Int) ≤ a → (((a < (3 : Int) → False) → False) → ((0 : Int) ≤ b → ((b < (3 : Int) → False) → (0 : Int) = mulZ (3 : Int) a b ∧ (false = true ↔ True) ∧ True) ∧ (((b < (3 : Int) → False) → False) →
 (((3 : Int) = (3 : Int) ∧ (3 : Int) = (3 : Int) ∧ (0 : Int) = (0 : Int)) ∧ eltP (3 : Int) (0 : Int)) ∧ (Int.ofNat (1 : Nat) = (0 : Int) → False) ∧ ((-9223372036854775808 : Int) ≤ b.tdiv (Int.ofNat (1
 : Nat)) ∧ b.tdiv (Int.ofNat (1 : Nat)) < (9223372036854775808 : Int)) ∧ ((3 : Int) = (0 : Int) → False) ∧ (((3 : Int) = (3 : Int) ∧ (3 : Int) = (3 : Int) ∧ (0 : Int) = (0 : Int)) ∧ eltP (3 : Int)
 (raisedZ (3 : Int) (3 : Int) (0 : Int) (0 : Int)) ∧ eltP (3 : Int) ((b.tdiv (Int.ofNat (1 : Nat))).tmod (3 : Int)) ∧ eltP (3 : Int) a) ∧ plusZ (3 : Int) (3 : Int) (raisedZ (3 : Int) (3 : Int) (0 :
 Int) (0 : Int)) ((b.tdiv (Int.ofNat (1 : Nat))).tmod (3 : Int)) a = mulZ (3 : Int) a b ∧ (true = true ↔ True) ∧ True)) ∧ (((0 : Int) ≤ b → False) → (0 : Int) = mulZ (3 : Int) a b ∧ (false = true ↔
 True) ∧ True)) ∧ ((a < (3 : Int) → False) → (0 : Int) = mulZ (3 : Int) a b ∧ (false = true ↔ True) ∧ True)) ∧ (((0 : Int) ≤ a → False) → (0 : Int) = mulZ (3 : Int) a b ∧ (false = true ↔ True) ∧ True))
instance d13q3 : ∀ a b : Int, Decidable (p13q3 a b) := fun a b => by delta p13q3; repeat' (first | refine @instDecidableAnd _ _ ?_ ?_ | refine @instDecidableIff _ _ ?_ ?_ | refine @instDecidableForall _ _ ?_ ?_ | infer_instance)
theorem vc13q3 : ∀ (a b : Int), symFun (ctx (cq2 (3 : Int) (3 : Int) (0 : Int)) noAnn) (4 : Nat) (13 : FuncId) [V.val (Value.int IntKind.i64 (3 : Int)), V.int IntKind.i64 a, V.int IntKind.i64 b] (V.tup [V.int IntKind.i64 (mulZ (3 :
 Int) a b), V.prop True]) = p13q3 a b := by intros; kernel_rfl
theorem s13q3 (a b : Int) (ha : eltP 3 a) (hb : eltP 3 b) : symFun (ctx (cq2 3 3 0) noAnn) 4 13 [.val (.int .i64 3), .int .i64 a, .int .i64 b] (.tup [.int .i64 (mulZ 3 a b), .prop True]) := by
 rw [vc13q3]; exact all2 (i := fun _ _ => inferInstance) (p := p13q3) (a := a) (b := b) (n := 3) (m := 3) (by kernel_rfl) ha hb
def p36q4 (a d b : Int) : Prop := (((1 : Int) = (0 : Int) → False) ∧ ((-9223372036854775808 : Int) ≤ a.tdiv (1 : Int) ∧ a.tdiv (1 : Int) < (9223372036854775808 : Int)) ∧ ((1 : Int) = (0 : Int) → False) ∧ ((-9223372036854775808 : Int)
 ≤ b.tdiv (1 : Int) ∧ b.tdiv (1 : Int) < (9223372036854775808 : Int)) ∧ ((-9223372036854775808 : Int) ≤ d * b.tdiv (1 : Int) ∧ d * b.tdiv (1 : Int) < (9223372036854775808 : Int)) ∧
 ((-9223372036854775808 : Int) ≤ a.tdiv (1 : Int) + d * b.tdiv (1 : Int) ∧ a.tdiv (1 : Int) + d * b.tdiv (1 : Int) < (9223372036854775808 : Int)) ∧ ((2 : Int) = (0 : Int) → False) ∧
 ((-9223372036854775808 : Int) ≤ (a.tdiv (1 : Int) + d * b.tdiv (1 : Int)).tmod (2 : Int) * (1 : Int) ∧ (a.tdiv (1 : Int) + d * b.tdiv (1 : Int)).tmod (2 : Int) * (1 : Int) < (9223372036854775808 :
 Int)) ∧ ((-9223372036854775808 : Int) ≤ (0 : Int) + (a.tdiv (1 : Int) + d * b.tdiv (1 : Int)).tmod (2 : Int) * (1 : Int) ∧ (0 : Int) + (a.tdiv (1 : Int) + d * b.tdiv (1 : Int)).tmod (2 : Int) * (1 :
 Int) < (9223372036854775808 : Int)) ∧ (Int.ofNat (2 : Nat) = (0 : Int) → False) ∧ ((-9223372036854775808 : Int) ≤ a.tdiv (Int.ofNat (2 : Nat)) ∧ a.tdiv (Int.ofNat (2 : Nat)) < (9223372036854775808 :
 Int)) ∧ (Int.ofNat (2 : Nat) = (0 : Int) → False) ∧ ((-9223372036854775808 : Int) ≤ b.tdiv (Int.ofNat (2 : Nat)) ∧ b.tdiv (Int.ofNat (2 : Nat)) < (9223372036854775808 : Int)) ∧ ((-9223372036854775808
 : Int) ≤ d * b.tdiv (Int.ofNat (2 : Nat)) ∧ d * b.tdiv (Int.ofNat (2 : Nat)) < (9223372036854775808 : Int)) ∧ ((-9223372036854775808 : Int) ≤ a.tdiv (Int.ofNat (2 : Nat)) + d * b.tdiv (Int.ofNat (2 :
 Nat)) ∧ a.tdiv (Int.ofNat (2 : Nat)) + d * b.tdiv (Int.ofNat (2 : Nat)) < (9223372036854775808 : Int)) ∧ ((2 : Int) = (0 : Int) → False) ∧ ((-9223372036854775808 : Int) ≤ (a.tdiv (Int.ofNat (2 : Nat))
 + d * b.tdiv (Int.ofNat (2 : Nat))).tmod (2 : Int) * Int.ofNat (2 : Nat) ∧ (a.tdiv (Int.ofNat (2 : Nat)) + d * b.tdiv (Int.ofNat (2 : Nat))).tmod (2 : Int) * Int.ofNat (2 : Nat) < (9223372036854775808
 : Int)) ∧ ((-9223372036854775808 : Int) ≤ (0 : Int) + (a.tdiv (1 : Int) + d * b.tdiv (1 : Int)).tmod (2 : Int) * (1 : Int) + (a.tdiv (Int.ofNat (2 : Nat)) + d * b.tdiv (Int.ofNat (2 : Nat))).tmod (2 :
 Int) * Int.ofNat (2 : Nat) ∧ (0 : Int) + (a.tdiv (1 : Int) + d * b.tdiv (1 : Int)).tmod (2 : Int) * (1 : Int) + (a.tdiv (Int.ofNat (2 : Nat)) + d * b.tdiv (Int.ofNat (2 : Nat))).tmod (2 : Int) *
 Int.ofNat (2 : Nat) < (9223372036854775808 : Int)) ∧ (0 : Int) + (a.tdiv (1 : Int) + d * b.tdiv (1 : Int)).tmod (2 : Int) * (1 : Int) + (a.tdiv (Int.ofNat (2 : Nat)) + d * b.tdiv (Int.ofNat (2 :
 Nat))).tmod (2 : Int) * Int.ofNat (2 : Nat) = plusZ (4 : Int) (2 : Int) a d b)
instance d36q4 : ∀ a d b : Int, Decidable (p36q4 a d b) := fun a d b => by delta p36q4; repeat' (first | refine @instDecidableAnd _ _ ?_ ?_ | refine @instDecidableIff _ _ ?_ ?_ | refine @instDecidableForall _ _ ?_ ?_ | infer_instance)
theorem vc36q4 : ∀ (a d b : Int), symFun (ctx cc0 noAnn) (3 : Nat) (36 : FuncId) [fieldV (4 : Int) (2 : Int) (3 : Int), V.int IntKind.i64 a, V.int IntKind.i64 d, V.int IntKind.i64 b] (V.int IntKind.i64 (plusZ (4 : Int) (2 : Int) a d
 b)) = p36q4 a d b := by intros; kernel_rfl
theorem s36q4 (a d b : Int) (ha : eltP 4 a) (hd : eltP 2 d) (hb : eltP 4 b) : symFun (ctx cc0 noAnn) 3 36 [fieldV 4 2 3, .int .i64 a, .int .i64 d, .int .i64 b] (.int .i64 (plusZ 4 2 a d b)) := by
 rw [vc36q4]; exact all3 (i := fun _ _ _ => inferInstance) (p := p36q4) (a := a) (b := d) (c := b) (n := 4) (m := 2) (k := 4) (by kernel_rfl) ha hd hb
def p58q4 (a : Int) : Prop := ((Int.ofNat (2 : Nat) = (0 : Int) → False) ∧ ((-9223372036854775808 : Int) ≤ a.tmod (Int.ofNat (2 : Nat)) * (2 : Int) ∧ a.tmod (Int.ofNat (2 : Nat)) * (2 : Int) < (9223372036854775808 : Int)) ∧
 (Int.ofNat (2 : Nat) = (0 : Int) → False) ∧ ((-9223372036854775808 : Int) ≤ a.tdiv (Int.ofNat (2 : Nat)) ∧ a.tdiv (Int.ofNat (2 : Nat)) < (9223372036854775808 : Int)) ∧ (((4 : Int) = (4 : Int) ∧ (2 :
 Int) = (2 : Int) ∧ (3 : Int) = (3 : Int)) ∧ eltP (4 : Int) (a.tmod (Int.ofNat (2 : Nat)) * (2 : Int)) ∧ eltP (2 : Int) (a.tdiv (Int.ofNat (2 : Nat))) ∧ eltP (4 : Int) (3 : Int)) ∧ plusZ (4 : Int) (2 :
 Int) (a.tmod (Int.ofNat (2 : Nat)) * (2 : Int)) (a.tdiv (Int.ofNat (2 : Nat))) (3 : Int) = raisedZ (4 : Int) (2 : Int) (3 : Int) a)
instance d58q4 : ∀ a : Int, Decidable (p58q4 a) := fun a => by delta p58q4; repeat' (first | refine @instDecidableAnd _ _ ?_ ?_ | refine @instDecidableIff _ _ ?_ ?_ | refine @instDecidableForall _ _ ?_ ?_ | infer_instance)
theorem vc58q4 : ∀ (a : Int), symFun (ctx (cq1 (4 : Int) (2 : Int) (3 : Int)) noAnn) (3 : Nat) (58 : FuncId) [fieldV (4 : Int) (2 : Int) (3 : Int), V.int IntKind.i64 a] (V.int IntKind.i64 (raisedZ (4 : Int) (2 : Int) (3 : Int)
 a)) = p58q4 a := by intros; kernel_rfl
theorem s58q4 (a : Int) (ha : eltP 4 a) : symFun (ctx (cq1 4 2 3) noAnn) 3 58 [fieldV 4 2 3, .int .i64 a] (.int .i64 (raisedZ 4 2 3 a)) := by
 rw [vc58q4]; exact all1 (i := fun _ => inferInstance) (p := p58q4) (a := a) (n := 4) (by kernel_rfl) ha
def p11q4 (a b : Int) : Prop := (((0 : Int) ≤ a → (((a < (4 : Int) → False) → False) → ((0 : Int) ≤ b → ((b < (4 : Int) → False) → (0 : Int) = addZ (4 : Int) a b ∧ (false = true ↔ True) ∧ True) ∧ (((b < (4 : Int) → False) → False) →
 (((4 : Int) = (4 : Int) ∧ (2 : Int) = (2 : Int) ∧ (3 : Int) = (3 : Int)) ∧ eltP (4 : Int) a ∧ eltP (2 : Int) (1 : Int) ∧ eltP (4 : Int) b) ∧ plusZ (4 : Int) (2 : Int) a (1 : Int) b = addZ (4 : Int) a
 b ∧ (true = true ↔ True) ∧ True)) ∧ (((0 : Int) ≤ b → False) → (0 : Int) = addZ (4 : Int) a b ∧ (false = true ↔ True) ∧ True)) ∧ ((a < (4 : Int) → False) → (0 : Int) = addZ (4 : Int) a b ∧ (false =
 true ↔ True) ∧ True)) ∧ (((0 : Int) ≤ a → False) → (0 : Int) = addZ (4 : Int) a b ∧ (false = true ↔ True) ∧ True))
instance d11q4 : ∀ a b : Int, Decidable (p11q4 a b) := fun a b => by delta p11q4; repeat' (first | refine @instDecidableAnd _ _ ?_ ?_ | refine @instDecidableIff _ _ ?_ ?_ | refine @instDecidableForall _ _ ?_ ?_ | infer_instance)
theorem vc11q4 : ∀ (a b : Int), symFun (ctx (cq1 (4 : Int) (2 : Int) (3 : Int)) noAnn) (3 : Nat) (11 : FuncId) [V.val (Value.int IntKind.i64 (4 : Int)), V.int IntKind.i64 a, V.int IntKind.i64 b] (V.tup [V.int IntKind.i64 (addZ (4 :
 Int) a b), V.prop True]) = p11q4 a b := by intros; kernel_rfl
theorem s11q4 (a b : Int) (ha : eltP 4 a) (hb : eltP 4 b) : symFun (ctx (cq1 4 2 3) noAnn) 3 11 [.val (.int .i64 4), .int .i64 a, .int .i64 b] (.tup [.int .i64 (addZ 4 a b), .prop True]) := by
 rw [vc11q4]; exact all2 (i := fun _ _ => inferInstance) (p := p11q4) (a := a) (b := b) (n := 4) (m := 4) (by kernel_rfl) ha hb
def p13q4 (a b : Int) : Prop := (((0 : Int) ≤ a → (((a < (4 : Int) → False) → False) → ((0 : Int) ≤ b → ((b < (4 : Int) → False) → (0 : Int) = mulZ (4 : Int) a b ∧ (false = true ↔ True) ∧ True) ∧ (((b < (4 : Int) → False) → False) →
 (((4 : Int) = (4 : Int) ∧ (2 : Int) = (2 : Int) ∧ (3 : Int) = (3 : Int)) ∧ eltP (4 : Int) (0 : Int)) ∧ (Int.ofNat (2 : Nat) = (0 : Int) → False) ∧ ((-9223372036854775808 : Int) ≤ b.tdiv (Int.ofNat (2
 : Nat)) ∧ b.tdiv (Int.ofNat (2 : Nat)) < (9223372036854775808 : Int)) ∧ ((2 : Int) = (0 : Int) → False) ∧ (((4 : Int) = (4 : Int) ∧ (2 : Int) = (2 : Int) ∧ (3 : Int) = (3 : Int)) ∧ eltP (4 : Int)
 (raisedZ (4 : Int) (2 : Int) (3 : Int) (0 : Int)) ∧ eltP (2 : Int) ((b.tdiv (Int.ofNat (2 : Nat))).tmod (2 : Int)) ∧ eltP (4 : Int) a) ∧ (((4 : Int) = (4 : Int) ∧ (2 : Int) = (2 : Int) ∧ (3 : Int) =
 (3 : Int)) ∧ eltP (4 : Int) (plusZ (4 : Int) (2 : Int) (raisedZ (4 : Int) (2 : Int) (3 : Int) (0 : Int)) ((b.tdiv (Int.ofNat (2 : Nat))).tmod (2 : Int)) a)) ∧ (Int.ofNat (1 : Nat) = (0 : Int) → False)
 ∧ ((-9223372036854775808 : Int) ≤ b.tdiv (Int.ofNat (1 : Nat)) ∧ b.tdiv (Int.ofNat (1 : Nat)) < (9223372036854775808 : Int)) ∧ ((2 : Int) = (0 : Int) → False) ∧ (((4 : Int) = (4 : Int) ∧ (2 : Int) =
 (2 : Int) ∧ (3 : Int) = (3 : Int)) ∧ eltP (4 : Int) (raisedZ (4 : Int) (2 : Int) (3 : Int) (plusZ (4 : Int) (2 : Int) (raisedZ (4 : Int) (2 : Int) (3 : Int) (0 : Int)) ((b.tdiv (Int.ofNat (2 :
 Nat))).tmod (2 : Int)) a)) ∧ eltP (2 : Int) ((b.tdiv (Int.ofNat (1 : Nat))).tmod (2 : Int)) ∧ eltP (4 : Int) a) ∧ plusZ (4 : Int) (2 : Int) (raisedZ (4 : Int) (2 : Int) (3 : Int) (plusZ (4 : Int) (2 :
 Int) (raisedZ (4 : Int) (2 : Int) (3 : Int) (0 : Int)) ((b.tdiv (Int.ofNat (2 : Nat))).tmod (2 : Int)) a)) ((b.tdiv (Int.ofNat (1 : Nat))).tmod (2 : Int)) a = mulZ (4 : Int) a b ∧ (true = true ↔ True)
 ∧ True)) ∧ (((0 : Int) ≤ b → False) → (0 : Int) = mulZ (4 : Int) a b ∧ (false = true ↔ True) ∧ True)) ∧ ((a < (4 : Int) → False) → (0 : Int) = mulZ (4 : Int) a b ∧ (false = true ↔ True) ∧ True)) ∧
 (((0 : Int) ≤ a → False) → (0 : Int) = mulZ (4 : Int) a b ∧ (false = true ↔ True) ∧ True))
instance d13q4 : ∀ a b : Int, Decidable (p13q4 a b) := fun a b => by delta p13q4; repeat' (first | refine @instDecidableAnd _ _ ?_ ?_ | refine @instDecidableIff _ _ ?_ ?_ | refine @instDecidableForall _ _ ?_ ?_ | infer_instance)
theorem vc13q4 : ∀ (a b : Int), symFun (ctx (cq2 (4 : Int) (2 : Int) (3 : Int)) noAnn) (4 : Nat) (13 : FuncId) [V.val (Value.int IntKind.i64 (4 : Int)), V.int IntKind.i64 a, V.int IntKind.i64 b] (V.tup [V.int IntKind.i64 (mulZ (4 :
 Int) a b), V.prop True]) = p13q4 a b := by intros; kernel_rfl
theorem s13q4 (a b : Int) (ha : eltP 4 a) (hb : eltP 4 b) : symFun (ctx (cq2 4 2 3) noAnn) 4 13 [.val (.int .i64 4), .int .i64 a, .int .i64 b] (.tup [.int .i64 (mulZ 4 a b), .prop True]) := by
 rw [vc13q4]; exact all2 (i := fun _ _ => inferInstance) (p := p13q4) (a := a) (b := b) (n := 4) (m := 4) (by kernel_rfl) ha hb
def p36q5 (a d b : Int) : Prop := (((1 : Int) = (0 : Int) → False) ∧ ((-9223372036854775808 : Int) ≤ a.tdiv (1 : Int) ∧ a.tdiv (1 : Int) < (9223372036854775808 : Int)) ∧ ((1 : Int) = (0 : Int) → False) ∧ ((-9223372036854775808 : Int)
 ≤ b.tdiv (1 : Int) ∧ b.tdiv (1 : Int) < (9223372036854775808 : Int)) ∧ ((-9223372036854775808 : Int) ≤ d * b.tdiv (1 : Int) ∧ d * b.tdiv (1 : Int) < (9223372036854775808 : Int)) ∧
 ((-9223372036854775808 : Int) ≤ a.tdiv (1 : Int) + d * b.tdiv (1 : Int) ∧ a.tdiv (1 : Int) + d * b.tdiv (1 : Int) < (9223372036854775808 : Int)) ∧ ((5 : Int) = (0 : Int) → False) ∧
 ((-9223372036854775808 : Int) ≤ (a.tdiv (1 : Int) + d * b.tdiv (1 : Int)).tmod (5 : Int) * (1 : Int) ∧ (a.tdiv (1 : Int) + d * b.tdiv (1 : Int)).tmod (5 : Int) * (1 : Int) < (9223372036854775808 :
 Int)) ∧ ((-9223372036854775808 : Int) ≤ (0 : Int) + (a.tdiv (1 : Int) + d * b.tdiv (1 : Int)).tmod (5 : Int) * (1 : Int) ∧ (0 : Int) + (a.tdiv (1 : Int) + d * b.tdiv (1 : Int)).tmod (5 : Int) * (1 :
 Int) < (9223372036854775808 : Int)) ∧ (0 : Int) + (a.tdiv (1 : Int) + d * b.tdiv (1 : Int)).tmod (5 : Int) * (1 : Int) = plusZ (5 : Int) (5 : Int) a d b)
instance d36q5 : ∀ a d b : Int, Decidable (p36q5 a d b) := fun a d b => by delta p36q5; repeat' (first | refine @instDecidableAnd _ _ ?_ ?_ | refine @instDecidableIff _ _ ?_ ?_ | refine @instDecidableForall _ _ ?_ ?_ | infer_instance)
theorem vc36q5 : ∀ (a d b : Int), symFun (ctx cc0 noAnn) (3 : Nat) (36 : FuncId) [fieldV (5 : Int) (5 : Int) (0 : Int), V.int IntKind.i64 a, V.int IntKind.i64 d, V.int IntKind.i64 b] (V.int IntKind.i64 (plusZ (5 : Int) (5 : Int) a d
 b)) = p36q5 a d b := by intros; kernel_rfl
theorem s36q5 (a d b : Int) (ha : eltP 5 a) (hd : eltP 5 d) (hb : eltP 5 b) : symFun (ctx cc0 noAnn) 3 36 [fieldV 5 5 0, .int .i64 a, .int .i64 d, .int .i64 b] (.int .i64 (plusZ 5 5 a d b)) := by
 rw [vc36q5]; exact all3 (i := fun _ _ _ => inferInstance) (p := p36q5) (a := a) (b := d) (c := b) (n := 5) (m := 5) (k := 5) (by kernel_rfl) ha hd hb
def p58q5 (a : Int) : Prop := ((Int.ofNat (1 : Nat) = (0 : Int) → False) ∧ ((-9223372036854775808 : Int) ≤ a.tmod (Int.ofNat (1 : Nat)) * (5 : Int) ∧ a.tmod (Int.ofNat (1 : Nat)) * (5 : Int) < (9223372036854775808 : Int)) ∧
 (Int.ofNat (1 : Nat) = (0 : Int) → False) ∧ ((-9223372036854775808 : Int) ≤ a.tdiv (Int.ofNat (1 : Nat)) ∧ a.tdiv (Int.ofNat (1 : Nat)) < (9223372036854775808 : Int)) ∧ (((5 : Int) = (5 : Int) ∧ (5 :
 Int) = (5 : Int) ∧ (0 : Int) = (0 : Int)) ∧ eltP (5 : Int) (a.tmod (Int.ofNat (1 : Nat)) * (5 : Int)) ∧ eltP (5 : Int) (a.tdiv (Int.ofNat (1 : Nat))) ∧ eltP (5 : Int) (0 : Int)) ∧ plusZ (5 : Int) (5 :
 Int) (a.tmod (Int.ofNat (1 : Nat)) * (5 : Int)) (a.tdiv (Int.ofNat (1 : Nat))) (0 : Int) = raisedZ (5 : Int) (5 : Int) (0 : Int) a)
instance d58q5 : ∀ a : Int, Decidable (p58q5 a) := fun a => by delta p58q5; repeat' (first | refine @instDecidableAnd _ _ ?_ ?_ | refine @instDecidableIff _ _ ?_ ?_ | refine @instDecidableForall _ _ ?_ ?_ | infer_instance)
theorem vc58q5 : ∀ (a : Int), symFun (ctx (cq1 (5 : Int) (5 : Int) (0 : Int)) noAnn) (3 : Nat) (58 : FuncId) [fieldV (5 : Int) (5 : Int) (0 : Int), V.int IntKind.i64 a] (V.int IntKind.i64 (raisedZ (5 : Int) (5 : Int) (0 : Int)
 a)) = p58q5 a := by intros; kernel_rfl
theorem s58q5 (a : Int) (ha : eltP 5 a) : symFun (ctx (cq1 5 5 0) noAnn) 3 58 [fieldV 5 5 0, .int .i64 a] (.int .i64 (raisedZ 5 5 0 a)) := by
 rw [vc58q5]; exact all1 (i := fun _ => inferInstance) (p := p58q5) (a := a) (n := 5) (by kernel_rfl) ha
def p11q5 (a b : Int) : Prop := (((0 : Int) ≤ a → (((a < (5 : Int) → False) → False) → ((0 : Int) ≤ b → ((b < (5 : Int) → False) → (0 : Int) = addZ (5 : Int) a b ∧ (false = true ↔ True) ∧ True) ∧ (((b < (5 : Int) → False) → False) →
 (((5 : Int) = (5 : Int) ∧ (5 : Int) = (5 : Int) ∧ (0 : Int) = (0 : Int)) ∧ eltP (5 : Int) a ∧ eltP (5 : Int) (1 : Int) ∧ eltP (5 : Int) b) ∧ plusZ (5 : Int) (5 : Int) a (1 : Int) b = addZ (5 : Int) a
 b ∧ (true = true ↔ True) ∧ True)) ∧ (((0 : Int) ≤ b → False) → (0 : Int) = addZ (5 : Int) a b ∧ (false = true ↔ True) ∧ True)) ∧ ((a < (5 : Int) → False) → (0 : Int) = addZ (5 : Int) a b ∧ (false =
 true ↔ True) ∧ True)) ∧ (((0 : Int) ≤ a → False) → (0 : Int) = addZ (5 : Int) a b ∧ (false = true ↔ True) ∧ True))
instance d11q5 : ∀ a b : Int, Decidable (p11q5 a b) := fun a b => by delta p11q5; repeat' (first | refine @instDecidableAnd _ _ ?_ ?_ | refine @instDecidableIff _ _ ?_ ?_ | refine @instDecidableForall _ _ ?_ ?_ | infer_instance)
theorem vc11q5 : ∀ (a b : Int), symFun (ctx (cq1 (5 : Int) (5 : Int) (0 : Int)) noAnn) (3 : Nat) (11 : FuncId) [V.val (Value.int IntKind.i64 (5 : Int)), V.int IntKind.i64 a, V.int IntKind.i64 b] (V.tup [V.int IntKind.i64 (addZ (5 :
 Int) a b), V.prop True]) = p11q5 a b := by intros; kernel_rfl
theorem s11q5 (a b : Int) (ha : eltP 5 a) (hb : eltP 5 b) : symFun (ctx (cq1 5 5 0) noAnn) 3 11 [.val (.int .i64 5), .int .i64 a, .int .i64 b] (.tup [.int .i64 (addZ 5 a b), .prop True]) := by
 rw [vc11q5]; exact all2 (i := fun _ _ => inferInstance) (p := p11q5) (a := a) (b := b) (n := 5) (m := 5) (by kernel_rfl) ha hb
def p13q5 (a b : Int) : Prop := (((0 : Int) ≤ a → (((a < (5 : Int) → False) → False) → ((0 : Int) ≤ b → ((b < (5 : Int) → False) → (0 : Int) = mulZ (5 : Int) a b ∧ (false = true ↔ True) ∧ True) ∧ (((b < (5 : Int) → False) → False) →
 (((5 : Int) = (5 : Int) ∧ (5 : Int) = (5 : Int) ∧ (0 : Int) = (0 : Int)) ∧ eltP (5 : Int) (0 : Int)) ∧ (Int.ofNat (1 : Nat) = (0 : Int) → False) ∧ ((-9223372036854775808 : Int) ≤ b.tdiv (Int.ofNat (1
 : Nat)) ∧ b.tdiv (Int.ofNat (1 : Nat)) < (9223372036854775808 : Int)) ∧ ((5 : Int) = (0 : Int) → False) ∧ (((5 : Int) = (5 : Int) ∧ (5 : Int) = (5 : Int) ∧ (0 : Int) = (0 : Int)) ∧ eltP (5 : Int)
 (raisedZ (5 : Int) (5 : Int) (0 : Int) (0 : Int)) ∧ eltP (5 : Int) ((b.tdiv (Int.ofNat (1 : Nat))).tmod (5 : Int)) ∧ eltP (5 : Int) a) ∧ plusZ (5 : Int) (5 : Int) (raisedZ (5 : Int) (5 : Int) (0 :
 Int) (0 : Int)) ((b.tdiv (Int.ofNat (1 : Nat))).tmod (5 : Int)) a = mulZ (5 : Int) a b ∧ (true = true ↔ True) ∧ True)) ∧ (((0 : Int) ≤ b → False) → (0 : Int) = mulZ (5 : Int) a b ∧ (false = true ↔
 True) ∧ True)) ∧ ((a < (5 : Int) → False) → (0 : Int) = mulZ (5 : Int) a b ∧ (false = true ↔ True) ∧ True)) ∧ (((0 : Int) ≤ a → False) → (0 : Int) = mulZ (5 : Int) a b ∧ (false = true ↔ True) ∧ True))
instance d13q5 : ∀ a b : Int, Decidable (p13q5 a b) := fun a b => by delta p13q5; repeat' (first | refine @instDecidableAnd _ _ ?_ ?_ | refine @instDecidableIff _ _ ?_ ?_ | refine @instDecidableForall _ _ ?_ ?_ | infer_instance)
theorem vc13q5 : ∀ (a b : Int), symFun (ctx (cq2 (5 : Int) (5 : Int) (0 : Int)) noAnn) (4 : Nat) (13 : FuncId) [V.val (Value.int IntKind.i64 (5 : Int)), V.int IntKind.i64 a, V.int IntKind.i64 b] (V.tup [V.int IntKind.i64 (mulZ (5 :
 Int) a b), V.prop True]) = p13q5 a b := by intros; kernel_rfl
theorem s13q5 (a b : Int) (ha : eltP 5 a) (hb : eltP 5 b) : symFun (ctx (cq2 5 5 0) noAnn) 4 13 [.val (.int .i64 5), .int .i64 a, .int .i64 b] (.tup [.int .i64 (mulZ 5 a b), .prop True]) := by
 rw [vc13q5]; exact all2 (i := fun _ _ => inferInstance) (p := p13q5) (a := a) (b := b) (n := 5) (m := 5) (by kernel_rfl) ha hb
def p36q7 (a d b : Int) : Prop := (((1 : Int) = (0 : Int) → False) ∧ ((-9223372036854775808 : Int) ≤ a.tdiv (1 : Int) ∧ a.tdiv (1 : Int) < (9223372036854775808 : Int)) ∧ ((1 : Int) = (0 : Int) → False) ∧ ((-9223372036854775808 : Int)
 ≤ b.tdiv (1 : Int) ∧ b.tdiv (1 : Int) < (9223372036854775808 : Int)) ∧ ((-9223372036854775808 : Int) ≤ d * b.tdiv (1 : Int) ∧ d * b.tdiv (1 : Int) < (9223372036854775808 : Int)) ∧
 ((-9223372036854775808 : Int) ≤ a.tdiv (1 : Int) + d * b.tdiv (1 : Int) ∧ a.tdiv (1 : Int) + d * b.tdiv (1 : Int) < (9223372036854775808 : Int)) ∧ ((7 : Int) = (0 : Int) → False) ∧
 ((-9223372036854775808 : Int) ≤ (a.tdiv (1 : Int) + d * b.tdiv (1 : Int)).tmod (7 : Int) * (1 : Int) ∧ (a.tdiv (1 : Int) + d * b.tdiv (1 : Int)).tmod (7 : Int) * (1 : Int) < (9223372036854775808 :
 Int)) ∧ ((-9223372036854775808 : Int) ≤ (0 : Int) + (a.tdiv (1 : Int) + d * b.tdiv (1 : Int)).tmod (7 : Int) * (1 : Int) ∧ (0 : Int) + (a.tdiv (1 : Int) + d * b.tdiv (1 : Int)).tmod (7 : Int) * (1 :
 Int) < (9223372036854775808 : Int)) ∧ (0 : Int) + (a.tdiv (1 : Int) + d * b.tdiv (1 : Int)).tmod (7 : Int) * (1 : Int) = plusZ (7 : Int) (7 : Int) a d b)
instance d36q7 : ∀ a d b : Int, Decidable (p36q7 a d b) := fun a d b => by delta p36q7; repeat' (first | refine @instDecidableAnd _ _ ?_ ?_ | refine @instDecidableIff _ _ ?_ ?_ | refine @instDecidableForall _ _ ?_ ?_ | infer_instance)
theorem vc36q7 : ∀ (a d b : Int), symFun (ctx cc0 noAnn) (3 : Nat) (36 : FuncId) [fieldV (7 : Int) (7 : Int) (0 : Int), V.int IntKind.i64 a, V.int IntKind.i64 d, V.int IntKind.i64 b] (V.int IntKind.i64 (plusZ (7 : Int) (7 : Int) a d
 b)) = p36q7 a d b := by intros; kernel_rfl
theorem s36q7 (a d b : Int) (ha : eltP 7 a) (hd : eltP 7 d) (hb : eltP 7 b) : symFun (ctx cc0 noAnn) 3 36 [fieldV 7 7 0, .int .i64 a, .int .i64 d, .int .i64 b] (.int .i64 (plusZ 7 7 a d b)) := by
 rw [vc36q7]; exact all3 (i := fun _ _ _ => inferInstance) (p := p36q7) (a := a) (b := d) (c := b) (n := 7) (m := 7) (k := 7) (by kernel_rfl) ha hd hb
def p58q7 (a : Int) : Prop := ((Int.ofNat (1 : Nat) = (0 : Int) → False) ∧ ((-9223372036854775808 : Int) ≤ a.tmod (Int.ofNat (1 : Nat)) * (7 : Int) ∧ a.tmod (Int.ofNat (1 : Nat)) * (7 : Int) < (9223372036854775808 : Int)) ∧
 (Int.ofNat (1 : Nat) = (0 : Int) → False) ∧ ((-9223372036854775808 : Int) ≤ a.tdiv (Int.ofNat (1 : Nat)) ∧ a.tdiv (Int.ofNat (1 : Nat)) < (9223372036854775808 : Int)) ∧ (((7 : Int) = (7 : Int) ∧ (7 :
 Int) = (7 : Int) ∧ (0 : Int) = (0 : Int)) ∧ eltP (7 : Int) (a.tmod (Int.ofNat (1 : Nat)) * (7 : Int)) ∧ eltP (7 : Int) (a.tdiv (Int.ofNat (1 : Nat))) ∧ eltP (7 : Int) (0 : Int)) ∧ plusZ (7 : Int) (7 :
 Int) (a.tmod (Int.ofNat (1 : Nat)) * (7 : Int)) (a.tdiv (Int.ofNat (1 : Nat))) (0 : Int) = raisedZ (7 : Int) (7 : Int) (0 : Int) a)
instance d58q7 : ∀ a : Int, Decidable (p58q7 a) := fun a => by delta p58q7; repeat' (first | refine @instDecidableAnd _ _ ?_ ?_ | refine @instDecidableIff _ _ ?_ ?_ | refine @instDecidableForall _ _ ?_ ?_ | infer_instance)
theorem vc58q7 : ∀ (a : Int), symFun (ctx (cq1 (7 : Int) (7 : Int) (0 : Int)) noAnn) (3 : Nat) (58 : FuncId) [fieldV (7 : Int) (7 : Int) (0 : Int), V.int IntKind.i64 a] (V.int IntKind.i64 (raisedZ (7 : Int) (7 : Int) (0 : Int)
 a)) = p58q7 a := by intros; kernel_rfl
theorem s58q7 (a : Int) (ha : eltP 7 a) : symFun (ctx (cq1 7 7 0) noAnn) 3 58 [fieldV 7 7 0, .int .i64 a] (.int .i64 (raisedZ 7 7 0 a)) := by
 rw [vc58q7]; exact all1 (i := fun _ => inferInstance) (p := p58q7) (a := a) (n := 7) (by kernel_rfl) ha
def p11q7 (a b : Int) : Prop := (((0 : Int) ≤ a → (((a < (7 : Int) → False) → False) → ((0 : Int) ≤ b → ((b < (7 : Int) → False) → (0 : Int) = addZ (7 : Int) a b ∧ (false = true ↔ True) ∧ True) ∧ (((b < (7 : Int) → False) → False) →
 (((7 : Int) = (7 : Int) ∧ (7 : Int) = (7 : Int) ∧ (0 : Int) = (0 : Int)) ∧ eltP (7 : Int) a ∧ eltP (7 : Int) (1 : Int) ∧ eltP (7 : Int) b) ∧ plusZ (7 : Int) (7 : Int) a (1 : Int) b = addZ (7 : Int) a
 b ∧ (true = true ↔ True) ∧ True)) ∧ (((0 : Int) ≤ b → False) → (0 : Int) = addZ (7 : Int) a b ∧ (false = true ↔ True) ∧ True)) ∧ ((a < (7 : Int) → False) → (0 : Int) = addZ (7 : Int) a b ∧ (false =
 true ↔ True) ∧ True)) ∧ (((0 : Int) ≤ a → False) → (0 : Int) = addZ (7 : Int) a b ∧ (false = true ↔ True) ∧ True))
instance d11q7 : ∀ a b : Int, Decidable (p11q7 a b) := fun a b => by delta p11q7; repeat' (first | refine @instDecidableAnd _ _ ?_ ?_ | refine @instDecidableIff _ _ ?_ ?_ | refine @instDecidableForall _ _ ?_ ?_ | infer_instance)
theorem vc11q7 : ∀ (a b : Int), symFun (ctx (cq1 (7 : Int) (7 : Int) (0 : Int)) noAnn) (3 : Nat) (11 : FuncId) [V.val (Value.int IntKind.i64 (7 : Int)), V.int IntKind.i64 a, V.int IntKind.i64 b] (V.tup [V.int IntKind.i64 (addZ (7 :
 Int) a b), V.prop True]) = p11q7 a b := by intros; kernel_rfl
theorem s11q7 (a b : Int) (ha : eltP 7 a) (hb : eltP 7 b) : symFun (ctx (cq1 7 7 0) noAnn) 3 11 [.val (.int .i64 7), .int .i64 a, .int .i64 b] (.tup [.int .i64 (addZ 7 a b), .prop True]) := by
 rw [vc11q7]; exact all2 (i := fun _ _ => inferInstance) (p := p11q7) (a := a) (b := b) (n := 7) (m := 7) (by kernel_rfl) ha hb
def p13q7 (a b : Int) : Prop := (((0 : Int) ≤ a → (((a < (7 : Int) → False) → False) → ((0 : Int) ≤ b → ((b < (7 : Int) → False) → (0 : Int) = mulZ (7 : Int) a b ∧ (false = true ↔ True) ∧ True) ∧ (((b < (7 : Int) → False) → False) →
 (((7 : Int) = (7 : Int) ∧ (7 : Int) = (7 : Int) ∧ (0 : Int) = (0 : Int)) ∧ eltP (7 : Int) (0 : Int)) ∧ (Int.ofNat (1 : Nat) = (0 : Int) → False) ∧ ((-9223372036854775808 : Int) ≤ b.tdiv (Int.ofNat (1
 : Nat)) ∧ b.tdiv (Int.ofNat (1 : Nat)) < (9223372036854775808 : Int)) ∧ ((7 : Int) = (0 : Int) → False) ∧ (((7 : Int) = (7 : Int) ∧ (7 : Int) = (7 : Int) ∧ (0 : Int) = (0 : Int)) ∧ eltP (7 : Int)
 (raisedZ (7 : Int) (7 : Int) (0 : Int) (0 : Int)) ∧ eltP (7 : Int) ((b.tdiv (Int.ofNat (1 : Nat))).tmod (7 : Int)) ∧ eltP (7 : Int) a) ∧ plusZ (7 : Int) (7 : Int) (raisedZ (7 : Int) (7 : Int) (0 :
 Int) (0 : Int)) ((b.tdiv (Int.ofNat (1 : Nat))).tmod (7 : Int)) a = mulZ (7 : Int) a b ∧ (true = true ↔ True) ∧ True)) ∧ (((0 : Int) ≤ b → False) → (0 : Int) = mulZ (7 : Int) a b ∧ (false = true ↔
 True) ∧ True)) ∧ ((a < (7 : Int) → False) → (0 : Int) = mulZ (7 : Int) a b ∧ (false = true ↔ True) ∧ True)) ∧ (((0 : Int) ≤ a → False) → (0 : Int) = mulZ (7 : Int) a b ∧ (false = true ↔ True) ∧ True))
instance d13q7 : ∀ a b : Int, Decidable (p13q7 a b) := fun a b => by delta p13q7; repeat' (first | refine @instDecidableAnd _ _ ?_ ?_ | refine @instDecidableIff _ _ ?_ ?_ | refine @instDecidableForall _ _ ?_ ?_ | infer_instance)
theorem vc13q7 : ∀ (a b : Int), symFun (ctx (cq2 (7 : Int) (7 : Int) (0 : Int)) noAnn) (4 : Nat) (13 : FuncId) [V.val (Value.int IntKind.i64 (7 : Int)), V.int IntKind.i64 a, V.int IntKind.i64 b] (V.tup [V.int IntKind.i64 (mulZ (7 :
 Int) a b), V.prop True]) = p13q7 a b := by intros; kernel_rfl
theorem s13q7 (a b : Int) (ha : eltP 7 a) (hb : eltP 7 b) : symFun (ctx (cq2 7 7 0) noAnn) 4 13 [.val (.int .i64 7), .int .i64 a, .int .i64 b] (.tup [.int .i64 (mulZ 7 a b), .prop True]) := by
 rw [vc13q7]; exact all2 (i := fun _ _ => inferInstance) (p := p13q7) (a := a) (b := b) (n := 7) (m := 7) (by kernel_rfl) ha hb
def p36q8 (a d b : Int) : Prop := (((1 : Int) = (0 : Int) → False) ∧ ((-9223372036854775808 : Int) ≤ a.tdiv (1 : Int) ∧ a.tdiv (1 : Int) < (9223372036854775808 : Int)) ∧ ((1 : Int) = (0 : Int) → False) ∧ ((-9223372036854775808 : Int)
 ≤ b.tdiv (1 : Int) ∧ b.tdiv (1 : Int) < (9223372036854775808 : Int)) ∧ ((-9223372036854775808 : Int) ≤ d * b.tdiv (1 : Int) ∧ d * b.tdiv (1 : Int) < (9223372036854775808 : Int)) ∧
 ((-9223372036854775808 : Int) ≤ a.tdiv (1 : Int) + d * b.tdiv (1 : Int) ∧ a.tdiv (1 : Int) + d * b.tdiv (1 : Int) < (9223372036854775808 : Int)) ∧ ((2 : Int) = (0 : Int) → False) ∧
 ((-9223372036854775808 : Int) ≤ (a.tdiv (1 : Int) + d * b.tdiv (1 : Int)).tmod (2 : Int) * (1 : Int) ∧ (a.tdiv (1 : Int) + d * b.tdiv (1 : Int)).tmod (2 : Int) * (1 : Int) < (9223372036854775808 :
 Int)) ∧ ((-9223372036854775808 : Int) ≤ (0 : Int) + (a.tdiv (1 : Int) + d * b.tdiv (1 : Int)).tmod (2 : Int) * (1 : Int) ∧ (0 : Int) + (a.tdiv (1 : Int) + d * b.tdiv (1 : Int)).tmod (2 : Int) * (1 :
 Int) < (9223372036854775808 : Int)) ∧ (Int.ofNat (2 : Nat) = (0 : Int) → False) ∧ ((-9223372036854775808 : Int) ≤ a.tdiv (Int.ofNat (2 : Nat)) ∧ a.tdiv (Int.ofNat (2 : Nat)) < (9223372036854775808 :
 Int)) ∧ (Int.ofNat (2 : Nat) = (0 : Int) → False) ∧ ((-9223372036854775808 : Int) ≤ b.tdiv (Int.ofNat (2 : Nat)) ∧ b.tdiv (Int.ofNat (2 : Nat)) < (9223372036854775808 : Int)) ∧ ((-9223372036854775808
 : Int) ≤ d * b.tdiv (Int.ofNat (2 : Nat)) ∧ d * b.tdiv (Int.ofNat (2 : Nat)) < (9223372036854775808 : Int)) ∧ ((-9223372036854775808 : Int) ≤ a.tdiv (Int.ofNat (2 : Nat)) + d * b.tdiv (Int.ofNat (2 :
 Nat)) ∧ a.tdiv (Int.ofNat (2 : Nat)) + d * b.tdiv (Int.ofNat (2 : Nat)) < (9223372036854775808 : Int)) ∧ ((2 : Int) = (0 : Int) → False) ∧ ((-9223372036854775808 : Int) ≤ (a.tdiv (Int.ofNat (2 : Nat))
 + d * b.tdiv (Int.ofNat (2 : Nat))).tmod (2 : Int) * Int.ofNat (2 : Nat) ∧ (a.tdiv (Int.ofNat (2 : Nat)) + d * b.tdiv (Int.ofNat (2 : Nat))).tmod (2 : Int) * Int.ofNat (2 : Nat) < (9223372036854775808
 : Int)) ∧ ((-9223372036854775808 : Int) ≤ (0 : Int) + (a.tdiv (1 : Int) + d * b.tdiv (1 : Int)).tmod (2 : Int) * (1 : Int) + (a.tdiv (Int.ofNat (2 : Nat)) + d * b.tdiv (Int.ofNat (2 : Nat))).tmod (2 :
 Int) * Int.ofNat (2 : Nat) ∧ (0 : Int) + (a.tdiv (1 : Int) + d * b.tdiv (1 : Int)).tmod (2 : Int) * (1 : Int) + (a.tdiv (Int.ofNat (2 : Nat)) + d * b.tdiv (Int.ofNat (2 : Nat))).tmod (2 : Int) *
 Int.ofNat (2 : Nat) < (9223372036854775808 : Int)) ∧ (Int.ofNat (4 : Nat) = (0 : Int) → False) ∧ ((-9223372036854775808 : Int) ≤ a.tdiv (Int.ofNat (4 : Nat)) ∧ a.tdiv (Int.ofNat (4 : Nat)) <
 (9223372036854775808 : Int)) ∧ (Int.ofNat (4 : Nat) = (0 : Int) → False) ∧ ((-9223372036854775808 : Int) ≤ b.tdiv (Int.ofNat (4 : Nat)) ∧ b.tdiv (Int.ofNat (4 : Nat)) < (9223372036854775808 : Int)) ∧
 ((-9223372036854775808 : Int) ≤ d * b.tdiv (Int.ofNat (4 : Nat)) ∧ d * b.tdiv (Int.ofNat (4 : Nat)) < (9223372036854775808 : Int)) ∧ ((-9223372036854775808 : Int) ≤ a.tdiv (Int.ofNat (4 : Nat)) + d *
 b.tdiv (Int.ofNat (4 : Nat)) ∧ a.tdiv (Int.ofNat (4 : Nat)) + d * b.tdiv (Int.ofNat (4 : Nat)) < (9223372036854775808 : Int)) ∧ ((2 : Int) = (0 : Int) → False) ∧ ((-9223372036854775808 : Int) ≤
 (a.tdiv (Int.ofNat (4 : Nat)) + d * b.tdiv (Int.ofNat (4 : Nat))).tmod (2 : Int) * Int.ofNat (4 : Nat) ∧ (a.tdiv (Int.ofNat (4 : Nat)) + d * b.tdiv (Int.ofNat (4 : Nat))).tmod (2 : Int) * Int.ofNat (4
 : Nat) < (9223372036854775808 : Int)) ∧ ((-9223372036854775808 : Int) ≤ (0 : Int) + (a.tdiv (1 : Int) + d * b.tdiv (1 : Int)).tmod (2 : Int) * (1 : Int) + (a.tdiv (Int.ofNat (2 : Nat)) + d * b.tdiv
 (Int.ofNat (2 : Nat))).tmod (2 : Int) * Int.ofNat (2 : Nat) + (a.tdiv (Int.ofNat (4 : Nat)) + d * b.tdiv (Int.ofNat (4 : Nat))).tmod (2 : Int) * Int.ofNat (4 : Nat) ∧ (0 : Int) + (a.tdiv (1 : Int) + d
 * b.tdiv (1 : Int)).tmod (2 : Int) * (1 : Int) + (a.tdiv (Int.ofNat (2 : Nat)) + d * b.tdiv (Int.ofNat (2 : Nat))).tmod (2 : Int) * Int.ofNat (2 : Nat) + (a.tdiv (Int.ofNat (4 : Nat)) + d * b.tdiv
 (Int.ofNat (4 : Nat))).tmod (2 : Int) * Int.ofNat (4 : Nat) < (9223372036854775808 : Int)) ∧ (0 : Int) + (a.tdiv (1 : Int) + d * b.tdiv (1 : Int)).tmod (2 : Int) * (1 : Int) + (a.tdiv (Int.ofNat (2 :
 Nat)) + d * b.tdiv (Int.ofNat (2 : Nat))).tmod (2 : Int) * Int.ofNat (2 : Nat) + (a.tdiv (Int.ofNat (4 : Nat)) + d * b.tdiv (Int.ofNat (4 : Nat))).tmod (2 : Int) * Int.ofNat (4 : Nat) = plusZ (8 :
 Int) (2 : Int) a d b)
instance d36q8 : ∀ a d b : Int, Decidable (p36q8 a d b) := fun a d b => by delta p36q8; repeat' (first | refine @instDecidableAnd _ _ ?_ ?_ | refine @instDecidableIff _ _ ?_ ?_ | refine @instDecidableForall _ _ ?_ ?_ | infer_instance)
theorem vc36q8 : ∀ (a d b : Int), symFun (ctx cc0 noAnn) (3 : Nat) (36 : FuncId) [fieldV (8 : Int) (2 : Int) (3 : Int), V.int IntKind.i64 a, V.int IntKind.i64 d, V.int IntKind.i64 b] (V.int IntKind.i64 (plusZ (8 : Int) (2 : Int) a d
 b)) = p36q8 a d b := by intros; kernel_rfl
theorem s36q8 (a d b : Int) (ha : eltP 8 a) (hd : eltP 2 d) (hb : eltP 8 b) : symFun (ctx cc0 noAnn) 3 36 [fieldV 8 2 3, .int .i64 a, .int .i64 d, .int .i64 b] (.int .i64 (plusZ 8 2 a d b)) := by
 rw [vc36q8]; exact all3 (i := fun _ _ _ => inferInstance) (p := p36q8) (a := a) (b := d) (c := b) (n := 8) (m := 2) (k := 8) (by kernel_rfl) ha hd hb
def p58q8 (a : Int) : Prop := ((Int.ofNat (4 : Nat) = (0 : Int) → False) ∧ ((-9223372036854775808 : Int) ≤ a.tmod (Int.ofNat (4 : Nat)) * (2 : Int) ∧ a.tmod (Int.ofNat (4 : Nat)) * (2 : Int) < (9223372036854775808 : Int)) ∧
 (Int.ofNat (4 : Nat) = (0 : Int) → False) ∧ ((-9223372036854775808 : Int) ≤ a.tdiv (Int.ofNat (4 : Nat)) ∧ a.tdiv (Int.ofNat (4 : Nat)) < (9223372036854775808 : Int)) ∧ (((8 : Int) = (8 : Int) ∧ (2 :
 Int) = (2 : Int) ∧ (3 : Int) = (3 : Int)) ∧ eltP (8 : Int) (a.tmod (Int.ofNat (4 : Nat)) * (2 : Int)) ∧ eltP (2 : Int) (a.tdiv (Int.ofNat (4 : Nat))) ∧ eltP (8 : Int) (3 : Int)) ∧ plusZ (8 : Int) (2 :
 Int) (a.tmod (Int.ofNat (4 : Nat)) * (2 : Int)) (a.tdiv (Int.ofNat (4 : Nat))) (3 : Int) = raisedZ (8 : Int) (2 : Int) (3 : Int) a)
instance d58q8 : ∀ a : Int, Decidable (p58q8 a) := fun a => by delta p58q8; repeat' (first | refine @instDecidableAnd _ _ ?_ ?_ | refine @instDecidableIff _ _ ?_ ?_ | refine @instDecidableForall _ _ ?_ ?_ | infer_instance)
theorem vc58q8 : ∀ (a : Int), symFun (ctx (cq1 (8 : Int) (2 : Int) (3 : Int)) noAnn) (3 : Nat) (58 : FuncId) [fieldV (8 : Int) (2 : Int) (3 : Int), V.int IntKind.i64 a] (V.int IntKind.i64 (raisedZ (8 : Int) (2 : Int) (3 : Int)
 a)) = p58q8 a := by intros; kernel_rfl
theorem s58q8 (a : Int) (ha : eltP 8 a) : symFun (ctx (cq1 8 2 3) noAnn) 3 58 [fieldV 8 2 3, .int .i64 a] (.int .i64 (raisedZ 8 2 3 a)) := by
 rw [vc58q8]; exact all1 (i := fun _ => inferInstance) (p := p58q8) (a := a) (n := 8) (by kernel_rfl) ha
def p11q8 (a b : Int) : Prop := (((0 : Int) ≤ a → (((a < (8 : Int) → False) → False) → ((0 : Int) ≤ b → ((b < (8 : Int) → False) → (0 : Int) = addZ (8 : Int) a b ∧ (false = true ↔ True) ∧ True) ∧ (((b < (8 : Int) → False) → False) →
 (((8 : Int) = (8 : Int) ∧ (2 : Int) = (2 : Int) ∧ (3 : Int) = (3 : Int)) ∧ eltP (8 : Int) a ∧ eltP (2 : Int) (1 : Int) ∧ eltP (8 : Int) b) ∧ plusZ (8 : Int) (2 : Int) a (1 : Int) b = addZ (8 : Int) a
 b ∧ (true = true ↔ True) ∧ True)) ∧ (((0 : Int) ≤ b → False) → (0 : Int) = addZ (8 : Int) a b ∧ (false = true ↔ True) ∧ True)) ∧ ((a < (8 : Int) → False) → (0 : Int) = addZ (8 : Int) a b ∧ (false =
 true ↔ True) ∧ True)) ∧ (((0 : Int) ≤ a → False) → (0 : Int) = addZ (8 : Int) a b ∧ (false = true ↔ True) ∧ True))
instance d11q8 : ∀ a b : Int, Decidable (p11q8 a b) := fun a b => by delta p11q8; repeat' (first | refine @instDecidableAnd _ _ ?_ ?_ | refine @instDecidableIff _ _ ?_ ?_ | refine @instDecidableForall _ _ ?_ ?_ | infer_instance)
theorem vc11q8 : ∀ (a b : Int), symFun (ctx (cq1 (8 : Int) (2 : Int) (3 : Int)) noAnn) (3 : Nat) (11 : FuncId) [V.val (Value.int IntKind.i64 (8 : Int)), V.int IntKind.i64 a, V.int IntKind.i64 b] (V.tup [V.int IntKind.i64 (addZ (8 :
 Int) a b), V.prop True]) = p11q8 a b := by intros; kernel_rfl
theorem s11q8 (a b : Int) (ha : eltP 8 a) (hb : eltP 8 b) : symFun (ctx (cq1 8 2 3) noAnn) 3 11 [.val (.int .i64 8), .int .i64 a, .int .i64 b] (.tup [.int .i64 (addZ 8 a b), .prop True]) := by
 rw [vc11q8]; exact all2 (i := fun _ _ => inferInstance) (p := p11q8) (a := a) (b := b) (n := 8) (m := 8) (by kernel_rfl) ha hb
def p13q8 (a b : Int) : Prop := (((0 : Int) ≤ a → (((a < (8 : Int) → False) → False) → ((0 : Int) ≤ b → ((b < (8 : Int) → False) → (0 : Int) = mulZ (8 : Int) a b ∧ (false = true ↔ True) ∧ True) ∧ (((b < (8 : Int) → False) → False) →
 (((8 : Int) = (8 : Int) ∧ (2 : Int) = (2 : Int) ∧ (3 : Int) = (3 : Int)) ∧ eltP (8 : Int) (0 : Int)) ∧ (Int.ofNat (4 : Nat) = (0 : Int) → False) ∧ ((-9223372036854775808 : Int) ≤ b.tdiv (Int.ofNat (4
 : Nat)) ∧ b.tdiv (Int.ofNat (4 : Nat)) < (9223372036854775808 : Int)) ∧ ((2 : Int) = (0 : Int) → False) ∧ (((8 : Int) = (8 : Int) ∧ (2 : Int) = (2 : Int) ∧ (3 : Int) = (3 : Int)) ∧ eltP (8 : Int)
 (raisedZ (8 : Int) (2 : Int) (3 : Int) (0 : Int)) ∧ eltP (2 : Int) ((b.tdiv (Int.ofNat (4 : Nat))).tmod (2 : Int)) ∧ eltP (8 : Int) a) ∧ (((8 : Int) = (8 : Int) ∧ (2 : Int) = (2 : Int) ∧ (3 : Int) =
 (3 : Int)) ∧ eltP (8 : Int) (plusZ (8 : Int) (2 : Int) (raisedZ (8 : Int) (2 : Int) (3 : Int) (0 : Int)) ((b.tdiv (Int.ofNat (4 : Nat))).tmod (2 : Int)) a)) ∧ (Int.ofNat (2 : Nat) = (0 : Int) → False)
 ∧ ((-9223372036854775808 : Int) ≤ b.tdiv (Int.ofNat (2 : Nat)) ∧ b.tdiv (Int.ofNat (2 : Nat)) < (9223372036854775808 : Int)) ∧ ((2 : Int) = (0 : Int) → False) ∧ (((8 : Int) = (8 : Int) ∧ (2 : Int) =
 (2 : Int) ∧ (3 : Int) = (3 : Int)) ∧ eltP (8 : Int) (raisedZ (8 : Int) (2 : Int) (3 : Int) (plusZ (8 : Int) (2 : Int) (raisedZ (8 : Int) (2 : Int) (3 : Int) (0 : Int)) ((b.tdiv (Int.ofNat (4 :
 Nat))).tmod (2 : Int)) a)) ∧ eltP (2 : Int) ((b.tdiv (Int.ofNat (2 : Nat))).tmod (2 : Int)) ∧ eltP (8 : Int) a) ∧ (((8 : Int) = (8 : Int) ∧ (2 : Int) = (2 : Int) ∧ (3 : Int) = (3 : Int)) ∧ eltP (8 :
 Int) (plusZ (8 : Int) (2 : Int) (raisedZ (8 : Int) (2 : Int) (3 : Int) (plusZ (8 : Int) (2 : Int) (raisedZ (8 : Int) (2 : Int) (3 : Int) (0 : Int)) ((b.tdiv (Int.ofNat (4 : Nat))).tmod (2 : Int)) a))
 ((b.tdiv (Int.ofNat (2 : Nat))).tmod (2 : Int)) a)) ∧ (Int.ofNat (1 : Nat) = (0 : Int) → False) ∧ ((-9223372036854775808 : Int) ≤ b.tdiv (Int.ofNat (1 : Nat)) ∧ b.tdiv (Int.ofNat (1 : Nat)) <
 (9223372036854775808 : Int)) ∧ ((2 : Int) = (0 : Int) → False) ∧ (((8 : Int) = (8 : Int) ∧ (2 : Int) = (2 : Int) ∧ (3 : Int) = (3 : Int)) ∧ eltP (8 : Int) (raisedZ (8 : Int) (2 : Int) (3 : Int) (plusZ
 (8 : Int) (2 : Int) (raisedZ (8 : Int) (2 : Int) (3 : Int) (plusZ (8 : Int) (2 : Int) (raisedZ (8 : Int) (2 : Int) (3 : Int) (0 : Int)) ((b.tdiv (Int.ofNat (4 : Nat))).tmod (2 : Int)) a)) ((b.tdiv
 (Int.ofNat (2 : Nat))).tmod (2 : Int)) a)) ∧ eltP (2 : Int) ((b.tdiv (Int.ofNat (1 : Nat))).tmod (2 : Int)) ∧ eltP (8 : Int) a) ∧ plusZ (8 : Int) (2 : Int) (raisedZ (8 : Int) (2 : Int) (3 : Int)
 (plusZ (8 : Int) (2 : Int) (raisedZ (8 : Int) (2 : Int) (3 : Int) (plusZ (8 : Int) (2 : Int) (raisedZ (8 : Int) (2 : Int) (3 : Int) (0 : Int)) ((b.tdiv (Int.ofNat (4 : Nat))).tmod (2 : Int)) a))
 ((b.tdiv (Int.ofNat (2 : Nat))).tmod (2 : Int)) a)) ((b.tdiv (Int.ofNat (1 : Nat))).tmod (2 : Int)) a = mulZ (8 : Int) a b ∧ (true = true ↔ True) ∧ True)) ∧ (((0 : Int) ≤ b → False) → (0 : Int) = mulZ
 (8 : Int) a b ∧ (false = true ↔ True) ∧ True)) ∧ ((a < (8 : Int) → False) → (0 : Int) = mulZ (8 : Int) a b ∧ (false = true ↔ True) ∧ True)) ∧ (((0 : Int) ≤ a → False) → (0 : Int) = mulZ (8 : Int) a b
 ∧ (false = true ↔ True) ∧ True))
instance d13q8 : ∀ a b : Int, Decidable (p13q8 a b) := fun a b => by delta p13q8; repeat' (first | refine @instDecidableAnd _ _ ?_ ?_ | refine @instDecidableIff _ _ ?_ ?_ | refine @instDecidableForall _ _ ?_ ?_ | infer_instance)
theorem vc13q8 : ∀ (a b : Int), symFun (ctx (cq2 (8 : Int) (2 : Int) (3 : Int)) noAnn) (4 : Nat) (13 : FuncId) [V.val (Value.int IntKind.i64 (8 : Int)), V.int IntKind.i64 a, V.int IntKind.i64 b] (V.tup [V.int IntKind.i64 (mulZ (8 :
 Int) a b), V.prop True]) = p13q8 a b := by intros; kernel_rfl
theorem s13q8 (a b : Int) (ha : eltP 8 a) (hb : eltP 8 b) : symFun (ctx (cq2 8 2 3) noAnn) 4 13 [.val (.int .i64 8), .int .i64 a, .int .i64 b] (.tup [.int .i64 (mulZ 8 a b), .prop True]) := by
 rw [vc13q8]; exact all2 (i := fun _ _ => inferInstance) (p := p13q8) (a := a) (b := b) (n := 8) (m := 8) (by kernel_rfl) ha hb
def p36q9 (a d b : Int) : Prop := (((1 : Int) = (0 : Int) → False) ∧ ((-9223372036854775808 : Int) ≤ a.tdiv (1 : Int) ∧ a.tdiv (1 : Int) < (9223372036854775808 : Int)) ∧ ((1 : Int) = (0 : Int) → False) ∧ ((-9223372036854775808 : Int)
 ≤ b.tdiv (1 : Int) ∧ b.tdiv (1 : Int) < (9223372036854775808 : Int)) ∧ ((-9223372036854775808 : Int) ≤ d * b.tdiv (1 : Int) ∧ d * b.tdiv (1 : Int) < (9223372036854775808 : Int)) ∧
 ((-9223372036854775808 : Int) ≤ a.tdiv (1 : Int) + d * b.tdiv (1 : Int) ∧ a.tdiv (1 : Int) + d * b.tdiv (1 : Int) < (9223372036854775808 : Int)) ∧ ((3 : Int) = (0 : Int) → False) ∧
 ((-9223372036854775808 : Int) ≤ (a.tdiv (1 : Int) + d * b.tdiv (1 : Int)).tmod (3 : Int) * (1 : Int) ∧ (a.tdiv (1 : Int) + d * b.tdiv (1 : Int)).tmod (3 : Int) * (1 : Int) < (9223372036854775808 :
 Int)) ∧ ((-9223372036854775808 : Int) ≤ (0 : Int) + (a.tdiv (1 : Int) + d * b.tdiv (1 : Int)).tmod (3 : Int) * (1 : Int) ∧ (0 : Int) + (a.tdiv (1 : Int) + d * b.tdiv (1 : Int)).tmod (3 : Int) * (1 :
 Int) < (9223372036854775808 : Int)) ∧ (Int.ofNat (3 : Nat) = (0 : Int) → False) ∧ ((-9223372036854775808 : Int) ≤ a.tdiv (Int.ofNat (3 : Nat)) ∧ a.tdiv (Int.ofNat (3 : Nat)) < (9223372036854775808 :
 Int)) ∧ (Int.ofNat (3 : Nat) = (0 : Int) → False) ∧ ((-9223372036854775808 : Int) ≤ b.tdiv (Int.ofNat (3 : Nat)) ∧ b.tdiv (Int.ofNat (3 : Nat)) < (9223372036854775808 : Int)) ∧ ((-9223372036854775808
 : Int) ≤ d * b.tdiv (Int.ofNat (3 : Nat)) ∧ d * b.tdiv (Int.ofNat (3 : Nat)) < (9223372036854775808 : Int)) ∧ ((-9223372036854775808 : Int) ≤ a.tdiv (Int.ofNat (3 : Nat)) + d * b.tdiv (Int.ofNat (3 :
 Nat)) ∧ a.tdiv (Int.ofNat (3 : Nat)) + d * b.tdiv (Int.ofNat (3 : Nat)) < (9223372036854775808 : Int)) ∧ ((3 : Int) = (0 : Int) → False) ∧ ((-9223372036854775808 : Int) ≤ (a.tdiv (Int.ofNat (3 : Nat))
 + d * b.tdiv (Int.ofNat (3 : Nat))).tmod (3 : Int) * Int.ofNat (3 : Nat) ∧ (a.tdiv (Int.ofNat (3 : Nat)) + d * b.tdiv (Int.ofNat (3 : Nat))).tmod (3 : Int) * Int.ofNat (3 : Nat) < (9223372036854775808
 : Int)) ∧ ((-9223372036854775808 : Int) ≤ (0 : Int) + (a.tdiv (1 : Int) + d * b.tdiv (1 : Int)).tmod (3 : Int) * (1 : Int) + (a.tdiv (Int.ofNat (3 : Nat)) + d * b.tdiv (Int.ofNat (3 : Nat))).tmod (3 :
 Int) * Int.ofNat (3 : Nat) ∧ (0 : Int) + (a.tdiv (1 : Int) + d * b.tdiv (1 : Int)).tmod (3 : Int) * (1 : Int) + (a.tdiv (Int.ofNat (3 : Nat)) + d * b.tdiv (Int.ofNat (3 : Nat))).tmod (3 : Int) *
 Int.ofNat (3 : Nat) < (9223372036854775808 : Int)) ∧ (0 : Int) + (a.tdiv (1 : Int) + d * b.tdiv (1 : Int)).tmod (3 : Int) * (1 : Int) + (a.tdiv (Int.ofNat (3 : Nat)) + d * b.tdiv (Int.ofNat (3 :
 Nat))).tmod (3 : Int) * Int.ofNat (3 : Nat) = plusZ (9 : Int) (3 : Int) a d b)
instance d36q9 : ∀ a d b : Int, Decidable (p36q9 a d b) := fun a d b => by delta p36q9; repeat' (first | refine @instDecidableAnd _ _ ?_ ?_ | refine @instDecidableIff _ _ ?_ ?_ | refine @instDecidableForall _ _ ?_ ?_ | infer_instance)
theorem vc36q9 : ∀ (a d b : Int), symFun (ctx cc0 noAnn) (3 : Nat) (36 : FuncId) [fieldV (9 : Int) (3 : Int) (2 : Int), V.int IntKind.i64 a, V.int IntKind.i64 d, V.int IntKind.i64 b] (V.int IntKind.i64 (plusZ (9 : Int) (3 : Int) a d
 b)) = p36q9 a d b := by intros; kernel_rfl
theorem s36q9 (a d b : Int) (ha : eltP 9 a) (hd : eltP 3 d) (hb : eltP 9 b) : symFun (ctx cc0 noAnn) 3 36 [fieldV 9 3 2, .int .i64 a, .int .i64 d, .int .i64 b] (.int .i64 (plusZ 9 3 a d b)) := by
 rw [vc36q9]; exact all3 (i := fun _ _ _ => inferInstance) (p := p36q9) (a := a) (b := d) (c := b) (n := 9) (m := 3) (k := 9) (by kernel_rfl) ha hd hb
def p58q9 (a : Int) : Prop := ((Int.ofNat (3 : Nat) = (0 : Int) → False) ∧ ((-9223372036854775808 : Int) ≤ a.tmod (Int.ofNat (3 : Nat)) * (3 : Int) ∧ a.tmod (Int.ofNat (3 : Nat)) * (3 : Int) < (9223372036854775808 : Int)) ∧
 (Int.ofNat (3 : Nat) = (0 : Int) → False) ∧ ((-9223372036854775808 : Int) ≤ a.tdiv (Int.ofNat (3 : Nat)) ∧ a.tdiv (Int.ofNat (3 : Nat)) < (9223372036854775808 : Int)) ∧ (((9 : Int) = (9 : Int) ∧ (3 :
 Int) = (3 : Int) ∧ (2 : Int) = (2 : Int)) ∧ eltP (9 : Int) (a.tmod (Int.ofNat (3 : Nat)) * (3 : Int)) ∧ eltP (3 : Int) (a.tdiv (Int.ofNat (3 : Nat))) ∧ eltP (9 : Int) (2 : Int)) ∧ plusZ (9 : Int) (3 :
 Int) (a.tmod (Int.ofNat (3 : Nat)) * (3 : Int)) (a.tdiv (Int.ofNat (3 : Nat))) (2 : Int) = raisedZ (9 : Int) (3 : Int) (2 : Int) a)
instance d58q9 : ∀ a : Int, Decidable (p58q9 a) := fun a => by delta p58q9; repeat' (first | refine @instDecidableAnd _ _ ?_ ?_ | refine @instDecidableIff _ _ ?_ ?_ | refine @instDecidableForall _ _ ?_ ?_ | infer_instance)
theorem vc58q9 : ∀ (a : Int), symFun (ctx (cq1 (9 : Int) (3 : Int) (2 : Int)) noAnn) (3 : Nat) (58 : FuncId) [fieldV (9 : Int) (3 : Int) (2 : Int), V.int IntKind.i64 a] (V.int IntKind.i64 (raisedZ (9 : Int) (3 : Int) (2 : Int)
 a)) = p58q9 a := by intros; kernel_rfl
theorem s58q9 (a : Int) (ha : eltP 9 a) : symFun (ctx (cq1 9 3 2) noAnn) 3 58 [fieldV 9 3 2, .int .i64 a] (.int .i64 (raisedZ 9 3 2 a)) := by
 rw [vc58q9]; exact all1 (i := fun _ => inferInstance) (p := p58q9) (a := a) (n := 9) (by kernel_rfl) ha
def p11q9 (a b : Int) : Prop := (((0 : Int) ≤ a → (((a < (9 : Int) → False) → False) → ((0 : Int) ≤ b → ((b < (9 : Int) → False) → (0 : Int) = addZ (9 : Int) a b ∧ (false = true ↔ True) ∧ True) ∧ (((b < (9 : Int) → False) → False) →
 (((9 : Int) = (9 : Int) ∧ (3 : Int) = (3 : Int) ∧ (2 : Int) = (2 : Int)) ∧ eltP (9 : Int) a ∧ eltP (3 : Int) (1 : Int) ∧ eltP (9 : Int) b) ∧ plusZ (9 : Int) (3 : Int) a (1 : Int) b = addZ (9 : Int) a
 b ∧ (true = true ↔ True) ∧ True)) ∧ (((0 : Int) ≤ b → False) → (0 : Int) = addZ (9 : Int) a b ∧ (false = true ↔ True) ∧ True)) ∧ ((a < (9 : Int) → False) → (0 : Int) = addZ (9 : Int) a b ∧ (false =
 true ↔ True) ∧ True)) ∧ (((0 : Int) ≤ a → False) → (0 : Int) = addZ (9 : Int) a b ∧ (false = true ↔ True) ∧ True))
instance d11q9 : ∀ a b : Int, Decidable (p11q9 a b) := fun a b => by delta p11q9; repeat' (first | refine @instDecidableAnd _ _ ?_ ?_ | refine @instDecidableIff _ _ ?_ ?_ | refine @instDecidableForall _ _ ?_ ?_ | infer_instance)
theorem vc11q9 : ∀ (a b : Int), symFun (ctx (cq1 (9 : Int) (3 : Int) (2 : Int)) noAnn) (3 : Nat) (11 : FuncId) [V.val (Value.int IntKind.i64 (9 : Int)), V.int IntKind.i64 a, V.int IntKind.i64 b] (V.tup [V.int IntKind.i64 (addZ (9 :
 Int) a b), V.prop True]) = p11q9 a b := by intros; kernel_rfl
theorem s11q9 (a b : Int) (ha : eltP 9 a) (hb : eltP 9 b) : symFun (ctx (cq1 9 3 2) noAnn) 3 11 [.val (.int .i64 9), .int .i64 a, .int .i64 b] (.tup [.int .i64 (addZ 9 a b), .prop True]) := by
 rw [vc11q9]; exact all2 (i := fun _ _ => inferInstance) (p := p11q9) (a := a) (b := b) (n := 9) (m := 9) (by kernel_rfl) ha hb
def p13q9 (a b : Int) : Prop := (((0 : Int) ≤ a → (((a < (9 : Int) → False) → False) → ((0 : Int) ≤ b → ((b < (9 : Int) → False) → (0 : Int) = mulZ (9 : Int) a b ∧ (false = true ↔ True) ∧ True) ∧ (((b < (9 : Int) → False) → False) →
 (((9 : Int) = (9 : Int) ∧ (3 : Int) = (3 : Int) ∧ (2 : Int) = (2 : Int)) ∧ eltP (9 : Int) (0 : Int)) ∧ (Int.ofNat (3 : Nat) = (0 : Int) → False) ∧ ((-9223372036854775808 : Int) ≤ b.tdiv (Int.ofNat (3
 : Nat)) ∧ b.tdiv (Int.ofNat (3 : Nat)) < (9223372036854775808 : Int)) ∧ ((3 : Int) = (0 : Int) → False) ∧ (((9 : Int) = (9 : Int) ∧ (3 : Int) = (3 : Int) ∧ (2 : Int) = (2 : Int)) ∧ eltP (9 : Int)
 (raisedZ (9 : Int) (3 : Int) (2 : Int) (0 : Int)) ∧ eltP (3 : Int) ((b.tdiv (Int.ofNat (3 : Nat))).tmod (3 : Int)) ∧ eltP (9 : Int) a) ∧ (((9 : Int) = (9 : Int) ∧ (3 : Int) = (3 : Int) ∧ (2 : Int) =
 (2 : Int)) ∧ eltP (9 : Int) (plusZ (9 : Int) (3 : Int) (raisedZ (9 : Int) (3 : Int) (2 : Int) (0 : Int)) ((b.tdiv (Int.ofNat (3 : Nat))).tmod (3 : Int)) a)) ∧ (Int.ofNat (1 : Nat) = (0 : Int) → False)
 ∧ ((-9223372036854775808 : Int) ≤ b.tdiv (Int.ofNat (1 : Nat)) ∧ b.tdiv (Int.ofNat (1 : Nat)) < (9223372036854775808 : Int)) ∧ ((3 : Int) = (0 : Int) → False) ∧ (((9 : Int) = (9 : Int) ∧ (3 : Int) =
 (3 : Int) ∧ (2 : Int) = (2 : Int)) ∧ eltP (9 : Int) (raisedZ (9 : Int) (3 : Int) (2 : Int) (plusZ (9 : Int) (3 : Int) (raisedZ (9 : Int) (3 : Int) (2 : Int) (0 : Int)) ((b.tdiv (Int.ofNat (3 :
 Nat))).tmod (3 : Int)) a)) ∧ eltP (3 : Int) ((b.tdiv (Int.ofNat (1 : Nat))).tmod (3 : Int)) ∧ eltP (9 : Int) a) ∧ plusZ (9 : Int) (3 : Int) (raisedZ (9 : Int) (3 : Int) (2 : Int) (plusZ (9 : Int) (3 :
 Int) (raisedZ (9 : Int) (3 : Int) (2 : Int) (0 : Int)) ((b.tdiv (Int.ofNat (3 : Nat))).tmod (3 : Int)) a)) ((b.tdiv (Int.ofNat (1 : Nat))).tmod (3 : Int)) a = mulZ (9 : Int) a b ∧ (true = true ↔ True)
 ∧ True)) ∧ (((0 : Int) ≤ b → False) → (0 : Int) = mulZ (9 : Int) a b ∧ (false = true ↔ True) ∧ True)) ∧ ((a < (9 : Int) → False) → (0 : Int) = mulZ (9 : Int) a b ∧ (false = true ↔ True) ∧ True)) ∧
 (((0 : Int) ≤ a → False) → (0 : Int) = mulZ (9 : Int) a b ∧ (false = true ↔ True) ∧ True))
instance d13q9 : ∀ a b : Int, Decidable (p13q9 a b) := fun a b => by delta p13q9; repeat' (first | refine @instDecidableAnd _ _ ?_ ?_ | refine @instDecidableIff _ _ ?_ ?_ | refine @instDecidableForall _ _ ?_ ?_ | infer_instance)
theorem vc13q9 : ∀ (a b : Int), symFun (ctx (cq2 (9 : Int) (3 : Int) (2 : Int)) noAnn) (4 : Nat) (13 : FuncId) [V.val (Value.int IntKind.i64 (9 : Int)), V.int IntKind.i64 a, V.int IntKind.i64 b] (V.tup [V.int IntKind.i64 (mulZ (9 :
 Int) a b), V.prop True]) = p13q9 a b := by intros; kernel_rfl
theorem s13q9 (a b : Int) (ha : eltP 9 a) (hb : eltP 9 b) : symFun (ctx (cq2 9 3 2) noAnn) 4 13 [.val (.int .i64 9), .int .i64 a, .int .i64 b] (.tup [.int .i64 (mulZ 9 a b), .prop True]) := by
 rw [vc13q9]; exact all2 (i := fun _ _ => inferInstance) (p := p13q9) (a := a) (b := b) (n := 9) (m := 9) (by kernel_rfl) ha hb
def p36q11 (a d b : Int) : Prop := (((1 : Int) = (0 : Int) → False) ∧ ((-9223372036854775808 : Int) ≤ a.tdiv (1 : Int) ∧ a.tdiv (1 : Int) < (9223372036854775808 : Int)) ∧ ((1 : Int) = (0 : Int) → False) ∧ ((-9223372036854775808 : Int)
 ≤ b.tdiv (1 : Int) ∧ b.tdiv (1 : Int) < (9223372036854775808 : Int)) ∧ ((-9223372036854775808 : Int) ≤ d * b.tdiv (1 : Int) ∧ d * b.tdiv (1 : Int) < (9223372036854775808 : Int)) ∧
 ((-9223372036854775808 : Int) ≤ a.tdiv (1 : Int) + d * b.tdiv (1 : Int) ∧ a.tdiv (1 : Int) + d * b.tdiv (1 : Int) < (9223372036854775808 : Int)) ∧ ((11 : Int) = (0 : Int) → False) ∧
 ((-9223372036854775808 : Int) ≤ (a.tdiv (1 : Int) + d * b.tdiv (1 : Int)).tmod (11 : Int) * (1 : Int) ∧ (a.tdiv (1 : Int) + d * b.tdiv (1 : Int)).tmod (11 : Int) * (1 : Int) < (9223372036854775808 :
 Int)) ∧ ((-9223372036854775808 : Int) ≤ (0 : Int) + (a.tdiv (1 : Int) + d * b.tdiv (1 : Int)).tmod (11 : Int) * (1 : Int) ∧ (0 : Int) + (a.tdiv (1 : Int) + d * b.tdiv (1 : Int)).tmod (11 : Int) * (1 :
 Int) < (9223372036854775808 : Int)) ∧ (0 : Int) + (a.tdiv (1 : Int) + d * b.tdiv (1 : Int)).tmod (11 : Int) * (1 : Int) = plusZ (11 : Int) (11 : Int) a d b)
instance d36q11 : ∀ a d b : Int, Decidable (p36q11 a d b) := fun a d b => by delta p36q11; repeat' (first | refine @instDecidableAnd _ _ ?_ ?_ | refine @instDecidableIff _ _ ?_ ?_ | refine @instDecidableForall _ _ ?_ ?_ | infer_instance)
theorem vc36q11 : ∀ (a d b : Int), symFun (ctx cc0 noAnn) (3 : Nat) (36 : FuncId) [fieldV (11 : Int) (11 : Int) (0 : Int), V.int IntKind.i64 a, V.int IntKind.i64 d, V.int IntKind.i64 b] (V.int IntKind.i64 (plusZ (11 : Int) (11 : Int)
 a d b)) = p36q11 a d b := by intros; kernel_rfl
theorem s36q11 (a d b : Int) (ha : eltP 11 a) (hd : eltP 11 d) (hb : eltP 11 b) : symFun (ctx cc0 noAnn) 3 36 [fieldV 11 11 0, .int .i64 a, .int .i64 d, .int .i64 b] (.int .i64 (plusZ 11 11 a d b)) := by
 rw [vc36q11]; exact all3 (i := fun _ _ _ => inferInstance) (p := p36q11) (a := a) (b := d) (c := b) (n := 11) (m := 11) (k := 11) (by kernel_rfl) ha hd hb
def p58q11 (a : Int) : Prop := ((Int.ofNat (1 : Nat) = (0 : Int) → False) ∧ ((-9223372036854775808 : Int) ≤ a.tmod (Int.ofNat (1 : Nat)) * (11 : Int) ∧ a.tmod (Int.ofNat (1 : Nat)) * (11 : Int) < (9223372036854775808 : Int)) ∧
 (Int.ofNat (1 : Nat) = (0 : Int) → False) ∧ ((-9223372036854775808 : Int) ≤ a.tdiv (Int.ofNat (1 : Nat)) ∧ a.tdiv (Int.ofNat (1 : Nat)) < (9223372036854775808 : Int)) ∧ (((11 : Int) = (11 : Int) ∧ (11
 : Int) = (11 : Int) ∧ (0 : Int) = (0 : Int)) ∧ eltP (11 : Int) (a.tmod (Int.ofNat (1 : Nat)) * (11 : Int)) ∧ eltP (11 : Int) (a.tdiv (Int.ofNat (1 : Nat))) ∧ eltP (11 : Int) (0 : Int)) ∧ plusZ (11 :
 Int) (11 : Int) (a.tmod (Int.ofNat (1 : Nat)) * (11 : Int)) (a.tdiv (Int.ofNat (1 : Nat))) (0 : Int) = raisedZ (11 : Int) (11 : Int) (0 : Int) a)
instance d58q11 : ∀ a : Int, Decidable (p58q11 a) := fun a => by delta p58q11; repeat' (first | refine @instDecidableAnd _ _ ?_ ?_ | refine @instDecidableIff _ _ ?_ ?_ | refine @instDecidableForall _ _ ?_ ?_ | infer_instance)
theorem vc58q11 : ∀ (a : Int), symFun (ctx (cq1 (11 : Int) (11 : Int) (0 : Int)) noAnn) (3 : Nat) (58 : FuncId) [fieldV (11 : Int) (11 : Int) (0 : Int), V.int IntKind.i64 a] (V.int IntKind.i64 (raisedZ (11 : Int) (11 : Int) (0 :
 Int) a)) = p58q11 a := by intros; kernel_rfl
theorem s58q11 (a : Int) (ha : eltP 11 a) : symFun (ctx (cq1 11 11 0) noAnn) 3 58 [fieldV 11 11 0, .int .i64 a] (.int .i64 (raisedZ 11 11 0 a)) := by
 rw [vc58q11]; exact all1 (i := fun _ => inferInstance) (p := p58q11) (a := a) (n := 11) (by kernel_rfl) ha
def p11q11 (a b : Int) : Prop := (((0 : Int) ≤ a → (((a < (11 : Int) → False) → False) → ((0 : Int) ≤ b → ((b < (11 : Int) → False) → (0 : Int) = addZ (11 : Int) a b ∧ (false = true ↔ True) ∧ True) ∧ (((b < (11 : Int) → False) →
 False) → (((11 : Int) = (11 : Int) ∧ (11 : Int) = (11 : Int) ∧ (0 : Int) = (0 : Int)) ∧ eltP (11 : Int) a ∧ eltP (11 : Int) (1 : Int) ∧ eltP (11 : Int) b) ∧ plusZ (11 : Int) (11 : Int) a (1 : Int) b =
 addZ (11 : Int) a b ∧ (true = true ↔ True) ∧ True)) ∧ (((0 : Int) ≤ b → False) → (0 : Int) = addZ (11 : Int) a b ∧ (false = true ↔ True) ∧ True)) ∧ ((a < (11 : Int) → False) → (0 : Int) = addZ (11 :
 Int) a b ∧ (false = true ↔ True) ∧ True)) ∧ (((0 : Int) ≤ a → False) → (0 : Int) = addZ (11 : Int) a b ∧ (false = true ↔ True) ∧ True))
instance d11q11 : ∀ a b : Int, Decidable (p11q11 a b) := fun a b => by delta p11q11; repeat' (first | refine @instDecidableAnd _ _ ?_ ?_ | refine @instDecidableIff _ _ ?_ ?_ | refine @instDecidableForall _ _ ?_ ?_ | infer_instance)
theorem vc11q11 : ∀ (a b : Int), symFun (ctx (cq1 (11 : Int) (11 : Int) (0 : Int)) noAnn) (3 : Nat) (11 : FuncId) [V.val (Value.int IntKind.i64 (11 : Int)), V.int IntKind.i64 a, V.int IntKind.i64 b] (V.tup [V.int IntKind.i64 (addZ
 (11 : Int) a b), V.prop True]) = p11q11 a b := by intros; kernel_rfl
theorem s11q11 (a b : Int) (ha : eltP 11 a) (hb : eltP 11 b) : symFun (ctx (cq1 11 11 0) noAnn) 3 11 [.val (.int .i64 11), .int .i64 a, .int .i64 b] (.tup [.int .i64 (addZ 11 a b), .prop True]) := by
 rw [vc11q11]; exact all2 (i := fun _ _ => inferInstance) (p := p11q11) (a := a) (b := b) (n := 11) (m := 11) (by kernel_rfl) ha hb
def p13q11 (a b : Int) : Prop := (((0 : Int) ≤ a → (((a < (11 : Int) → False) → False) → ((0 : Int) ≤ b → ((b < (11 : Int) → False) → (0 : Int) = mulZ (11 : Int) a b ∧ (false = true ↔ True) ∧ True) ∧ (((b < (11 : Int) → False) →
 False) → (((11 : Int) = (11 : Int) ∧ (11 : Int) = (11 : Int) ∧ (0 : Int) = (0 : Int)) ∧ eltP (11 : Int) (0 : Int)) ∧ (Int.ofNat (1 : Nat) = (0 : Int) → False) ∧ ((-9223372036854775808 : Int) ≤ b.tdiv
 (Int.ofNat (1 : Nat)) ∧ b.tdiv (Int.ofNat (1 : Nat)) < (9223372036854775808 : Int)) ∧ ((11 : Int) = (0 : Int) → False) ∧ (((11 : Int) = (11 : Int) ∧ (11 : Int) = (11 : Int) ∧ (0 : Int) = (0 : Int)) ∧
 eltP (11 : Int) (raisedZ (11 : Int) (11 : Int) (0 : Int) (0 : Int)) ∧ eltP (11 : Int) ((b.tdiv (Int.ofNat (1 : Nat))).tmod (11 : Int)) ∧ eltP (11 : Int) a) ∧ plusZ (11 : Int) (11 : Int) (raisedZ (11 :
 Int) (11 : Int) (0 : Int) (0 : Int)) ((b.tdiv (Int.ofNat (1 : Nat))).tmod (11 : Int)) a = mulZ (11 : Int) a b ∧ (true = true ↔ True) ∧ True)) ∧ (((0 : Int) ≤ b → False) → (0 : Int) = mulZ (11 : Int) a
 b ∧ (false = true ↔ True) ∧ True)) ∧ ((a < (11 : Int) → False) → (0 : Int) = mulZ (11 : Int) a b ∧ (false = true ↔ True) ∧ True)) ∧ (((0 : Int) ≤ a → False) → (0 : Int) = mulZ (11 : Int) a b ∧ (false
 = true ↔ True) ∧ True))
instance d13q11 : ∀ a b : Int, Decidable (p13q11 a b) := fun a b => by delta p13q11; repeat' (first | refine @instDecidableAnd _ _ ?_ ?_ | refine @instDecidableIff _ _ ?_ ?_ | refine @instDecidableForall _ _ ?_ ?_ | infer_instance)
theorem vc13q11 : ∀ (a b : Int), symFun (ctx (cq2 (11 : Int) (11 : Int) (0 : Int)) noAnn) (4 : Nat) (13 : FuncId) [V.val (Value.int IntKind.i64 (11 : Int)), V.int IntKind.i64 a, V.int IntKind.i64 b] (V.tup [V.int IntKind.i64 (mulZ
 (11 : Int) a b), V.prop True]) = p13q11 a b := by intros; kernel_rfl
theorem s13q11 (a b : Int) (ha : eltP 11 a) (hb : eltP 11 b) : symFun (ctx (cq2 11 11 0) noAnn) 4 13 [.val (.int .i64 11), .int .i64 a, .int .i64 b] (.tup [.int .i64 (mulZ 11 a b), .prop True]) := by
 rw [vc13q11]; exact all2 (i := fun _ _ => inferInstance) (p := p13q11) (a := a) (b := b) (n := 11) (m := 11) (by kernel_rfl) ha hb
def p36q13 (a d b : Int) : Prop := (((1 : Int) = (0 : Int) → False) ∧ ((-9223372036854775808 : Int) ≤ a.tdiv (1 : Int) ∧ a.tdiv (1 : Int) < (9223372036854775808 : Int)) ∧ ((1 : Int) = (0 : Int) → False) ∧ ((-9223372036854775808 : Int)
 ≤ b.tdiv (1 : Int) ∧ b.tdiv (1 : Int) < (9223372036854775808 : Int)) ∧ ((-9223372036854775808 : Int) ≤ d * b.tdiv (1 : Int) ∧ d * b.tdiv (1 : Int) < (9223372036854775808 : Int)) ∧
 ((-9223372036854775808 : Int) ≤ a.tdiv (1 : Int) + d * b.tdiv (1 : Int) ∧ a.tdiv (1 : Int) + d * b.tdiv (1 : Int) < (9223372036854775808 : Int)) ∧ ((13 : Int) = (0 : Int) → False) ∧
 ((-9223372036854775808 : Int) ≤ (a.tdiv (1 : Int) + d * b.tdiv (1 : Int)).tmod (13 : Int) * (1 : Int) ∧ (a.tdiv (1 : Int) + d * b.tdiv (1 : Int)).tmod (13 : Int) * (1 : Int) < (9223372036854775808 :
 Int)) ∧ ((-9223372036854775808 : Int) ≤ (0 : Int) + (a.tdiv (1 : Int) + d * b.tdiv (1 : Int)).tmod (13 : Int) * (1 : Int) ∧ (0 : Int) + (a.tdiv (1 : Int) + d * b.tdiv (1 : Int)).tmod (13 : Int) * (1 :
 Int) < (9223372036854775808 : Int)) ∧ (0 : Int) + (a.tdiv (1 : Int) + d * b.tdiv (1 : Int)).tmod (13 : Int) * (1 : Int) = plusZ (13 : Int) (13 : Int) a d b)
instance d36q13 : ∀ a d b : Int, Decidable (p36q13 a d b) := fun a d b => by delta p36q13; repeat' (first | refine @instDecidableAnd _ _ ?_ ?_ | refine @instDecidableIff _ _ ?_ ?_ | refine @instDecidableForall _ _ ?_ ?_ | infer_instance)
theorem vc36q13 : ∀ (a d b : Int), symFun (ctx cc0 noAnn) (3 : Nat) (36 : FuncId) [fieldV (13 : Int) (13 : Int) (0 : Int), V.int IntKind.i64 a, V.int IntKind.i64 d, V.int IntKind.i64 b] (V.int IntKind.i64 (plusZ (13 : Int) (13 : Int)
 a d b)) = p36q13 a d b := by intros; kernel_rfl
theorem s36q13 (a d b : Int) (ha : eltP 13 a) (hd : eltP 13 d) (hb : eltP 13 b) : symFun (ctx cc0 noAnn) 3 36 [fieldV 13 13 0, .int .i64 a, .int .i64 d, .int .i64 b] (.int .i64 (plusZ 13 13 a d b)) := by
 rw [vc36q13]; exact all3 (i := fun _ _ _ => inferInstance) (p := p36q13) (a := a) (b := d) (c := b) (n := 13) (m := 13) (k := 13) (by kernel_rfl) ha hd hb
def p58q13 (a : Int) : Prop := ((Int.ofNat (1 : Nat) = (0 : Int) → False) ∧ ((-9223372036854775808 : Int) ≤ a.tmod (Int.ofNat (1 : Nat)) * (13 : Int) ∧ a.tmod (Int.ofNat (1 : Nat)) * (13 : Int) < (9223372036854775808 : Int)) ∧
 (Int.ofNat (1 : Nat) = (0 : Int) → False) ∧ ((-9223372036854775808 : Int) ≤ a.tdiv (Int.ofNat (1 : Nat)) ∧ a.tdiv (Int.ofNat (1 : Nat)) < (9223372036854775808 : Int)) ∧ (((13 : Int) = (13 : Int) ∧ (13
 : Int) = (13 : Int) ∧ (0 : Int) = (0 : Int)) ∧ eltP (13 : Int) (a.tmod (Int.ofNat (1 : Nat)) * (13 : Int)) ∧ eltP (13 : Int) (a.tdiv (Int.ofNat (1 : Nat))) ∧ eltP (13 : Int) (0 : Int)) ∧ plusZ (13 :
 Int) (13 : Int) (a.tmod (Int.ofNat (1 : Nat)) * (13 : Int)) (a.tdiv (Int.ofNat (1 : Nat))) (0 : Int) = raisedZ (13 : Int) (13 : Int) (0 : Int) a)
instance d58q13 : ∀ a : Int, Decidable (p58q13 a) := fun a => by delta p58q13; repeat' (first | refine @instDecidableAnd _ _ ?_ ?_ | refine @instDecidableIff _ _ ?_ ?_ | refine @instDecidableForall _ _ ?_ ?_ | infer_instance)
theorem vc58q13 : ∀ (a : Int), symFun (ctx (cq1 (13 : Int) (13 : Int) (0 : Int)) noAnn) (3 : Nat) (58 : FuncId) [fieldV (13 : Int) (13 : Int) (0 : Int), V.int IntKind.i64 a] (V.int IntKind.i64 (raisedZ (13 : Int) (13 : Int) (0 :
 Int) a)) = p58q13 a := by intros; kernel_rfl
theorem s58q13 (a : Int) (ha : eltP 13 a) : symFun (ctx (cq1 13 13 0) noAnn) 3 58 [fieldV 13 13 0, .int .i64 a] (.int .i64 (raisedZ 13 13 0 a)) := by
 rw [vc58q13]; exact all1 (i := fun _ => inferInstance) (p := p58q13) (a := a) (n := 13) (by kernel_rfl) ha
def p11q13 (a b : Int) : Prop := (((0 : Int) ≤ a → (((a < (13 : Int) → False) → False) → ((0 : Int) ≤ b → ((b < (13 : Int) → False) → (0 : Int) = addZ (13 : Int) a b ∧ (false = true ↔ True) ∧ True) ∧ (((b < (13 : Int) → False) →
 False) → (((13 : Int) = (13 : Int) ∧ (13 : Int) = (13 : Int) ∧ (0 : Int) = (0 : Int)) ∧ eltP (13 : Int) a ∧ eltP (13 : Int) (1 : Int) ∧ eltP (13 : Int) b) ∧ plusZ (13 : Int) (13 : Int) a (1 : Int) b =
 addZ (13 : Int) a b ∧ (true = true ↔ True) ∧ True)) ∧ (((0 : Int) ≤ b → False) → (0 : Int) = addZ (13 : Int) a b ∧ (false = true ↔ True) ∧ True)) ∧ ((a < (13 : Int) → False) → (0 : Int) = addZ (13 :
 Int) a b ∧ (false = true ↔ True) ∧ True)) ∧ (((0 : Int) ≤ a → False) → (0 : Int) = addZ (13 : Int) a b ∧ (false = true ↔ True) ∧ True))
instance d11q13 : ∀ a b : Int, Decidable (p11q13 a b) := fun a b => by delta p11q13; repeat' (first | refine @instDecidableAnd _ _ ?_ ?_ | refine @instDecidableIff _ _ ?_ ?_ | refine @instDecidableForall _ _ ?_ ?_ | infer_instance)
theorem vc11q13 : ∀ (a b : Int), symFun (ctx (cq1 (13 : Int) (13 : Int) (0 : Int)) noAnn) (3 : Nat) (11 : FuncId) [V.val (Value.int IntKind.i64 (13 : Int)), V.int IntKind.i64 a, V.int IntKind.i64 b] (V.tup [V.int IntKind.i64 (addZ
 (13 : Int) a b), V.prop True]) = p11q13 a b := by intros; kernel_rfl
theorem s11q13 (a b : Int) (ha : eltP 13 a) (hb : eltP 13 b) : symFun (ctx (cq1 13 13 0) noAnn) 3 11 [.val (.int .i64 13), .int .i64 a, .int .i64 b] (.tup [.int .i64 (addZ 13 a b), .prop True]) := by
 rw [vc11q13]; exact all2 (i := fun _ _ => inferInstance) (p := p11q13) (a := a) (b := b) (n := 13) (m := 13) (by kernel_rfl) ha hb
def p13q13 (a b : Int) : Prop := (((0 : Int) ≤ a → (((a < (13 : Int) → False) → False) → ((0 : Int) ≤ b → ((b < (13 : Int) → False) → (0 : Int) = mulZ (13 : Int) a b ∧ (false = true ↔ True) ∧ True) ∧ (((b < (13 : Int) → False) →
 False) → (((13 : Int) = (13 : Int) ∧ (13 : Int) = (13 : Int) ∧ (0 : Int) = (0 : Int)) ∧ eltP (13 : Int) (0 : Int)) ∧ (Int.ofNat (1 : Nat) = (0 : Int) → False) ∧ ((-9223372036854775808 : Int) ≤ b.tdiv
 (Int.ofNat (1 : Nat)) ∧ b.tdiv (Int.ofNat (1 : Nat)) < (9223372036854775808 : Int)) ∧ ((13 : Int) = (0 : Int) → False) ∧ (((13 : Int) = (13 : Int) ∧ (13 : Int) = (13 : Int) ∧ (0 : Int) = (0 : Int)) ∧
 eltP (13 : Int) (raisedZ (13 : Int) (13 : Int) (0 : Int) (0 : Int)) ∧ eltP (13 : Int) ((b.tdiv (Int.ofNat (1 : Nat))).tmod (13 : Int)) ∧ eltP (13 : Int) a) ∧ plusZ (13 : Int) (13 : Int) (raisedZ (13 :
 Int) (13 : Int) (0 : Int) (0 : Int)) ((b.tdiv (Int.ofNat (1 : Nat))).tmod (13 : Int)) a = mulZ (13 : Int) a b ∧ (true = true ↔ True) ∧ True)) ∧ (((0 : Int) ≤ b → False) → (0 : Int) = mulZ (13 : Int) a
 b ∧ (false = true ↔ True) ∧ True)) ∧ ((a < (13 : Int) → False) → (0 : Int) = mulZ (13 : Int) a b ∧ (false = true ↔ True) ∧ True)) ∧ (((0 : Int) ≤ a → False) → (0 : Int) = mulZ (13 : Int) a b ∧ (false
 = true ↔ True) ∧ True))
instance d13q13 : ∀ a b : Int, Decidable (p13q13 a b) := fun a b => by delta p13q13; repeat' (first | refine @instDecidableAnd _ _ ?_ ?_ | refine @instDecidableIff _ _ ?_ ?_ | refine @instDecidableForall _ _ ?_ ?_ | infer_instance)
theorem vc13q13 : ∀ (a b : Int), symFun (ctx (cq2 (13 : Int) (13 : Int) (0 : Int)) noAnn) (4 : Nat) (13 : FuncId) [V.val (Value.int IntKind.i64 (13 : Int)), V.int IntKind.i64 a, V.int IntKind.i64 b] (V.tup [V.int IntKind.i64 (mulZ
 (13 : Int) a b), V.prop True]) = p13q13 a b := by intros; kernel_rfl
theorem s13q13 (a b : Int) (ha : eltP 13 a) (hb : eltP 13 b) : symFun (ctx (cq2 13 13 0) noAnn) 4 13 [.val (.int .i64 13), .int .i64 a, .int .i64 b] (.tup [.int .i64 (mulZ 13 a b), .prop True]) := by
 rw [vc13q13]; exact all2 (i := fun _ _ => inferInstance) (p := p13q13) (a := a) (b := b) (n := 13) (m := 13) (by kernel_rfl) ha hb
def p36q16 (a d b : Int) : Prop := (((1 : Int) = (0 : Int) → False) ∧ ((-9223372036854775808 : Int) ≤ a.tdiv (1 : Int) ∧ a.tdiv (1 : Int) < (9223372036854775808 : Int)) ∧ ((1 : Int) = (0 : Int) → False) ∧ ((-9223372036854775808 : Int)
 ≤ b.tdiv (1 : Int) ∧ b.tdiv (1 : Int) < (9223372036854775808 : Int)) ∧ ((-9223372036854775808 : Int) ≤ d * b.tdiv (1 : Int) ∧ d * b.tdiv (1 : Int) < (9223372036854775808 : Int)) ∧
 ((-9223372036854775808 : Int) ≤ a.tdiv (1 : Int) + d * b.tdiv (1 : Int) ∧ a.tdiv (1 : Int) + d * b.tdiv (1 : Int) < (9223372036854775808 : Int)) ∧ ((2 : Int) = (0 : Int) → False) ∧
 ((-9223372036854775808 : Int) ≤ (a.tdiv (1 : Int) + d * b.tdiv (1 : Int)).tmod (2 : Int) * (1 : Int) ∧ (a.tdiv (1 : Int) + d * b.tdiv (1 : Int)).tmod (2 : Int) * (1 : Int) < (9223372036854775808 :
 Int)) ∧ ((-9223372036854775808 : Int) ≤ (0 : Int) + (a.tdiv (1 : Int) + d * b.tdiv (1 : Int)).tmod (2 : Int) * (1 : Int) ∧ (0 : Int) + (a.tdiv (1 : Int) + d * b.tdiv (1 : Int)).tmod (2 : Int) * (1 :
 Int) < (9223372036854775808 : Int)) ∧ (Int.ofNat (2 : Nat) = (0 : Int) → False) ∧ ((-9223372036854775808 : Int) ≤ a.tdiv (Int.ofNat (2 : Nat)) ∧ a.tdiv (Int.ofNat (2 : Nat)) < (9223372036854775808 :
 Int)) ∧ (Int.ofNat (2 : Nat) = (0 : Int) → False) ∧ ((-9223372036854775808 : Int) ≤ b.tdiv (Int.ofNat (2 : Nat)) ∧ b.tdiv (Int.ofNat (2 : Nat)) < (9223372036854775808 : Int)) ∧ ((-9223372036854775808
 : Int) ≤ d * b.tdiv (Int.ofNat (2 : Nat)) ∧ d * b.tdiv (Int.ofNat (2 : Nat)) < (9223372036854775808 : Int)) ∧ ((-9223372036854775808 : Int) ≤ a.tdiv (Int.ofNat (2 : Nat)) + d * b.tdiv (Int.ofNat (2 :
 Nat)) ∧ a.tdiv (Int.ofNat (2 : Nat)) + d * b.tdiv (Int.ofNat (2 : Nat)) < (9223372036854775808 : Int)) ∧ ((2 : Int) = (0 : Int) → False) ∧ ((-9223372036854775808 : Int) ≤ (a.tdiv (Int.ofNat (2 : Nat))
 + d * b.tdiv (Int.ofNat (2 : Nat))).tmod (2 : Int) * Int.ofNat (2 : Nat) ∧ (a.tdiv (Int.ofNat (2 : Nat)) + d * b.tdiv (Int.ofNat (2 : Nat))).tmod (2 : Int) * Int.ofNat (2 : Nat) < (9223372036854775808
 : Int)) ∧ ((-9223372036854775808 : Int) ≤ (0 : Int) + (a.tdiv (1 : Int) + d * b.tdiv (1 : Int)).tmod (2 : Int) * (1 : Int) + (a.tdiv (Int.ofNat (2 : Nat)) + d * b.tdiv (Int.ofNat (2 : Nat))).tmod (2 :
 Int) * Int.ofNat (2 : Nat) ∧ (0 : Int) + (a.tdiv (1 : Int) + d * b.tdiv (1 : Int)).tmod (2 : Int) * (1 : Int) + (a.tdiv (Int.ofNat (2 : Nat)) + d * b.tdiv (Int.ofNat (2 : Nat))).tmod (2 : Int) *
 Int.ofNat (2 : Nat) < (9223372036854775808 : Int)) ∧ (Int.ofNat (4 : Nat) = (0 : Int) → False) ∧ ((-9223372036854775808 : Int) ≤ a.tdiv (Int.ofNat (4 : Nat)) ∧ a.tdiv (Int.ofNat (4 : Nat)) <
 (9223372036854775808 : Int)) ∧ (Int.ofNat (4 : Nat) = (0 : Int) → False) ∧ ((-9223372036854775808 : Int) ≤ b.tdiv (Int.ofNat (4 : Nat)) ∧ b.tdiv (Int.ofNat (4 : Nat)) < (9223372036854775808 : Int)) ∧
 ((-9223372036854775808 : Int) ≤ d * b.tdiv (Int.ofNat (4 : Nat)) ∧ d * b.tdiv (Int.ofNat (4 : Nat)) < (9223372036854775808 : Int)) ∧ ((-9223372036854775808 : Int) ≤ a.tdiv (Int.ofNat (4 : Nat)) + d *
 b.tdiv (Int.ofNat (4 : Nat)) ∧ a.tdiv (Int.ofNat (4 : Nat)) + d * b.tdiv (Int.ofNat (4 : Nat)) < (9223372036854775808 : Int)) ∧ ((2 : Int) = (0 : Int) → False) ∧ ((-9223372036854775808 : Int) ≤
 (a.tdiv (Int.ofNat (4 : Nat)) + d * b.tdiv (Int.ofNat (4 : Nat))).tmod (2 : Int) * Int.ofNat (4 : Nat) ∧ (a.tdiv (Int.ofNat (4 : Nat)) + d * b.tdiv (Int.ofNat (4 : Nat))).tmod (2 : Int) * Int.ofNat (4
 : Nat) < (9223372036854775808 : Int)) ∧ ((-9223372036854775808 : Int) ≤ (0 : Int) + (a.tdiv (1 : Int) + d * b.tdiv (1 : Int)).tmod (2 : Int) * (1 : Int) + (a.tdiv (Int.ofNat (2 : Nat)) + d * b.tdiv
 (Int.ofNat (2 : Nat))).tmod (2 : Int) * Int.ofNat (2 : Nat) + (a.tdiv (Int.ofNat (4 : Nat)) + d * b.tdiv (Int.ofNat (4 : Nat))).tmod (2 : Int) * Int.ofNat (4 : Nat) ∧ (0 : Int) + (a.tdiv (1 : Int) + d
 * b.tdiv (1 : Int)).tmod (2 : Int) * (1 : Int) + (a.tdiv (Int.ofNat (2 : Nat)) + d * b.tdiv (Int.ofNat (2 : Nat))).tmod (2 : Int) * Int.ofNat (2 : Nat) + (a.tdiv (Int.ofNat (4 : Nat)) + d * b.tdiv
 (Int.ofNat (4 : Nat))).tmod (2 : Int) * Int.ofNat (4 : Nat) < (9223372036854775808 : Int)) ∧ (Int.ofNat (Nat.succ (7 : Nat)) = (0 : Int) → False) ∧ ((-9223372036854775808 : Int) ≤ a.tdiv (Int.ofNat
 (Nat.succ (7 : Nat))) ∧ a.tdiv (Int.ofNat (Nat.succ (7 : Nat))) < (9223372036854775808 : Int)) ∧ (Int.ofNat (Nat.succ (7 : Nat)) = (0 : Int) → False) ∧ ((-9223372036854775808 : Int) ≤ b.tdiv
 (Int.ofNat (Nat.succ (7 : Nat))) ∧ b.tdiv (Int.ofNat (Nat.succ (7 : Nat))) < (9223372036854775808 : Int)) ∧ ((-9223372036854775808 : Int) ≤ d * b.tdiv (Int.ofNat (Nat.succ (7 : Nat))) ∧ d * b.tdiv
 (Int.ofNat (Nat.succ (7 : Nat))) < (9223372036854775808 : Int)) ∧ ((-9223372036854775808 : Int) ≤ a.tdiv (Int.ofNat (Nat.succ (7 : Nat))) + d * b.tdiv (Int.ofNat (Nat.succ (7 : Nat))) ∧ a.tdiv
 (Int.ofNat (Nat.succ (7 : Nat))) + d * b.tdiv (Int.ofNat (Nat.succ (7 : Nat))) < (9223372036854775808 : Int)) ∧ ((2 : Int) = (0 : Int) → False) ∧ ((-9223372036854775808 : Int) ≤ (a.tdiv (Int.ofNat
 (Nat.succ (7 : Nat))) + d * b.tdiv (Int.ofNat (Nat.succ (7 : Nat)))).tmod (2 : Int) * Int.ofNat (Nat.succ (7 : Nat)) ∧ (a.tdiv (Int.ofNat (Nat.succ (7 : Nat))) + d * b.tdiv (Int.ofNat (Nat.succ (7 :
 Nat)))).tmod (2 : Int) * Int.ofNat (Nat.succ (7 : Nat)) < (9223372036854775808 : Int)) ∧ ((-9223372036854775808 : Int) ≤ (0 : Int) + (a.tdiv (1 : Int) + d * b.tdiv (1 : Int)).tmod (2 : Int) * (1 :
 Int) + (a.tdiv (Int.ofNat (2 : Nat)) + d * b.tdiv (Int.ofNat (2 : Nat))).tmod (2 : Int) * Int.ofNat (2 : Nat) + (a.tdiv (Int.ofNat (4 : Nat)) + d * b.tdiv (Int.ofNat (4 : Nat))).tmod (2 : Int) *
 Int.ofNat (4 : Nat) + (a.tdiv (Int.ofNat (Nat.succ (7 : Nat))) + d * b.tdiv (Int.ofNat (Nat.succ (7 : Nat)))).tmod (2 : Int) * Int.ofNat (Nat.succ (7 : Nat)) ∧ (0 : Int) + (a.tdiv (1 : Int) + d *
 b.tdiv (1 : Int)).tmod (2 : Int) * (1 : Int) + (a.tdiv (Int.ofNat (2 : Nat)) + d * b.tdiv (Int.ofNat (2 : Nat))).tmod (2 : Int) * Int.ofNat (2 : Nat) + (a.tdiv (Int.ofNat (4 : Nat)) + d * b.tdiv
 (Int.ofNat (4 : Nat))).tmod (2 : Int) * Int.ofNat (4 : Nat) + (a.tdiv (Int.ofNat (Nat.succ (7 : Nat))) + d * b.tdiv (Int.ofNat (Nat.succ (7 : Nat)))).tmod (2 : Int) * Int.ofNat (Nat.succ (7 : Nat)) <
 (9223372036854775808 : Int)) ∧ (0 : Int) + (a.tdiv (1 : Int) + d * b.tdiv (1 : Int)).tmod (2 : Int) * (1 : Int) + (a.tdiv (Int.ofNat (2 : Nat)) + d * b.tdiv (Int.ofNat (2 : Nat))).tmod (2 : Int) *
 Int.ofNat (2 : Nat) + (a.tdiv (Int.ofNat (4 : Nat)) + d * b.tdiv (Int.ofNat (4 : Nat))).tmod (2 : Int) * Int.ofNat (4 : Nat) + (a.tdiv (Int.ofNat (Nat.succ (7 : Nat))) + d * b.tdiv (Int.ofNat
 (Nat.succ (7 : Nat)))).tmod (2 : Int) * Int.ofNat (Nat.succ (7 : Nat)) = plusZ (16 : Int) (2 : Int) a d b)
instance d36q16 : ∀ a d b : Int, Decidable (p36q16 a d b) := fun a d b => by delta p36q16; repeat' (first | refine @instDecidableAnd _ _ ?_ ?_ | refine @instDecidableIff _ _ ?_ ?_ | refine @instDecidableForall _ _ ?_ ?_ | infer_instance)
theorem vc36q16 : ∀ (a d b : Int), symFun (ctx cc0 noAnn) (3 : Nat) (36 : FuncId) [fieldV (16 : Int) (2 : Int) (3 : Int), V.int IntKind.i64 a, V.int IntKind.i64 d, V.int IntKind.i64 b] (V.int IntKind.i64 (plusZ (16 : Int) (2 : Int) a
 d b)) = p36q16 a d b := by intros; kernel_rfl
theorem s36q16 (a d b : Int) (ha : eltP 16 a) (hd : eltP 2 d) (hb : eltP 16 b) : symFun (ctx cc0 noAnn) 3 36 [fieldV 16 2 3, .int .i64 a, .int .i64 d, .int .i64 b] (.int .i64 (plusZ 16 2 a d b)) := by
 rw [vc36q16]; exact all3 (i := fun _ _ _ => inferInstance) (p := p36q16) (a := a) (b := d) (c := b) (n := 16) (m := 2) (k := 16) (by kernel_rfl) ha hd hb
def p58q16 (a : Int) : Prop := ((Int.ofNat (Nat.succ (7 : Nat)) = (0 : Int) → False) ∧ ((-9223372036854775808 : Int) ≤ a.tmod (Int.ofNat (Nat.succ (7 : Nat))) * (2 : Int) ∧ a.tmod (Int.ofNat (Nat.succ (7 : Nat))) * (2 : Int) <
 (9223372036854775808 : Int)) ∧ (Int.ofNat (Nat.succ (7 : Nat)) = (0 : Int) → False) ∧ ((-9223372036854775808 : Int) ≤ a.tdiv (Int.ofNat (Nat.succ (7 : Nat))) ∧ a.tdiv (Int.ofNat (Nat.succ (7 : Nat)))
 < (9223372036854775808 : Int)) ∧ (((16 : Int) = (16 : Int) ∧ (2 : Int) = (2 : Int) ∧ (3 : Int) = (3 : Int)) ∧ eltP (16 : Int) (a.tmod (Int.ofNat (Nat.succ (7 : Nat))) * (2 : Int)) ∧ eltP (2 : Int)
 (a.tdiv (Int.ofNat (Nat.succ (7 : Nat)))) ∧ eltP (16 : Int) (3 : Int)) ∧ plusZ (16 : Int) (2 : Int) (a.tmod (Int.ofNat (Nat.succ (7 : Nat))) * (2 : Int)) (a.tdiv (Int.ofNat (Nat.succ (7 : Nat)))) (3 :
 Int) = raisedZ (16 : Int) (2 : Int) (3 : Int) a)
instance d58q16 : ∀ a : Int, Decidable (p58q16 a) := fun a => by delta p58q16; repeat' (first | refine @instDecidableAnd _ _ ?_ ?_ | refine @instDecidableIff _ _ ?_ ?_ | refine @instDecidableForall _ _ ?_ ?_ | infer_instance)
theorem vc58q16 : ∀ (a : Int), symFun (ctx (cq1 (16 : Int) (2 : Int) (3 : Int)) noAnn) (3 : Nat) (58 : FuncId) [fieldV (16 : Int) (2 : Int) (3 : Int), V.int IntKind.i64 a] (V.int IntKind.i64 (raisedZ (16 : Int) (2 : Int) (3 : Int)
 a)) = p58q16 a := by intros; kernel_rfl
theorem s58q16 (a : Int) (ha : eltP 16 a) : symFun (ctx (cq1 16 2 3) noAnn) 3 58 [fieldV 16 2 3, .int .i64 a] (.int .i64 (raisedZ 16 2 3 a)) := by
 rw [vc58q16]; exact all1 (i := fun _ => inferInstance) (p := p58q16) (a := a) (n := 16) (by kernel_rfl) ha
def p11q16 (a b : Int) : Prop := (((0 : Int) ≤ a → (((a < (16 : Int) → False) → False) → ((0 : Int) ≤ b → ((b < (16 : Int) → False) → (0 : Int) = addZ (16 : Int) a b ∧ (false = true ↔ True) ∧ True) ∧ (((b < (16 : Int) → False) →
 False) → (((16 : Int) = (16 : Int) ∧ (2 : Int) = (2 : Int) ∧ (3 : Int) = (3 : Int)) ∧ eltP (16 : Int) a ∧ eltP (2 : Int) (1 : Int) ∧ eltP (16 : Int) b) ∧ plusZ (16 : Int) (2 : Int) a (1 : Int) b =
 addZ (16 : Int) a b ∧ (true = true ↔ True) ∧ True)) ∧ (((0 : Int) ≤ b → False) → (0 : Int) = addZ (16 : Int) a b ∧ (false = true ↔ True) ∧ True)) ∧ ((a < (16 : Int) → False) → (0 : Int) = addZ (16 :
 Int) a b ∧ (false = true ↔ True) ∧ True)) ∧ (((0 : Int) ≤ a → False) → (0 : Int) = addZ (16 : Int) a b ∧ (false = true ↔ True) ∧ True))
instance d11q16 : ∀ a b : Int, Decidable (p11q16 a b) := fun a b => by delta p11q16; repeat' (first | refine @instDecidableAnd _ _ ?_ ?_ | refine @instDecidableIff _ _ ?_ ?_ | refine @instDecidableForall _ _ ?_ ?_ | infer_instance)
theorem vc11q16 : ∀ (a b : Int), symFun (ctx (cq1 (16 : Int) (2 : Int) (3 : Int)) noAnn) (3 : Nat) (11 : FuncId) [V.val (Value.int IntKind.i64 (16 : Int)), V.int IntKind.i64 a, V.int IntKind.i64 b] (V.tup [V.int IntKind.i64 (addZ
 (16 : Int) a b), V.prop True]) = p11q16 a b := by intros; kernel_rfl
theorem s11q16 (a b : Int) (ha : eltP 16 a) (hb : eltP 16 b) : symFun (ctx (cq1 16 2 3) noAnn) 3 11 [.val (.int .i64 16), .int .i64 a, .int .i64 b] (.tup [.int .i64 (addZ 16 a b), .prop True]) := by
 rw [vc11q16]; exact all2 (i := fun _ _ => inferInstance) (p := p11q16) (a := a) (b := b) (n := 16) (m := 16) (by kernel_rfl) ha hb
def p13q16 (a b : Int) : Prop := (((0 : Int) ≤ a → (((a < (16 : Int) → False) → False) → ((0 : Int) ≤ b → ((b < (16 : Int) → False) → (0 : Int) = mulZ (16 : Int) a b ∧ (false = true ↔ True) ∧ True) ∧ (((b < (16 : Int) → False) →
 False) → (((16 : Int) = (16 : Int) ∧ (2 : Int) = (2 : Int) ∧ (3 : Int) = (3 : Int)) ∧ eltP (16 : Int) (0 : Int)) ∧ (Int.ofNat (Nat.succ (7 : Nat)) = (0 : Int) → False) ∧ ((-9223372036854775808 : Int)
 ≤ b.tdiv (Int.ofNat (Nat.succ (7 : Nat))) ∧ b.tdiv (Int.ofNat (Nat.succ (7 : Nat))) < (9223372036854775808 : Int)) ∧ ((2 : Int) = (0 : Int) → False) ∧ (((16 : Int) = (16 : Int) ∧ (2 : Int) = (2 : Int)
 ∧ (3 : Int) = (3 : Int)) ∧ eltP (16 : Int) (raisedZ (16 : Int) (2 : Int) (3 : Int) (0 : Int)) ∧ eltP (2 : Int) ((b.tdiv (Int.ofNat (Nat.succ (7 : Nat)))).tmod (2 : Int)) ∧ eltP (16 : Int) a) ∧ (((16 :
 Int) = (16 : Int) ∧ (2 : Int) = (2 : Int) ∧ (3 : Int) = (3 : Int)) ∧ eltP (16 : Int) (plusZ (16 : Int) (2 : Int) (raisedZ (16 : Int) (2 : Int) (3 : Int) (0 : Int)) ((b.tdiv (Int.ofNat (Nat.succ (7 :
 Nat)))).tmod (2 : Int)) a)) ∧ (Int.ofNat (4 : Nat) = (0 : Int) → False) ∧ ((-9223372036854775808 : Int) ≤ b.tdiv (Int.ofNat (4 : Nat)) ∧ b.tdiv (Int.ofNat (4 : Nat)) < (9223372036854775808 : Int)) ∧
 ((2 : Int) = (0 : Int) → False) ∧ (((16 : Int) = (16 : Int) ∧ (2 : Int) = (2 : Int) ∧ (3 : Int) = (3 : Int)) ∧ eltP (16 : Int) (raisedZ (16 : Int) (2 : Int) (3 : Int) (plusZ (16 : Int) (2 : Int)
 (raisedZ (16 : Int) (2 : Int) (3 : Int) (0 : Int)) ((b.tdiv (Int.ofNat (Nat.succ (7 : Nat)))).tmod (2 : Int)) a)) ∧ eltP (2 : Int) ((b.tdiv (Int.ofNat (4 : Nat))).tmod (2 : Int)) ∧ eltP (16 : Int) a)
 ∧ (((16 : Int) = (16 : Int) ∧ (2 : Int) = (2 : Int) ∧ (3 : Int) = (3 : Int)) ∧ eltP (16 : Int) (plusZ (16 : Int) (2 : Int) (raisedZ (16 : Int) (2 : Int) (3 : Int) (plusZ (16 : Int) (2 : Int) (raisedZ
 (16 : Int) (2 : Int) (3 : Int) (0 : Int)) ((b.tdiv (Int.ofNat (Nat.succ (7 : Nat)))).tmod (2 : Int)) a)) ((b.tdiv (Int.ofNat (4 : Nat))).tmod (2 : Int)) a)) ∧ (Int.ofNat (2 : Nat) = (0 : Int) → False)
 ∧ ((-9223372036854775808 : Int) ≤ b.tdiv (Int.ofNat (2 : Nat)) ∧ b.tdiv (Int.ofNat (2 : Nat)) < (9223372036854775808 : Int)) ∧ ((2 : Int) = (0 : Int) → False) ∧ (((16 : Int) = (16 : Int) ∧ (2 : Int) =
 (2 : Int) ∧ (3 : Int) = (3 : Int)) ∧ eltP (16 : Int) (raisedZ (16 : Int) (2 : Int) (3 : Int) (plusZ (16 : Int) (2 : Int) (raisedZ (16 : Int) (2 : Int) (3 : Int) (plusZ (16 : Int) (2 : Int) (raisedZ
 (16 : Int) (2 : Int) (3 : Int) (0 : Int)) ((b.tdiv (Int.ofNat (Nat.succ (7 : Nat)))).tmod (2 : Int)) a)) ((b.tdiv (Int.ofNat (4 : Nat))).tmod (2 : Int)) a)) ∧ eltP (2 : Int) ((b.tdiv (Int.ofNat (2 :
 Nat))).tmod (2 : Int)) ∧ eltP (16 : Int) a) ∧ (((16 : Int) = (16 : Int) ∧ (2 : Int) = (2 : Int) ∧ (3 : Int) = (3 : Int)) ∧ eltP (16 : Int) (plusZ (16 : Int) (2 : Int) (raisedZ (16 : Int) (2 : Int) (3
 : Int) (plusZ (16 : Int) (2 : Int) (raisedZ (16 : Int) (2 : Int) (3 : Int) (plusZ (16 : Int) (2 : Int) (raisedZ (16 : Int) (2 : Int) (3 : Int) (0 : Int)) ((b.tdiv (Int.ofNat (Nat.succ (7 :
 Nat)))).tmod (2 : Int)) a)) ((b.tdiv (Int.ofNat (4 : Nat))).tmod (2 : Int)) a)) ((b.tdiv (Int.ofNat (2 : Nat))).tmod (2 : Int)) a)) ∧ (Int.ofNat (1 : Nat) = (0 : Int) → False) ∧ ((-9223372036854775808
 : Int) ≤ b.tdiv (Int.ofNat (1 : Nat)) ∧ b.tdiv (Int.ofNat (1 : Nat)) < (9223372036854775808 : Int)) ∧ ((2 : Int) = (0 : Int) → False) ∧ (((16 : Int) = (16 : Int) ∧ (2 : Int) = (2 : Int) ∧ (3 : Int) =
 (3 : Int)) ∧ eltP (16 : Int) (raisedZ (16 : Int) (2 : Int) (3 : Int) (plusZ (16 : Int) (2 : Int) (raisedZ (16 : Int) (2 : Int) (3 : Int) (plusZ (16 : Int) (2 : Int) (raisedZ (16 : Int) (2 : Int) (3 :
 Int) (plusZ (16 : Int) (2 : Int) (raisedZ (16 : Int) (2 : Int) (3 : Int) (0 : Int)) ((b.tdiv (Int.ofNat (Nat.succ (7 : Nat)))).tmod (2 : Int)) a)) ((b.tdiv (Int.ofNat (4 : Nat))).tmod (2 : Int)) a))
 ((b.tdiv (Int.ofNat (2 : Nat))).tmod (2 : Int)) a)) ∧ eltP (2 : Int) ((b.tdiv (Int.ofNat (1 : Nat))).tmod (2 : Int)) ∧ eltP (16 : Int) a) ∧ plusZ (16 : Int) (2 : Int) (raisedZ (16 : Int) (2 : Int) (3
 : Int) (plusZ (16 : Int) (2 : Int) (raisedZ (16 : Int) (2 : Int) (3 : Int) (plusZ (16 : Int) (2 : Int) (raisedZ (16 : Int) (2 : Int) (3 : Int) (plusZ (16 : Int) (2 : Int) (raisedZ (16 : Int) (2 : Int)
 (3 : Int) (0 : Int)) ((b.tdiv (Int.ofNat (Nat.succ (7 : Nat)))).tmod (2 : Int)) a)) ((b.tdiv (Int.ofNat (4 : Nat))).tmod (2 : Int)) a)) ((b.tdiv (Int.ofNat (2 : Nat))).tmod (2 : Int)) a)) ((b.tdiv
 (Int.ofNat (1 : Nat))).tmod (2 : Int)) a = mulZ (16 : Int) a b ∧ (true = true ↔ True) ∧ True)) ∧ (((0 : Int) ≤ b → False) → (0 : Int) = mulZ (16 : Int) a b ∧ (false = true ↔ True) ∧ True)) ∧ ((a < (16
 : Int) → False) → (0 : Int) = mulZ (16 : Int) a b ∧ (false = true ↔ True) ∧ True)) ∧ (((0 : Int) ≤ a → False) → (0 : Int) = mulZ (16 : Int) a b ∧ (false = true ↔ True) ∧ True))
instance d13q16 : ∀ a b : Int, Decidable (p13q16 a b) := fun a b => by delta p13q16; repeat' (first | refine @instDecidableAnd _ _ ?_ ?_ | refine @instDecidableIff _ _ ?_ ?_ | refine @instDecidableForall _ _ ?_ ?_ | infer_instance)
theorem vc13q16 : ∀ (a b : Int), symFun (ctx (cq2 (16 : Int) (2 : Int) (3 : Int)) noAnn) (4 : Nat) (13 : FuncId) [V.val (Value.int IntKind.i64 (16 : Int)), V.int IntKind.i64 a, V.int IntKind.i64 b] (V.tup [V.int IntKind.i64 (mulZ
 (16 : Int) a b), V.prop True]) = p13q16 a b := by intros; kernel_rfl
theorem s13q16 (a b : Int) (ha : eltP 16 a) (hb : eltP 16 b) : symFun (ctx (cq2 16 2 3) noAnn) 4 13 [.val (.int .i64 16), .int .i64 a, .int .i64 b] (.tup [.int .i64 (mulZ 16 a b), .prop True]) := by
 rw [vc13q16]; exact all2 (i := fun _ _ => inferInstance) (p := p13q16) (a := a) (b := b) (n := 16) (m := 16) (by kernel_rfl) ha hb
end Go.Ev
