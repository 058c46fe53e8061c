/-
  Part of the engine that the claim is proved with: it states nothing of the document by itself.
-/
import Derived.Test.YtenmglepjkflhaaGreatDoorCoreMeE
open Go.Proofs
namespace Go.Ev
set_option maxRecDepth 100000
set_option maxHeartbeats 4000000
noncomputable def C19 (s : D) (x x_1 x_2 : Nat) : Prop := (∃ (x_3 : Nat), x_3.le (el s x_2).len ∧ ((0 : Int) = (↑x_3 : Int) ∧ bsS s (↑x : Int) (↑x_1 : Int) x_2 = bsS s (↑x : Int) (↑x_1 : Int) x_2 +
bsE (el s x_2) (↑x : Int) (↑x_1 : Int) x_3 ∧ True) ∧ True) ∧ ∀ (x_3 : Nat), x_3.le (el s x_2).len → (el s x_2).len - x_3 < LIM ∧ (0 : Int) ≤ (↑x_2 : Int) ∧ (↑x_2 : Int) < (↑s.len : Int) ∧ ((↑x_3 :
Int) < (↑(el s x_2).len : Int) → (((↑x : Int) = (↑x_1 : Int) → False) → (0 : Int) ≤ (↑x_2 : Int) ∧ (↑x_2 : Int) < (↑s.len : Int) ∧ (0 : Int) ≤ (↑x_3 : Int) ∧ (↑x_3 : Int) < (↑(el s x_2).len : Int) ∧
(el (el s x_2) x_3).len ≤ (16777216 : Nat) ∧ ((nxP (el (el s x_2) x_3) (↑x : Int) (↑x_1 : Int) → False) → (0 : Int) ≤ (↑x_2 : Int) ∧ (↑x_2 : Int) < (↑s.len : Int) ∧ (0 : Int) ≤ (↑x_3 : Int) ∧ (↑x_3 :
Int) < (↑(el s x_2).len : Int) ∧ (el (el s x_2) x_3).len ≤ (16777216 : Nat) ∧ (nxP (el (el s x_2) x_3) (↑x_1 : Int) (↑x : Int) → ((-9223372036854775808 : Int) ≤ bsS s (↑x : Int) (↑x_1 : Int) x_2 + bsE
(el s x_2) (↑x : Int) (↑x_1 : Int) x_3 + (1 : Int) ∧ bsS s (↑x : Int) (↑x_1 : Int) x_2 + bsE (el s x_2) (↑x : Int) (↑x_1 : Int) x_3 + (1 : Int) < (9223372036854775808 : Int)) ∧ ((-9223372036854775808
: Int) ≤ (↑x_3 : Int) + (1 : Int) ∧ (↑x_3 : Int) + (1 : Int) < (9223372036854775808 : Int)) ∧ ∃ (y : Nat), y.le (el s x_2).len ∧ (el s x_2).len - y < (el s x_2).len - x_3 ∧ ((↑x_3 : Int) + (1 : Int) =
(↑y : Int) ∧ bsS s (↑x : Int) (↑x_1 : Int) x_2 + bsE (el s x_2) (↑x : Int) (↑x_1 : Int) x_3 + (1 : Int) = bsS s (↑x : Int) (↑x_1 : Int) x_2 + bsE (el s x_2) (↑x : Int) (↑x_1 : Int) y ∧ True) ∧ True) ∧
((nxP (el (el s x_2) x_3) (↑x_1 : Int) (↑x : Int) → False) → ((-9223372036854775808 : Int) ≤ (↑x_3 : Int) + (1 : Int) ∧ (↑x_3 : Int) + (1 : Int) < (9223372036854775808 : Int)) ∧ ∃ (y : Nat), y.le (el
s x_2).len ∧ (el s x_2).len - y < (el s x_2).len - x_3 ∧ ((↑x_3 : Int) + (1 : Int) = (↑y : Int) ∧ bsS s (↑x : Int) (↑x_1 : Int) x_2 + bsE (el s x_2) (↑x : Int) (↑x_1 : Int) x_3 = bsS s (↑x : Int)
(↑x_1 : Int) x_2 + bsE (el s x_2) (↑x : Int) (↑x_1 : Int) y ∧ True) ∧ True)) ∧ (nxP (el (el s x_2) x_3) (↑x : Int) (↑x_1 : Int) → ((-9223372036854775808 : Int) ≤ bsS s (↑x : Int) (↑x_1 : Int) x_2 +
bsE (el s x_2) (↑x : Int) (↑x_1 : Int) x_3 + (1 : Int) ∧ bsS s (↑x : Int) (↑x_1 : Int) x_2 + bsE (el s x_2) (↑x : Int) (↑x_1 : Int) x_3 + (1 : Int) < (9223372036854775808 : Int)) ∧
((-9223372036854775808 : Int) ≤ (↑x_3 : Int) + (1 : Int) ∧ (↑x_3 : Int) + (1 : Int) < (9223372036854775808 : Int)) ∧ ∃ (y : Nat), y.le (el s x_2).len ∧ (el s x_2).len - y < (el s x_2).len - x_3 ∧
((↑x_3 : Int) + (1 : Int) = (↑y : Int) ∧ bsS s (↑x : Int) (↑x_1 : Int) x_2 + bsE (el s x_2) (↑x : Int) (↑x_1 : Int) x_3 + (1 : Int) = bsS s (↑x : Int) (↑x_1 : Int) x_2 + bsE (el s x_2) (↑x : Int)
(↑x_1 : Int) y ∧ True) ∧ True)) ∧ ((((↑x : Int) = (↑x_1 : Int) → False) → False) → ((-9223372036854775808 : Int) ≤ (↑x_3 : Int) + (1 : Int) ∧ (↑x_3 : Int) + (1 : Int) < (9223372036854775808 : Int)) ∧
∃ (y : Nat), y.le (el s x_2).len ∧ (el s x_2).len - y < (el s x_2).len - x_3 ∧ ((↑x_3 : Int) + (1 : Int) = (↑y : Int) ∧ bsS s (↑x : Int) (↑x_1 : Int) x_2 + bsE (el s x_2) (↑x : Int) (↑x_1 : Int) x_3 =
bsS s (↑x : Int) (↑x_1 : Int) x_2 + bsE (el s x_2) (↑x : Int) (↑x_1 : Int) y ∧ True) ∧ True)) ∧ (((↑x_3 : Int) < (↑(el s x_2).len : Int) → False) → ((-9223372036854775808 : Int) ≤ (↑x_2 : Int) + (1 :
Int) ∧ (↑x_2 : Int) + (1 : Int) < (9223372036854775808 : Int)) ∧ ∃ (y : Nat), y.le s.len ∧ s.len - y < s.len - x_2 ∧ ((↑x_2 : Int) + (1 : Int) = (↑y : Int) ∧ bsS s (↑x : Int) (↑x_1 : Int) x_2 + bsE
(el s x_2) (↑x : Int) (↑x_1 : Int) x_3 = bsS s (↑x : Int) (↑x_1 : Int) y ∧ True) ∧ True)
theorem me19 : ∀ (n : Int) (s : D), symFun (ctx re3 reAnn) (3 : Nat) (19 : FuncId) [V.int IntKind.i64 n, V.dat (22 : TypeId) s] (V.dat (26 : TypeId) (D.list (rbL s n.toNat n.toNat))) = (((∃ (x : Nat),
x = (0 : Nat) ∧ ((0 : Int) = (↑x : Int) ∧ True ∧ True) ∧ True) ∨ ∃ (x : Nat), ((0 : Nat) < x ∧ x ≤ n.toNat) ∧ ((0 : Int) = (↑x : Int) ∧ False ∧ True) ∧ False ∧ True) ∧ (∀ (x : Nat), x = (0 : Nat) →
n.toNat - x < LIM ∧ ((↑x : Int) < n → ((∃ (x : Nat), x = (0 : Nat) ∧ ((0 : Int) = (↑x : Int) ∧ True ∧ True) ∧ True) ∨ ∃ (x : Nat), ((0 : Nat) < x ∧ x ≤ n.toNat) ∧ ((0 : Int) = (↑x : Int) ∧ False ∧
True) ∧ False ∧ True) ∧ (∀ (x_1 : Nat), x_1 = (0 : Nat) → n.toNat - x_1 < LIM ∧ ((↑x_1 : Int) < n → (∃ (x_2 : Nat), x_2.le s.len ∧ ((0 : Int) = (↑x_2 : Int) ∧ (0 : Int) = bsS s (↑x : Int) (↑x_1 : Int)
x_2 ∧ True) ∧ True) ∧ ∀ (x_2 : Nat), x_2.le s.len → s.len - x_2 < LIM ∧ ((↑x_2 : Int) < (↑s.len : Int) → C19 s x x_1 x_2) ∧ (((↑x_2 : Int) < (↑s.len : Int) → False) → (0 : Nat) + (1 : Nat) ≤ [D.int
(bsS s (↑x : Int) (↑x_1 : Int) x_2)].length ∧ (1 : Nat) ≤ (16777216 : Nat) ∧ ((-9223372036854775808 : Int) ≤ (↑x_1 : Int) + (1 : Int) ∧ (↑x_1 : Int) + (1 : Int) < (9223372036854775808 : Int)) ∧ ((∃ (y
: Nat), y = (0 : Nat) ∧ n.toNat - y < n.toNat - x_1 ∧ ((↑x_1 : Int) + (1 : Int) = (↑y : Int) ∧ False ∧ True) ∧ True) ∨ ∃ (y : Nat), ((0 : Nat) < y ∧ y ≤ n.toNat) ∧ n.toNat - y < n.toNat - x_1 ∧ ((↑x_1
: Int) + (1 : Int) = (↑y : Int) ∧ ((0 : Nat) = (0 : Nat) ∧ (1 : Nat) = y ∧ True) ∧ True) ∧ List.take (1 : Nat) [D.int (bsS s (↑x : Int) (↑x_1 : Int) x_2)] = rbR s x y ∧ True))) ∧ (((↑x_1 : Int) < n →
False) → (0 : Nat) + (1 : Nat) ≤ [D.nil].length ∧ (1 : Nat) ≤ (16777216 : Nat) ∧ ((-9223372036854775808 : Int) ≤ (↑x : Int) + (1 : Int) ∧ (↑x : Int) + (1 : Int) < (9223372036854775808 : Int)) ∧ ((∃ (y
: Nat), y = (0 : Nat) ∧ n.toNat - y < n.toNat - x ∧ ((↑x : Int) + (1 : Int) = (↑y : Int) ∧ False ∧ True) ∧ True) ∨ ∃ (y : Nat), ((0 : Nat) < y ∧ y ≤ n.toNat) ∧ n.toNat - y < n.toNat - x ∧ ((↑x : Int)
+ (1 : Int) = (↑y : Int) ∧ ((0 : Nat) = (0 : Nat) ∧ (1 : Nat) = y ∧ True) ∧ True) ∧ List.take (1 : Nat) [D.nil] = rbL s n.toNat y ∧ True))) ∧ ∀ (x_1 : Nat), (0 : Nat) < x_1 ∧ x_1 ≤ n.toNat → n.toNat -
x_1 < LIM ∧ ((↑x_1 : Int) < n → (∃ (x_2 : Nat), x_2.le s.len ∧ ((0 : Int) = (↑x_2 : Int) ∧ (0 : Int) = bsS s (↑x : Int) (↑x_1 : Int) x_2 ∧ True) ∧ True) ∧ ∀ (x_2 : Nat), x_2.le s.len → s.len - x_2 <
LIM ∧ ((↑x_2 : Int) < (↑s.len : Int) → C19 s x x_1 x_2) ∧ (((↑x_2 : Int) < (↑s.len : Int) → False) → (0 : Nat) + (1 : Nat) ≤ [D.int (bsS s (↑x : Int) (↑x_1 : Int) x_2)].length ∧ (0 : Nat) + x_1 ≤ (rbR
s x x_1).length ∧ x_1 + (1 : Nat) ≤ (16777216 : Nat) ∧ ((-9223372036854775808 : Int) ≤ (↑x_1 : Int) + (1 : Int) ∧ (↑x_1 : Int) + (1 : Int) < (9223372036854775808 : Int)) ∧ ((∃ (y : Nat), y = (0 : Nat)
∧ n.toNat - y < n.toNat - x_1 ∧ ((↑x_1 : Int) + (1 : Int) = (↑y : Int) ∧ False ∧ True) ∧ True) ∨ ∃ (y : Nat), ((0 : Nat) < y ∧ y ≤ n.toNat) ∧ n.toNat - y < n.toNat - x_1 ∧ ((↑x_1 : Int) + (1 : Int) =
(↑y : Int) ∧ ((0 : Nat) = (0 : Nat) ∧ x_1 + (1 : Nat) = y ∧ True) ∧ True) ∧ List.take x_1 (rbR s x x_1) ++ List.take (1 : Nat) [D.int (bsS s (↑x : Int) (↑x_1 : Int) x_2)] = rbR s x y ∧ True))) ∧
(((↑x_1 : Int) < n → False) → (0 : Nat) + x_1 ≤ (rbR s x x_1).length ∧ (0 : Nat) + (1 : Nat) ≤ [D.list (List.take x_1 (rbR s x x_1))].length ∧ (1 : Nat) ≤ (16777216 : Nat) ∧ ((-9223372036854775808 :
Int) ≤ (↑x : Int) + (1 : Int) ∧ (↑x : Int) + (1 : Int) < (9223372036854775808 : Int)) ∧ ((∃ (y : Nat), y = (0 : Nat) ∧ n.toNat - y < n.toNat - x ∧ ((↑x : Int) + (1 : Int) = (↑y : Int) ∧ False ∧ True)
∧ True) ∨ ∃ (y : Nat), ((0 : Nat) < y ∧ y ≤ n.toNat) ∧ n.toNat - y < n.toNat - x ∧ ((↑x : Int) + (1 : Int) = (↑y : Int) ∧ ((0 : Nat) = (0 : Nat) ∧ (1 : Nat) = y ∧ True) ∧ True) ∧ List.take (1 : Nat)
[D.list (List.take x_1 (rbR s x x_1))] = rbL s n.toNat y ∧ True))) ∧ (((↑x : Int) < n → False) → D.nil = D.list (rbL s n.toNat n.toNat))) ∧ ∀ (x : Nat), (0 : Nat) < x ∧ x ≤ n.toNat → n.toNat - x < LIM
∧ ((↑x : Int) < n → ((∃ (x : Nat), x = (0 : Nat) ∧ ((0 : Int) = (↑x : Int) ∧ True ∧ True) ∧ True) ∨ ∃ (x : Nat), ((0 : Nat) < x ∧ x ≤ n.toNat) ∧ ((0 : Int) = (↑x : Int) ∧ False ∧ True) ∧ False ∧ True)
∧ (∀ (x_1 : Nat), x_1 = (0 : Nat) → n.toNat - x_1 < LIM ∧ ((↑x_1 : Int) < n → (∃ (x_2 : Nat), x_2.le s.len ∧ ((0 : Int) = (↑x_2 : Int) ∧ (0 : Int) = bsS s (↑x : Int) (↑x_1 : Int) x_2 ∧ True) ∧ True) ∧
∀ (x_2 : Nat), x_2.le s.len → s.len - x_2 < LIM ∧ ((↑x_2 : Int) < (↑s.len : Int) → C19 s x x_1 x_2) ∧ (((↑x_2 : Int) < (↑s.len : Int) → False) → (0 : Nat) + (1 : Nat) ≤ [D.int (bsS s (↑x : Int) (↑x_1
: Int) x_2)].length ∧ (1 : Nat) ≤ (16777216 : Nat) ∧ ((-9223372036854775808 : Int) ≤ (↑x_1 : Int) + (1 : Int) ∧ (↑x_1 : Int) + (1 : Int) < (9223372036854775808 : Int)) ∧ ((∃ (y : Nat), y = (0 : Nat) ∧
n.toNat - y < n.toNat - x_1 ∧ ((↑x_1 : Int) + (1 : Int) = (↑y : Int) ∧ False ∧ True) ∧ True) ∨ ∃ (y : Nat), ((0 : Nat) < y ∧ y ≤ n.toNat) ∧ n.toNat - y < n.toNat - x_1 ∧ ((↑x_1 : Int) + (1 : Int) =
(↑y : Int) ∧ ((0 : Nat) = (0 : Nat) ∧ (1 : Nat) = y ∧ True) ∧ True) ∧ List.take (1 : Nat) [D.int (bsS s (↑x : Int) (↑x_1 : Int) x_2)] = rbR s x y ∧ True))) ∧ (((↑x_1 : Int) < n → False) → (0 : Nat) +
(1 : Nat) ≤ [D.nil].length ∧ (0 : Nat) + x ≤ (rbL s n.toNat x).length ∧ x + (1 : Nat) ≤ (16777216 : Nat) ∧ ((-9223372036854775808 : Int) ≤ (↑x : Int) + (1 : Int) ∧ (↑x : Int) + (1 : Int) <
(9223372036854775808 : Int)) ∧ ((∃ (y : Nat), y = (0 : Nat) ∧ n.toNat - y < n.toNat - x ∧ ((↑x : Int) + (1 : Int) = (↑y : Int) ∧ False ∧ True) ∧ True) ∨ ∃ (y : Nat), ((0 : Nat) < y ∧ y ≤ n.toNat) ∧
n.toNat - y < n.toNat - x ∧ ((↑x : Int) + (1 : Int) = (↑y : Int) ∧ ((0 : Nat) = (0 : Nat) ∧ x + (1 : Nat) = y ∧ True) ∧ True) ∧ List.take x (rbL s n.toNat x) ++ List.take (1 : Nat) [D.nil] = rbL s
n.toNat y ∧ True))) ∧ ∀ (x_1 : Nat), (0 : Nat) < x_1 ∧ x_1 ≤ n.toNat → n.toNat - x_1 < LIM ∧ ((↑x_1 : Int) < n → (∃ (x_2 : Nat), x_2.le s.len ∧ ((0 : Int) = (↑x_2 : Int) ∧ (0 : Int) = bsS s (↑x : Int)
(↑x_1 : Int) x_2 ∧ True) ∧ True) ∧ ∀ (x_2 : Nat), x_2.le s.len → s.len - x_2 < LIM ∧ ((↑x_2 : Int) < (↑s.len : Int) → C19 s x x_1 x_2) ∧ (((↑x_2 : Int) < (↑s.len : Int) → False) → (0 : Nat) + (1 :
Nat) ≤ [D.int (bsS s (↑x : Int) (↑x_1 : Int) x_2)].length ∧ (0 : Nat) + x_1 ≤ (rbR s x x_1).length ∧ x_1 + (1 : Nat) ≤ (16777216 : Nat) ∧ ((-9223372036854775808 : Int) ≤ (↑x_1 : Int) + (1 : Int) ∧
(↑x_1 : Int) + (1 : Int) < (9223372036854775808 : Int)) ∧ ((∃ (y : Nat), y = (0 : Nat) ∧ n.toNat - y < n.toNat - x_1 ∧ ((↑x_1 : Int) + (1 : Int) = (↑y : Int) ∧ False ∧ True) ∧ True) ∨ ∃ (y : Nat), ((0
: Nat) < y ∧ y ≤ n.toNat) ∧ n.toNat - y < n.toNat - x_1 ∧ ((↑x_1 : Int) + (1 : Int) = (↑y : Int) ∧ ((0 : Nat) = (0 : Nat) ∧ x_1 + (1 : Nat) = y ∧ True) ∧ True) ∧ List.take x_1 (rbR s x x_1) ++
List.take (1 : Nat) [D.int (bsS s (↑x : Int) (↑x_1 : Int) x_2)] = rbR s x y ∧ True))) ∧ (((↑x_1 : Int) < n → False) → (0 : Nat) + x_1 ≤ (rbR s x x_1).length ∧ (0 : Nat) + (1 : Nat) ≤ [D.list
(List.take x_1 (rbR s x x_1))].length ∧ (0 : Nat) + x ≤ (rbL s n.toNat x).length ∧ x + (1 : Nat) ≤ (16777216 : Nat) ∧ ((-9223372036854775808 : Int) ≤ (↑x : Int) + (1 : Int) ∧ (↑x : Int) + (1 : Int) <
(9223372036854775808 : Int)) ∧ ((∃ (y : Nat), y = (0 : Nat) ∧ n.toNat - y < n.toNat - x ∧ ((↑x : Int) + (1 : Int) = (↑y : Int) ∧ False ∧ True) ∧ True) ∨ ∃ (y : Nat), ((0 : Nat) < y ∧ y ≤ n.toNat) ∧
n.toNat - y < n.toNat - x ∧ ((↑x : Int) + (1 : Int) = (↑y : Int) ∧ ((0 : Nat) = (0 : Nat) ∧ x + (1 : Nat) = y ∧ True) ∧ True) ∧ List.take x (rbL s n.toNat x) ++ List.take (1 : Nat) [D.list (List.take
x_1 (rbR s x x_1))] = rbL s n.toNat y ∧ True))) ∧ (((↑x : Int) < n → False) → (0 : Nat) + x ≤ (rbL s n.toNat x).length ∧ D.list (List.take x (rbL s n.toNat x)) = D.list (rbL s n.toNat n.toNat))) := by intros; kernel_rfl
theorem bsE_rng (ev : D) (a b : Int) : ∀ j, 0 ≤ bsE ev a b j ∧ bsE ev a b j ≤ (j : Nat)
 | 0 => by unfold bsE; omega
 | j + 1 => by
  unfold bsE
  have := bsE_rng ev a b j
  split <;> omega
theorem bsS_rng {s : D} (h : bigP s) (a b : Int) : ∀ i, i ≤ s.len → 0 ≤ bsS s a b i ∧ bsS s a b i ≤ (i : Nat) * 100
 | 0, _ => by unfold bsS; omega
 | i + 1, hi => by
  unfold bsS
  have h1 := bsS_rng h a b i (by omega)
  have h2 := bsE_rng (el s i) a b (el s i).len
  have h3 := (h.out.2 i (by omega)).out.1
  omega
theorem bsE_yes {ev : D} {a b : Int} {j : Nat} (h : a ≠ b ∧ (nxP (el ev j) a b ∨ nxP (el ev j) b a)) : bsE ev a b (j + 1) = bsE ev a b j + 1 := by
 show bsE ev a b j + _ = _
 rw [if_pos h]
theorem bsE_no {ev : D} {a b : Int} {j : Nat} (h : ¬ (a ≠ b ∧ (nxP (el ev j) a b ∨ nxP (el ev j) b a))) : bsE ev a b (j + 1) = bsE ev a b j := by
 show bsE ev a b j + _ = _
 rw [if_neg h, Int.add_zero]
theorem c19 {s : D} (h : bigP s) (x y : Nat) {i : Nat} (hi : i < s.len) : C19 s x y i := by
 have hl := h.out.1
 have hE := (h.out.2 i hi).out
 have hS := bsS_rng h x y i (by omega)
 refine ⟨⟨0, Nat.zero_le _, ⟨rfl, (Int.add_zero _).symm, trivial⟩, trivial⟩, fun j hj => ?_⟩
 have hj : j ≤ (el s i).len := hj
 have hR := bsE_rng (el s i) x y j
 have yes : (x : Int) ≠ (y : Int) ∧ (nxP (el (el s i) j) x y ∨ nxP (el (el s i) j) y x) → (j : Int) < ((el s i).len : Nat) → ((-9223372036854775808 : Int) ≤ bsS s x y i + bsE (el s i) x y j + 1 ∧ bsS s x y i + bsE (el s i) x y j + 1 < 9223372036854775808) ∧ ((-9223372036854775808 : Int) ≤ (j : Int) + 1 ∧ (j : Int) + 1 < 9223372036854775808) ∧ ∃ (z : Nat), z.le (el s i).len ∧ (el s i).len - z < (el s i).len - j ∧ ((j : Int) + 1 = (z : Int) ∧ bsS s x y i + bsE (el s i) x y j + 1 = bsS s x y i + bsE (el s i) x y z ∧ True) ∧ True := fun k hlt =>
  ⟨⟨by omega, by omega⟩, ⟨by omega, by omega⟩, j + 1, (by omega : j + 1 ≤ (el s i).len), by omega, ⟨by omega, by rw [bsE_yes k]; omega, trivial⟩, trivial⟩
 have no : ¬ ((x : Int) ≠ (y : Int) ∧ (nxP (el (el s i) j) x y ∨ nxP (el (el s i) j) y x)) → (j : Int) < ((el s i).len : Nat) → ((-9223372036854775808 : Int) ≤ (j : Int) + 1 ∧ (j : Int) + 1 < 9223372036854775808) ∧ ∃ (z : Nat), z.le (el s i).len ∧ (el s i).len - z < (el s i).len - j ∧ ((j : Int) + 1 = (z : Int) ∧ bsS s x y i + bsE (el s i) x y j = bsS s x y i + bsE (el s i) x y z ∧ True) ∧ True := fun k hlt =>
  ⟨⟨by omega, by omega⟩, j + 1, (by omega : j + 1 ≤ (el s i).len), by omega, ⟨by omega, by rw [bsE_no k], trivial⟩, trivial⟩
 refine ⟨limS (by omega), by omega, by omega, fun hlt => ?_, fun hge => ⟨⟨by omega, by omega⟩, i + 1, (by omega : i + 1 ≤ s.len), by omega, ⟨by omega, ?_, trivial⟩, trivial⟩⟩
 ·have ht := Nat.le_trans (hE.2 j (by omega)) (show 1000 ≤ 16777216 by decide)
  exact ⟨fun hne => ⟨by omega, by omega, by omega, hlt, ht, fun h1 => ⟨by omega, by omega, by omega, hlt, ht, fun h2 => yes ⟨hne, .inr h2⟩ hlt, fun h2 => no (fun k => k.2.elim h1 h2) hlt⟩, fun h1 => yes ⟨hne, .inl h1⟩ hlt⟩, fun he => no (fun k => he k.1) hlt⟩
 ·rw [show j = (el s i).len by have := not_of hge; omega]; rfl
theorem rbR_succ (s : D) (x y : Nat) : rbR s x (y + 1) = rbR s x y ++ [.int (bsS s x y s.len)] := by unfold rbR; rw [List.range_succ, List.map_append]; rfl
theorem rbR_len (s : D) (x y : Nat) : (rbR s x y).length = y := by unfold rbR; rw [List.length_map, List.length_range]
theorem rbL_succ (s : D) (n x : Nat) : rbL s n (x + 1) = rbL s n x ++ [.list (rbR s x n)] := by unfold rbL; rw [List.range_succ, List.map_append]; rfl
theorem rbL_len (s : D) (n x : Nat) : (rbL s n x).length = x := by unfold rbL; rw [List.length_map, List.length_range]
theorem s19r (n : Int) (s : D) (h : bigP s) (hn1 : 1 ≤ n) (hn2 : n ≤ 64) : symFun (ctx re3 reAnn) 3 19 [.int .i64 n, .dat 22 s] (.dat 26 (.list (rbL s n.toNat n.toNat))) := by
 rw [me19]
 have hl := h.out.1
 refine ⟨.inl ⟨0, rfl, ⟨rfl, trivial, trivial⟩, trivial⟩, fun x hx => ⟨limS (by omega), fun hlt => ?_, fun hge => absurd (show (x : Int) < n by omega) (not_of hge)⟩, fun x ⟨hx1, hx2⟩ => ⟨limS (by omega), fun hlt => ?_, fun hge => ?_⟩⟩
 ·refine ⟨.inl ⟨0, rfl, ⟨rfl, trivial, trivial⟩, trivial⟩, fun y hy => ?_, fun y ⟨hy1, hy2⟩ => ⟨limS (by omega), fun hlt2 => ⟨⟨0, Nat.zero_le _, ⟨rfl, rfl, trivial⟩, trivial⟩, fun i hi => ⟨limS (by omega), fun hlt3 => c19 h x y (by omega), fun hge3 => ⟨Nat.le_refl _, by rw [rbR_len]; omega, by omega, ⟨by omega, by omega⟩, .inr ⟨y + 1, ⟨by omega, by omega⟩, by omega, ⟨by omega, ⟨rfl, rfl, trivial⟩, trivial⟩, ?_, trivial⟩⟩⟩⟩, fun hge2 => ?_⟩⟩
  ·subst hy
   refine ⟨limS (by omega), fun hlt2 => ⟨⟨0, Nat.zero_le _, ⟨rfl, rfl, trivial⟩, trivial⟩, fun i hi => ⟨limS (by omega), fun hlt3 => c19 h x 0 (by omega), fun hge3 => ⟨Nat.le_refl _, by decide, ⟨by omega, by omega⟩, .inr ⟨1, ⟨by omega, by omega⟩, by omega, ⟨rfl, ⟨rfl, rfl, trivial⟩, trivial⟩, ?_, trivial⟩⟩⟩⟩, fun hge2 => absurd hge2 (fun k => k (by omega))⟩
   have hi : i ≤ s.len := hi
   rw [show i = s.len by have := not_of hge3; omega]; rfl
  ·have hi : i ≤ s.len := hi
   rw [List.take_of_length_le (by rw [rbR_len]; exact Nat.le_refl _), rbR_succ, show i = s.len by have := not_of hge3; omega]; rfl
  ·have ey : y = n.toNat := by have := not_of hge2; omega
   subst hx
   refine ⟨by rw [rbR_len]; omega, Nat.le_refl _, by decide, ⟨by omega, by omega⟩, .inr ⟨1, ⟨by omega, by omega⟩, by omega, ⟨rfl, ⟨rfl, rfl, trivial⟩, trivial⟩, ?_, trivial⟩⟩
   show [D.list (List.take y (rbR s 0 y))] = _
   rw [show List.take y (rbR s 0 y) = rbR s 0 y from List.take_of_length_le (by rw [rbR_len]; exact Nat.le_refl _), ey]; rfl
 ·refine ⟨.inl ⟨0, rfl, ⟨rfl, trivial, trivial⟩, trivial⟩, fun y hy => ?_, fun y ⟨hy1, hy2⟩ => ⟨limS (by omega), fun hlt2 => ⟨⟨0, Nat.zero_le _, ⟨rfl, rfl, trivial⟩, trivial⟩, fun i hi => ⟨limS (by omega), fun hlt3 => c19 h x y (by omega), fun hge3 => ⟨Nat.le_refl _, by rw [rbR_len]; omega, by omega, ⟨by omega, by omega⟩, .inr ⟨y + 1, ⟨by omega, by omega⟩, by omega, ⟨by omega, ⟨rfl, rfl, trivial⟩, trivial⟩, ?_, trivial⟩⟩⟩⟩, fun hge2 => ?_⟩⟩
  ·subst hy
   refine ⟨limS (by omega), fun hlt2 => ⟨⟨0, Nat.zero_le _, ⟨rfl, rfl, trivial⟩, trivial⟩, fun i hi => ⟨limS (by omega), fun hlt3 => c19 h x 0 (by omega), fun hge3 => ⟨Nat.le_refl _, by decide, ⟨by omega, by omega⟩, .inr ⟨1, ⟨by omega, by omega⟩, by omega, ⟨rfl, ⟨rfl, rfl, trivial⟩, trivial⟩, ?_, trivial⟩⟩⟩⟩, fun hge2 => absurd hge2 (fun k => k (by omega))⟩
   have hi : i ≤ s.len := hi
   rw [show i = s.len by have := not_of hge3; omega]; rfl
  ·have hi : i ≤ s.len := hi
   rw [List.take_of_length_le (by rw [rbR_len]; exact Nat.le_refl _), rbR_succ, show i = s.len by have := not_of hge3; omega]; rfl
  ·have ey : y = n.toNat := by have := not_of hge2; omega
   refine ⟨by rw [rbR_len]; omega, Nat.le_refl _, by rw [rbL_len]; omega, by omega, ⟨by omega, by omega⟩, .inr ⟨x + 1, ⟨by omega, by omega⟩, by omega, ⟨by omega, ⟨rfl, rfl, trivial⟩, trivial⟩, ?_, trivial⟩⟩
   rw [List.take_of_length_le (show (rbR s x y).length ≤ y by rw [rbR_len]; exact Nat.le_refl _), List.take_of_length_le (show (rbL s n.toNat x).length ≤ x by rw [rbL_len]; exact Nat.le_refl _), ey, rbL_succ]; rfl
 ·have ex : x = n.toNat := by have := not_of hge; omega
  subst ex
  exact ⟨by rw [rbL_len]; omega, by rw [List.take_of_length_le (by rw [rbL_len]; exact Nat.le_refl _)]⟩
end Go.Ev
