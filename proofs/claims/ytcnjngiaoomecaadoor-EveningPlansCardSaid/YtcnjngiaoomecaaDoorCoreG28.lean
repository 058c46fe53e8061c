/-
  Part of the engine that the claim is proved with: it states nothing of the document by itself.
-/
import Derived.Test.YtcnjngiaoomecaaDoorCoreG26
import Derived.Test.YtcnjngiaoomecaaDoorCoreG27

section
open Go.Proofs
namespace Go.Ev
set_option maxRecDepth 100000
set_option maxHeartbeats 4000000
def kpC (n : Int) (sz : D) (e j : Int) (k : Nat) (T : List D) (g : Nat) : Prop := ((-9223372036854775808 : Int) ≤ (↑g : Int) + (1 : Int) ∧ (↑g : Int) + (1 : Int) < (9223372036854775808 : Int)) ∧ ∃ (y : Nat), y.le n.toNat ∧ n.toNat - y < n.toNat - g ∧ ((↑g : Int) + (1 : Int) = (↑y : Int) ∧ rB n sz e j k T g = rB n sz e j k T y ∧ rL n sz e j k T g = rL n sz e j k T y ∧ rS n sz e j k T g = rS n sz e j k T y ∧ True) ∧ True
def tkC (n : Int) (sz : D) (e j : Int) (k : Nat) (T : List D) (g z : Nat) : Prop := ((-9223372036854775808 : Int) ≤ (↑g : Int) + (1 : Int) ∧ (↑g : Int) + (1 : Int) < (9223372036854775808 : Int)) ∧ ∃ (y : Nat), y.le n.toNat ∧ n.toNat - y < n.toNat - g ∧ ((↑g : Int) + (1 : Int) = (↑y : Int) ∧ (↑g : Int) = rB n sz e j k T y ∧ rMo n sz e (↑g : Int) T z = rL n sz e j k T y ∧ rSu n sz e (↑g : Int) T z = rS n sz e j k T y ∧ True) ∧ True
def tlC (n : Int) (sz : D) (e j : Int) (k : Nat) (T : List D) (g z : Nat) : Prop := ((rB n sz e j k T g < (0 : Int) → False) → ((rMo n sz e (↑g : Int) T z < rL n sz e j k T g → False) → (rMo n sz e (↑g : Int) T z = rL n sz e j k T g → (rSu n sz e (↑g : Int) T z < rS n sz e j k T g → tkC n sz e j k T g z) ∧ ((rSu n sz e (↑g : Int) T z < rS n sz e j k T g → False) → kpC n sz e j k T g)) ∧ ((rMo n sz e (↑g : Int) T z = rL n sz e j k T g → False) → kpC n sz e j k T g)) ∧ (rMo n sz e (↑g : Int) T z < rL n sz e j k T g → tkC n sz e j k T g z)) ∧ (rB n sz e j k T g < (0 : Int) → tkC n sz e j k T g z)
theorem vc33b : ∀ (s : D) (a b : Int), symFun (ctx bf1 noAnn) 4 (33 : FuncId) [V.dat (25 : TypeId) s, V.int IntKind.i64 a, V.int IntKind.i64 b] (V.int IntKind.i64 (↑(rtS s a b s.len).length : Int)) = (bigP s ∧ (↑(listD
(rtS s a b s.len)).len : Int) = (↑(rtS s a b s.len).length : Int)) := by intros; kernel_rfl
theorem vc8r : ∀ (n e : Int) (sz : D), symFun (ctxj rp1 prAnn2 prJoin) 4 (8 : FuncId) [V.int IntKind.i64 n, V.dat (22 : TypeId) sz, V.int IntKind.i64 e] (V.tup [V.dat (25 : TypeId) (refD n sz e), V.int IntKind.i64 (planX
n sz e)]) = (sz.len ≤ 16777216 ∧ ((okS n sz → False) → D.nil = refD n sz e ∧ 90 = planX n sz e ∧ True) ∧ (((okS n sz → False) → False) → ((e < 0 → False) → (64 < e → D.nil = refD n sz e ∧ 2 = planX n sz e ∧ True) ∧ ((64
< e → False) → ((∃ (x : Nat), x = 0 ∧ (0 = (x : Int) ∧ True ∧ True) ∧ True) ∨ ∃ (x : Nat), (0 < x ∧ x ≤ e.toNat) ∧ (0 = (x : Int) ∧ False ∧ True) ∧ False ∧ True) ∧ (∀ (x : Nat), x = 0 → e.toNat - x < LIM ∧ ((x : Int) < e
→ (((∃ (x : Nat), x = 0 ∧ (0 = (x : Int) ∧ True ∧ True) ∧ True) ∨ ∃ (x : Nat), (0 < x ∧ x ≤ sz.len) ∧ (0 = (x : Int) ∧ False ∧ True) ∧ False ∧ True) ∧ (∀ (x_1 : Nat), x_1 = 0 → sz.len - x_1 < LIM ∧ ((x_1 : Int) < (sz.len
: Int) → (((∃ (x : Nat), x = 0 ∧ (True ∧ True) ∧ True) ∨ ∃ (x : Nat), (0 < x ∧ x ≤ (nAt sz x_1).toNat) ∧ (False ∧ True) ∧ False ∧ True) ∧ (∀ (x_2 : Nat), x_2 = 0 → (nAt sz x_1).toNat - x_2 < LIM ∧ 0 ≤ (x_1 : Int) ∧ (x_1
: Int) < (sz.len : Int) ∧ (0 < nAt sz x_1 → ((∃ (x_3 : Nat), x_3.le n.toNat ∧ (0 = (x_3 : Int) ∧ (-1) = rB n sz (x : Int) (x_1 : Int) 0 [] x_3 ∧ 0 = rL n sz (x : Int) (x_1 : Int) 0 [] x_3 ∧ 0 = rS n sz (x : Int) (x_1 :
Int) 0 [] x_3 ∧ True) ∧ True) ∧ ∀ (x_3 : Nat), x_3.le n.toNat → n.toNat - x_3 < LIM ∧ ((x_3 : Int) < n → smE D.nil ∧ ((0 < cntF (flatL D.nil 0) (x_3 : Int) → False) → (0 : Nat) ≤ 16777216 ∧ (hasT D.nil (x_3 : Int) → kpC
n sz (x : Int) (x_1 : Int) 0 [] x_3) ∧ ((hasT D.nil (x_3 : Int) → False) → (∃ (x_4 : Nat), x_4.le 0 ∧ (0 = (x_4 : Int) ∧ 0 = rMo n sz (x : Int) (x_3 : Int) [] x_4 ∧ 0 = rSu n sz (x : Int) (x_3 : Int) [] x_4 ∧ True) ∧
True) ∧ ∀ (x_4 : Nat), x_4.le 0 → 0 - x_4 < LIM ∧ ((x_4 : Int) < 0 → False) ∧ (((x_4 : Int) < 0 → False) → tlC n sz (x : Int) (x_1 : Int) 0 [] x_3 x_4))) ∧ (0 < cntF (flatL D.nil 0) (x_3 : Int) → kpC n sz (x : Int) (x_1
: Int) 0 [] x_3)) ∧ (((x_3 : Int) < n → False) → ∃ (x_4 : Unit), True ∧ (rB n sz (x : Int) (x_1 : Int) 0 [] x_3 = rB n sz (x : Int) (x_1 : Int) 0 [] n.toNat ∧ True) ∧ True)) ∧ ∀ (x_3 : Unit), True → 0 + 1 ≤ [D.int (rB n
sz (x : Int) (x_1 : Int) 0 [] n.toNat)].length ∧ (1 : Nat) ≤ 16777216 ∧ ((∃ (y : Nat), y = 0 ∧ (nAt sz x_1).toNat - y < (nAt sz x_1).toNat - x_2 ∧ (False ∧ True) ∧ True) ∨ ∃ (y : Nat), (0 < y ∧ y ≤ (nAt sz x_1).toNat) ∧
(nAt sz x_1).toNat - y < (nAt sz x_1).toNat - x_2 ∧ (((0 : Nat) = 0 ∧ 1 = y ∧ True) ∧ True) ∧ List.take 1 [D.int (rB n sz (x : Int) (x_1 : Int) 0 [] n.toNat)] = rG n sz (x : Int) (x_1 : Int) y ∧ True)) ∧ ((0 < nAt sz x_1
→ False) → ∃ (x : Unit), True ∧ (False ∧ True) ∧ False ∧ True)) ∧ ∀ (x_2 : Nat), 0 < x_2 ∧ x_2 ≤ (nAt sz x_1).toNat → (nAt sz x_1).toNat - x_2 < LIM ∧ 0 ≤ (x_1 : Int) ∧ (x_1 : Int) < (sz.len : Int) ∧ ((x_2 : Int) < nAt
sz x_1 → ((∃ (x_3 : Nat), x_3.le n.toNat ∧ (0 = (x_3 : Int) ∧ (-1) = rB n sz (x : Int) (x_1 : Int) x_2 (rG n sz (x : Int) (x_1 : Int) x_2) x_3 ∧ 0 = rL n sz (x : Int) (x_1 : Int) x_2 (rG n sz (x : Int) (x_1 : Int) x_2)
x_3 ∧ 0 = rS n sz (x : Int) (x_1 : Int) x_2 (rG n sz (x : Int) (x_1 : Int) x_2) x_3 ∧ True) ∧ True) ∧ ∀ (x_3 : Nat), x_3.le n.toNat → n.toNat - x_3 < LIM ∧ ((x_3 : Int) < n → smE D.nil ∧ ((0 < cntF (flatL D.nil 0) (x_3 :
Int) → False) → 0 + x_2 ≤ (rG n sz (x : Int) (x_1 : Int) x_2).length ∧ (List.take x_2 (rG n sz (x : Int) (x_1 : Int) x_2)).length ≤ 16777216 ∧ (hasT (D.list (List.take x_2 (rG n sz (x : Int) (x_1 : Int) x_2))) (x_3 :
Int) → kpC n sz (x : Int) (x_1 : Int) x_2 (rG n sz (x : Int) (x_1 : Int) x_2) x_3) ∧ ((hasT (D.list (List.take x_2 (rG n sz (x : Int) (x_1 : Int) x_2))) (x_3 : Int) → False) → (∃ (x_4 : Nat), x_4.le x_2 ∧ (0 = (x_4 :
Int) ∧ 0 = rMo n sz (x : Int) (x_3 : Int) (rG n sz (x : Int) (x_1 : Int) x_2) x_4 ∧ 0 = rSu n sz (x : Int) (x_3 : Int) (rG n sz (x : Int) (x_1 : Int) x_2) x_4 ∧ True) ∧ True) ∧ ∀ (x_4 : Nat), x_4.le x_2 → x_2 - x_4 < LIM
∧ ((x_4 : Int) < (x_2 : Int) → 0 ≤ (x_4 : Int) ∧ (x_4 : Int) < (x_2 : Int) ∧ x_4 < (rG n sz (x : Int) (x_1 : Int) x_2).length ∧ bigP D.nil ∧ fits64 (rSu n sz (x : Int) (x_3 : Int) (rG n sz (x : Int) (x_1 : Int) x_2) x_4
+ (↑(rtS D.nil (x_3 : Int) (nthD (rG n sz (x : Int) (x_1 : Int) x_2) x_4).asInt 0).length : Int)) ∧ fits64 ((x_4 : Int) + 1) ∧ ∃ (y : Nat), y.le x_2 ∧ x_2 - y < x_2 - x_4 ∧ ((x_4 : Int) + 1 = (y : Int) ∧ max (rMo n sz (x
: Int) (x_3 : Int) (rG n sz (x : Int) (x_1 : Int) x_2) x_4) (↑(rtS D.nil (x_3 : Int) (nthD (rG n sz (x : Int) (x_1 : Int) x_2) x_4).asInt 0).length : Int) = rMo n sz (x : Int) (x_3 : Int) (rG n sz (x : Int) (x_1 : Int)
x_2) y ∧ rSu n sz (x : Int) (x_3 : Int) (rG n sz (x : Int) (x_1 : Int) x_2) x_4 + (↑(rtS D.nil (x_3 : Int) (nthD (rG n sz (x : Int) (x_1 : Int) x_2) x_4).asInt 0).length : Int) = rSu n sz (x : Int) (x_3 : Int) (rG n sz
(x : Int) (x_1 : Int) x_2) y ∧ True) ∧ True) ∧ (((x_4 : Int) < (x_2 : Int) → False) → tlC n sz (x : Int) (x_1 : Int) x_2 (rG n sz (x : Int) (x_1 : Int) x_2) x_3 x_4))) ∧ (0 < cntF (flatL D.nil 0) (x_3 : Int) → kpC n sz
(x : Int) (x_1 : Int) x_2 (rG n sz (x : Int) (x_1 : Int) x_2) x_3)) ∧ (((x_3 : Int) < n → False) → ∃ (x_4 : Unit), True ∧ (rB n sz (x : Int) (x_1 : Int) x_2 (rG n sz (x : Int) (x_1 : Int) x_2) x_3 = rB n sz (x : Int)
(x_1 : Int) x_2 (rG n sz (x : Int) (x_1 : Int) x_2) n.toNat ∧ True) ∧ True)) ∧ ∀ (x_3 : Unit), True → 0 + 1 ≤ [D.int (rB n sz (x : Int) (x_1 : Int) x_2 (rG n sz (x : Int) (x_1 : Int) x_2) n.toNat)].length ∧ 0 + x_2 ≤ (rG
n sz (x : Int) (x_1 : Int) x_2).length ∧ x_2 + 1 ≤ 16777216 ∧ ((∃ (y : Nat), y = 0 ∧ (nAt sz x_1).toNat - y < (nAt sz x_1).toNat - x_2 ∧ (False ∧ True) ∧ True) ∨ ∃ (y : Nat), (0 < y ∧ y ≤ (nAt sz x_1).toNat) ∧ (nAt sz
x_1).toNat - y < (nAt sz x_1).toNat - x_2 ∧ (((0 : Nat) = 0 ∧ x_2 + 1 = y ∧ True) ∧ True) ∧ List.take x_2 (rG n sz (x : Int) (x_1 : Int) x_2) ++ List.take 1 [D.int (rB n sz (x : Int) (x_1 : Int) x_2 (rG n sz (x : Int)
(x_1 : Int) x_2) n.toNat)] = rG n sz (x : Int) (x_1 : Int) y ∧ True)) ∧ (((x_2 : Int) < nAt sz x_1 → False) → ∃ (x_3 : Unit), True ∧ (((0 : Nat) = 0 ∧ x_2 = (nAt sz x_1).toNat ∧ True) ∧ True) ∧ rG n sz (x : Int) (x_1 :
Int) x_2 = rG n sz (x : Int) (x_1 : Int) (nAt sz x_1).toNat ∧ True)) ∧ ∀ (x_2 : Unit), True → 0 + (nAt sz x_1).toNat ≤ (rG n sz (x : Int) (x_1 : Int) (nAt sz x_1).toNat).length ∧ 0 + 1 ≤ [D.list (List.take (nAt sz
x_1).toNat (rG n sz (x : Int) (x_1 : Int) (nAt sz x_1).toNat))].length ∧ (1 : Nat) ≤ 16777216 ∧ fits64 ((x_1 : Int) + 1) ∧ ((∃ (y : Nat), y = 0 ∧ sz.len - y < sz.len - x_1 ∧ ((x_1 : Int) + 1 = (y : Int) ∧ False ∧ True) ∧
True) ∨ ∃ (y : Nat), (0 < y ∧ y ≤ sz.len) ∧ sz.len - y < sz.len - x_1 ∧ ((x_1 : Int) + 1 = (y : Int) ∧ ((0 : Nat) = 0 ∧ 1 = y ∧ True) ∧ True) ∧ List.take 1 [D.list (List.take (nAt sz x_1).toNat (rG n sz (x : Int) (x_1 :
Int) (nAt sz x_1).toNat))] = rT n sz (x : Int) y ∧ True)) ∧ (((x_1 : Int) < (sz.len : Int) → False) → ∃ (x : Unit), True ∧ (False ∧ True) ∧ False ∧ True)) ∧ ∀ (x_1 : Nat), 0 < x_1 ∧ x_1 ≤ sz.len → sz.len - x_1 < LIM ∧
((x_1 : Int) < (sz.len : Int) → (((∃ (x : Nat), x = 0 ∧ (True ∧ True) ∧ True) ∨ ∃ (x : Nat), (0 < x ∧ x ≤ (nAt sz x_1).toNat) ∧ (False ∧ True) ∧ False ∧ True) ∧ (∀ (x_2 : Nat), x_2 = 0 → (nAt sz x_1).toNat - x_2 < LIM ∧
0 ≤ (x_1 : Int) ∧ (x_1 : Int) < (sz.len : Int) ∧ (0 < nAt sz x_1 → ((∃ (x_3 : Nat), x_3.le n.toNat ∧ (0 = (x_3 : Int) ∧ (-1) = rB n sz (x : Int) (x_1 : Int) 0 [] x_3 ∧ 0 = rL n sz (x : Int) (x_1 : Int) 0 [] x_3 ∧ 0 = rS
n sz (x : Int) (x_1 : Int) 0 [] x_3 ∧ True) ∧ True) ∧ ∀ (x_3 : Nat), x_3.le n.toNat → n.toNat - x_3 < LIM ∧ ((x_3 : Int) < n → 0 + x_1 ≤ (rT n sz (x : Int) x_1).length ∧ smE (D.list (List.take x_1 (rT n sz (x : Int)
x_1))) ∧ ((0 < cntF (flatL (D.list (List.take x_1 (rT n sz (x : Int) x_1))) (List.take x_1 (rT n sz (x : Int) x_1)).length) (x_3 : Int) → False) → (0 : Nat) ≤ 16777216 ∧ (hasT D.nil (x_3 : Int) → kpC n sz (x : Int) (x_1
: Int) 0 [] x_3) ∧ ((hasT D.nil (x_3 : Int) → False) → (∃ (x_4 : Nat), x_4.le 0 ∧ (0 = (x_4 : Int) ∧ 0 = rMo n sz (x : Int) (x_3 : Int) [] x_4 ∧ 0 = rSu n sz (x : Int) (x_3 : Int) [] x_4 ∧ True) ∧ True) ∧ ∀ (x_4 : Nat),
x_4.le 0 → 0 - x_4 < LIM ∧ ((x_4 : Int) < 0 → False) ∧ (((x_4 : Int) < 0 → False) → tlC n sz (x : Int) (x_1 : Int) 0 [] x_3 x_4))) ∧ (0 < cntF (flatL (D.list (List.take x_1 (rT n sz (x : Int) x_1))) (List.take x_1 (rT n
sz (x : Int) x_1)).length) (x_3 : Int) → kpC n sz (x : Int) (x_1 : Int) 0 [] x_3)) ∧ (((x_3 : Int) < n → False) → ∃ (x_4 : Unit), True ∧ (rB n sz (x : Int) (x_1 : Int) 0 [] x_3 = rB n sz (x : Int) (x_1 : Int) 0 []
n.toNat ∧ True) ∧ True)) ∧ ∀ (x_3 : Unit), True → 0 + 1 ≤ [D.int (rB n sz (x : Int) (x_1 : Int) 0 [] n.toNat)].length ∧ (1 : Nat) ≤ 16777216 ∧ ((∃ (y : Nat), y = 0 ∧ (nAt sz x_1).toNat - y < (nAt sz x_1).toNat - x_2 ∧
(False ∧ True) ∧ True) ∨ ∃ (y : Nat), (0 < y ∧ y ≤ (nAt sz x_1).toNat) ∧ (nAt sz x_1).toNat - y < (nAt sz x_1).toNat - x_2 ∧ (((0 : Nat) = 0 ∧ 1 = y ∧ True) ∧ True) ∧ List.take 1 [D.int (rB n sz (x : Int) (x_1 : Int) 0
[] n.toNat)] = rG n sz (x : Int) (x_1 : Int) y ∧ True)) ∧ ((0 < nAt sz x_1 → False) → ∃ (x : Unit), True ∧ (False ∧ True) ∧ False ∧ True)) ∧ ∀ (x_2 : Nat), 0 < x_2 ∧ x_2 ≤ (nAt sz x_1).toNat → (nAt sz x_1).toNat - x_2 <
LIM ∧ 0 ≤ (x_1 : Int) ∧ (x_1 : Int) < (sz.len : Int) ∧ ((x_2 : Int) < nAt sz x_1 → ((∃ (x_3 : Nat), x_3.le n.toNat ∧ (0 = (x_3 : Int) ∧ (-1) = rB n sz (x : Int) (x_1 : Int) x_2 (rG n sz (x : Int) (x_1 : Int) x_2) x_3 ∧ 0
= rL n sz (x : Int) (x_1 : Int) x_2 (rG n sz (x : Int) (x_1 : Int) x_2) x_3 ∧ 0 = rS n sz (x : Int) (x_1 : Int) x_2 (rG n sz (x : Int) (x_1 : Int) x_2) x_3 ∧ True) ∧ True) ∧ ∀ (x_3 : Nat), x_3.le n.toNat → n.toNat - x_3
< LIM ∧ ((x_3 : Int) < n → 0 + x_1 ≤ (rT n sz (x : Int) x_1).length ∧ smE (D.list (List.take x_1 (rT n sz (x : Int) x_1))) ∧ ((0 < cntF (flatL (D.list (List.take x_1 (rT n sz (x : Int) x_1))) (List.take x_1 (rT n sz (x :
Int) x_1)).length) (x_3 : Int) → False) → 0 + x_2 ≤ (rG n sz (x : Int) (x_1 : Int) x_2).length ∧ (List.take x_2 (rG n sz (x : Int) (x_1 : Int) x_2)).length ≤ 16777216 ∧ (hasT (D.list (List.take x_2 (rG n sz (x : Int)
(x_1 : Int) x_2))) (x_3 : Int) → kpC n sz (x : Int) (x_1 : Int) x_2 (rG n sz (x : Int) (x_1 : Int) x_2) x_3) ∧ ((hasT (D.list (List.take x_2 (rG n sz (x : Int) (x_1 : Int) x_2))) (x_3 : Int) → False) → (∃ (x_4 : Nat),
x_4.le x_2 ∧ (0 = (x_4 : Int) ∧ 0 = rMo n sz (x : Int) (x_3 : Int) (rG n sz (x : Int) (x_1 : Int) x_2) x_4 ∧ 0 = rSu n sz (x : Int) (x_3 : Int) (rG n sz (x : Int) (x_1 : Int) x_2) x_4 ∧ True) ∧ True) ∧ ∀ (x_4 : Nat),
x_4.le x_2 → x_2 - x_4 < LIM ∧ ((x_4 : Int) < (x_2 : Int) → 0 ≤ (x_4 : Int) ∧ (x_4 : Int) < (x_2 : Int) ∧ x_4 < (rG n sz (x : Int) (x_1 : Int) x_2).length ∧ bigP D.nil ∧ fits64 (rSu n sz (x : Int) (x_3 : Int) (rG n sz (x
: Int) (x_1 : Int) x_2) x_4 + (↑(rtS D.nil (x_3 : Int) (nthD (rG n sz (x : Int) (x_1 : Int) x_2) x_4).asInt 0).length : Int)) ∧ fits64 ((x_4 : Int) + 1) ∧ ∃ (y : Nat), y.le x_2 ∧ x_2 - y < x_2 - x_4 ∧ ((x_4 : Int) + 1 =
(y : Int) ∧ max (rMo n sz (x : Int) (x_3 : Int) (rG n sz (x : Int) (x_1 : Int) x_2) x_4) (↑(rtS D.nil (x_3 : Int) (nthD (rG n sz (x : Int) (x_1 : Int) x_2) x_4).asInt 0).length : Int) = rMo n sz (x : Int) (x_3 : Int) (rG
n sz (x : Int) (x_1 : Int) x_2) y ∧ rSu n sz (x : Int) (x_3 : Int) (rG n sz (x : Int) (x_1 : Int) x_2) x_4 + (↑(rtS D.nil (x_3 : Int) (nthD (rG n sz (x : Int) (x_1 : Int) x_2) x_4).asInt 0).length : Int) = rSu n sz (x :
Int) (x_3 : Int) (rG n sz (x : Int) (x_1 : Int) x_2) y ∧ True) ∧ True) ∧ (((x_4 : Int) < (x_2 : Int) → False) → tlC n sz (x : Int) (x_1 : Int) x_2 (rG n sz (x : Int) (x_1 : Int) x_2) x_3 x_4))) ∧ (0 < cntF (flatL (D.list
(List.take x_1 (rT n sz (x : Int) x_1))) (List.take x_1 (rT n sz (x : Int) x_1)).length) (x_3 : Int) → kpC n sz (x : Int) (x_1 : Int) x_2 (rG n sz (x : Int) (x_1 : Int) x_2) x_3)) ∧ (((x_3 : Int) < n → False) → ∃ (x_4 :
Unit), True ∧ (rB n sz (x : Int) (x_1 : Int) x_2 (rG n sz (x : Int) (x_1 : Int) x_2) x_3 = rB n sz (x : Int) (x_1 : Int) x_2 (rG n sz (x : Int) (x_1 : Int) x_2) n.toNat ∧ True) ∧ True)) ∧ ∀ (x_3 : Unit), True → 0 + 1 ≤
[D.int (rB n sz (x : Int) (x_1 : Int) x_2 (rG n sz (x : Int) (x_1 : Int) x_2) n.toNat)].length ∧ 0 + x_2 ≤ (rG n sz (x : Int) (x_1 : Int) x_2).length ∧ x_2 + 1 ≤ 16777216 ∧ ((∃ (y : Nat), y = 0 ∧ (nAt sz x_1).toNat - y <
(nAt sz x_1).toNat - x_2 ∧ (False ∧ True) ∧ True) ∨ ∃ (y : Nat), (0 < y ∧ y ≤ (nAt sz x_1).toNat) ∧ (nAt sz x_1).toNat - y < (nAt sz x_1).toNat - x_2 ∧ (((0 : Nat) = 0 ∧ x_2 + 1 = y ∧ True) ∧ True) ∧ List.take x_2 (rG n
sz (x : Int) (x_1 : Int) x_2) ++ List.take 1 [D.int (rB n sz (x : Int) (x_1 : Int) x_2 (rG n sz (x : Int) (x_1 : Int) x_2) n.toNat)] = rG n sz (x : Int) (x_1 : Int) y ∧ True)) ∧ (((x_2 : Int) < nAt sz x_1 → False) → ∃
(x_3 : Unit), True ∧ (((0 : Nat) = 0 ∧ x_2 = (nAt sz x_1).toNat ∧ True) ∧ True) ∧ rG n sz (x : Int) (x_1 : Int) x_2 = rG n sz (x : Int) (x_1 : Int) (nAt sz x_1).toNat ∧ True)) ∧ ∀ (x_2 : Unit), True → 0 + (nAt sz
x_1).toNat ≤ (rG n sz (x : Int) (x_1 : Int) (nAt sz x_1).toNat).length ∧ 0 + 1 ≤ [D.list (List.take (nAt sz x_1).toNat (rG n sz (x : Int) (x_1 : Int) (nAt sz x_1).toNat))].length ∧ 0 + x_1 ≤ (rT n sz (x : Int)
x_1).length ∧ x_1 + 1 ≤ 16777216 ∧ fits64 ((x_1 : Int) + 1) ∧ ((∃ (y : Nat), y = 0 ∧ sz.len - y < sz.len - x_1 ∧ ((x_1 : Int) + 1 = (y : Int) ∧ False ∧ True) ∧ True) ∨ ∃ (y : Nat), (0 < y ∧ y ≤ sz.len) ∧ sz.len - y <
sz.len - x_1 ∧ ((x_1 : Int) + 1 = (y : Int) ∧ ((0 : Nat) = 0 ∧ x_1 + 1 = y ∧ True) ∧ True) ∧ List.take x_1 (rT n sz (x : Int) x_1) ++ List.take 1 [D.list (List.take (nAt sz x_1).toNat (rG n sz (x : Int) (x_1 : Int) (nAt
sz x_1).toNat))] = rT n sz (x : Int) y ∧ True)) ∧ (((x_1 : Int) < (sz.len : Int) → False) → ∃ (x_2 : Unit), True ∧ (((0 : Nat) = 0 ∧ x_1 = sz.len ∧ True) ∧ True) ∧ rT n sz (x : Int) x_1 = rT n sz (x : Int) sz.len ∧
True)) ∧ ∀ (x_1 : Unit), True → 0 + sz.len ≤ (rT n sz (x : Int) sz.len).length ∧ 0 + 1 ≤ [D.list (List.take sz.len (rT n sz (x : Int) sz.len))].length ∧ (1 : Nat) ≤ 16777216 ∧ fits64 ((x : Int) + 1) ∧ ((∃ (y : Nat), y =
0 ∧ e.toNat - y < e.toNat - x ∧ ((x : Int) + 1 = (y : Int) ∧ False ∧ True) ∧ True) ∨ ∃ (y : Nat), (0 < y ∧ y ≤ e.toNat) ∧ e.toNat - y < e.toNat - x ∧ ((x : Int) + 1 = (y : Int) ∧ ((0 : Nat) = 0 ∧ 1 = y ∧ True) ∧ True) ∧
List.take 1 [D.list (List.take sz.len (rT n sz (x : Int) sz.len))] = rP n sz y ∧ True)) ∧ (((x : Int) < e → False) → D.nil = refD n sz e ∧ 0 = planX n sz e ∧ True)) ∧ ∀ (x : Nat), 0 < x ∧ x ≤ e.toNat → e.toNat - x < LIM
∧ ((x : Int) < e → (((∃ (x : Nat), x = 0 ∧ (0 = (x : Int) ∧ True ∧ True) ∧ True) ∨ ∃ (x : Nat), (0 < x ∧ x ≤ sz.len) ∧ (0 = (x : Int) ∧ False ∧ True) ∧ False ∧ True) ∧ (∀ (x_1 : Nat), x_1 = 0 → sz.len - x_1 < LIM ∧ ((x_1
: Int) < (sz.len : Int) → (((∃ (x : Nat), x = 0 ∧ (True ∧ True) ∧ True) ∨ ∃ (x : Nat), (0 < x ∧ x ≤ (nAt sz x_1).toNat) ∧ (False ∧ True) ∧ False ∧ True) ∧ (∀ (x_2 : Nat), x_2 = 0 → (nAt sz x_1).toNat - x_2 < LIM ∧ 0 ≤
(x_1 : Int) ∧ (x_1 : Int) < (sz.len : Int) ∧ (0 < nAt sz x_1 → ((∃ (x_3 : Nat), x_3.le n.toNat ∧ (0 = (x_3 : Int) ∧ (-1) = rB n sz (x : Int) (x_1 : Int) 0 [] x_3 ∧ 0 = rL n sz (x : Int) (x_1 : Int) 0 [] x_3 ∧ 0 = rS n sz
(x : Int) (x_1 : Int) 0 [] x_3 ∧ True) ∧ True) ∧ ∀ (x_3 : Nat), x_3.le n.toNat → n.toNat - x_3 < LIM ∧ ((x_3 : Int) < n → smE D.nil ∧ ((0 < cntF (flatL D.nil 0) (x_3 : Int) → False) → (0 : Nat) ≤ 16777216 ∧ (hasT D.nil
(x_3 : Int) → kpC n sz (x : Int) (x_1 : Int) 0 [] x_3) ∧ ((hasT D.nil (x_3 : Int) → False) → (∃ (x_4 : Nat), x_4.le 0 ∧ (0 = (x_4 : Int) ∧ 0 = rMo n sz (x : Int) (x_3 : Int) [] x_4 ∧ 0 = rSu n sz (x : Int) (x_3 : Int) []
x_4 ∧ True) ∧ True) ∧ ∀ (x_4 : Nat), x_4.le 0 → 0 - x_4 < LIM ∧ ((x_4 : Int) < 0 → False) ∧ (((x_4 : Int) < 0 → False) → tlC n sz (x : Int) (x_1 : Int) 0 [] x_3 x_4))) ∧ (0 < cntF (flatL D.nil 0) (x_3 : Int) → kpC n sz
(x : Int) (x_1 : Int) 0 [] x_3)) ∧ (((x_3 : Int) < n → False) → ∃ (x_4 : Unit), True ∧ (rB n sz (x : Int) (x_1 : Int) 0 [] x_3 = rB n sz (x : Int) (x_1 : Int) 0 [] n.toNat ∧ True) ∧ True)) ∧ ∀ (x_3 : Unit), True → 0 + 1
≤ [D.int (rB n sz (x : Int) (x_1 : Int) 0 [] n.toNat)].length ∧ (1 : Nat) ≤ 16777216 ∧ ((∃ (y : Nat), y = 0 ∧ (nAt sz x_1).toNat - y < (nAt sz x_1).toNat - x_2 ∧ (False ∧ True) ∧ True) ∨ ∃ (y : Nat), (0 < y ∧ y ≤ (nAt sz
x_1).toNat) ∧ (nAt sz x_1).toNat - y < (nAt sz x_1).toNat - x_2 ∧ (((0 : Nat) = 0 ∧ 1 = y ∧ True) ∧ True) ∧ List.take 1 [D.int (rB n sz (x : Int) (x_1 : Int) 0 [] n.toNat)] = rG n sz (x : Int) (x_1 : Int) y ∧ True)) ∧
((0 < nAt sz x_1 → False) → ∃ (x : Unit), True ∧ (False ∧ True) ∧ False ∧ True)) ∧ ∀ (x_2 : Nat), 0 < x_2 ∧ x_2 ≤ (nAt sz x_1).toNat → (nAt sz x_1).toNat - x_2 < LIM ∧ 0 ≤ (x_1 : Int) ∧ (x_1 : Int) < (sz.len : Int) ∧
((x_2 : Int) < nAt sz x_1 → ((∃ (x_3 : Nat), x_3.le n.toNat ∧ (0 = (x_3 : Int) ∧ (-1) = rB n sz (x : Int) (x_1 : Int) x_2 (rG n sz (x : Int) (x_1 : Int) x_2) x_3 ∧ 0 = rL n sz (x : Int) (x_1 : Int) x_2 (rG n sz (x : Int)
(x_1 : Int) x_2) x_3 ∧ 0 = rS n sz (x : Int) (x_1 : Int) x_2 (rG n sz (x : Int) (x_1 : Int) x_2) x_3 ∧ True) ∧ True) ∧ ∀ (x_3 : Nat), x_3.le n.toNat → n.toNat - x_3 < LIM ∧ ((x_3 : Int) < n → smE D.nil ∧ ((0 < cntF
(flatL D.nil 0) (x_3 : Int) → False) → 0 + x_2 ≤ (rG n sz (x : Int) (x_1 : Int) x_2).length ∧ (List.take x_2 (rG n sz (x : Int) (x_1 : Int) x_2)).length ≤ 16777216 ∧ (hasT (D.list (List.take x_2 (rG n sz (x : Int) (x_1 :
Int) x_2))) (x_3 : Int) → kpC n sz (x : Int) (x_1 : Int) x_2 (rG n sz (x : Int) (x_1 : Int) x_2) x_3) ∧ ((hasT (D.list (List.take x_2 (rG n sz (x : Int) (x_1 : Int) x_2))) (x_3 : Int) → False) → (∃ (x_4 : Nat), x_4.le
x_2 ∧ (0 = (x_4 : Int) ∧ 0 = rMo n sz (x : Int) (x_3 : Int) (rG n sz (x : Int) (x_1 : Int) x_2) x_4 ∧ 0 = rSu n sz (x : Int) (x_3 : Int) (rG n sz (x : Int) (x_1 : Int) x_2) x_4 ∧ True) ∧ True) ∧ ∀ (x_4 : Nat), x_4.le x_2
→ x_2 - x_4 < LIM ∧ ((x_4 : Int) < (x_2 : Int) → 0 ≤ (x_4 : Int) ∧ (x_4 : Int) < (x_2 : Int) ∧ x_4 < (rG n sz (x : Int) (x_1 : Int) x_2).length ∧ 0 + x ≤ (rP n sz x).length ∧ bigP (D.list (List.take x (rP n sz x))) ∧
fits64 (rSu n sz (x : Int) (x_3 : Int) (rG n sz (x : Int) (x_1 : Int) x_2) x_4 + (↑(rtS (D.list (List.take x (rP n sz x))) (x_3 : Int) (nthD (rG n sz (x : Int) (x_1 : Int) x_2) x_4).asInt (List.take x (rP n sz
x)).length).length : Int)) ∧ fits64 ((x_4 : Int) + 1) ∧ ∃ (y : Nat), y.le x_2 ∧ x_2 - y < x_2 - x_4 ∧ ((x_4 : Int) + 1 = (y : Int) ∧ max (rMo n sz (x : Int) (x_3 : Int) (rG n sz (x : Int) (x_1 : Int) x_2) x_4) (↑(rtS
(D.list (List.take x (rP n sz x))) (x_3 : Int) (nthD (rG n sz (x : Int) (x_1 : Int) x_2) x_4).asInt (List.take x (rP n sz x)).length).length : Int) = rMo n sz (x : Int) (x_3 : Int) (rG n sz (x : Int) (x_1 : Int) x_2) y ∧
rSu n sz (x : Int) (x_3 : Int) (rG n sz (x : Int) (x_1 : Int) x_2) x_4 + (↑(rtS (D.list (List.take x (rP n sz x))) (x_3 : Int) (nthD (rG n sz (x : Int) (x_1 : Int) x_2) x_4).asInt (List.take x (rP n sz x)).length).length
: Int) = rSu n sz (x : Int) (x_3 : Int) (rG n sz (x : Int) (x_1 : Int) x_2) y ∧ True) ∧ True) ∧ (((x_4 : Int) < (x_2 : Int) → False) → tlC n sz (x : Int) (x_1 : Int) x_2 (rG n sz (x : Int) (x_1 : Int) x_2) x_3 x_4))) ∧
(0 < cntF (flatL D.nil 0) (x_3 : Int) → kpC n sz (x : Int) (x_1 : Int) x_2 (rG n sz (x : Int) (x_1 : Int) x_2) x_3)) ∧ (((x_3 : Int) < n → False) → ∃ (x_4 : Unit), True ∧ (rB n sz (x : Int) (x_1 : Int) x_2 (rG n sz (x :
Int) (x_1 : Int) x_2) x_3 = rB n sz (x : Int) (x_1 : Int) x_2 (rG n sz (x : Int) (x_1 : Int) x_2) n.toNat ∧ True) ∧ True)) ∧ ∀ (x_3 : Unit), True → 0 + 1 ≤ [D.int (rB n sz (x : Int) (x_1 : Int) x_2 (rG n sz (x : Int)
(x_1 : Int) x_2) n.toNat)].length ∧ 0 + x_2 ≤ (rG n sz (x : Int) (x_1 : Int) x_2).length ∧ x_2 + 1 ≤ 16777216 ∧ ((∃ (y : Nat), y = 0 ∧ (nAt sz x_1).toNat - y < (nAt sz x_1).toNat - x_2 ∧ (False ∧ True) ∧ True) ∨ ∃ (y :
Nat), (0 < y ∧ y ≤ (nAt sz x_1).toNat) ∧ (nAt sz x_1).toNat - y < (nAt sz x_1).toNat - x_2 ∧ (((0 : Nat) = 0 ∧ x_2 + 1 = y ∧ True) ∧ True) ∧ List.take x_2 (rG n sz (x : Int) (x_1 : Int) x_2) ++ List.take 1 [D.int (rB n
sz (x : Int) (x_1 : Int) x_2 (rG n sz (x : Int) (x_1 : Int) x_2) n.toNat)] = rG n sz (x : Int) (x_1 : Int) y ∧ True)) ∧ (((x_2 : Int) < nAt sz x_1 → False) → ∃ (x_3 : Unit), True ∧ (((0 : Nat) = 0 ∧ x_2 = (nAt sz
x_1).toNat ∧ True) ∧ True) ∧ rG n sz (x : Int) (x_1 : Int) x_2 = rG n sz (x : Int) (x_1 : Int) (nAt sz x_1).toNat ∧ True)) ∧ ∀ (x_2 : Unit), True → 0 + (nAt sz x_1).toNat ≤ (rG n sz (x : Int) (x_1 : Int) (nAt sz
x_1).toNat).length ∧ 0 + 1 ≤ [D.list (List.take (nAt sz x_1).toNat (rG n sz (x : Int) (x_1 : Int) (nAt sz x_1).toNat))].length ∧ (1 : Nat) ≤ 16777216 ∧ fits64 ((x_1 : Int) + 1) ∧ ((∃ (y : Nat), y = 0 ∧ sz.len - y <
sz.len - x_1 ∧ ((x_1 : Int) + 1 = (y : Int) ∧ False ∧ True) ∧ True) ∨ ∃ (y : Nat), (0 < y ∧ y ≤ sz.len) ∧ sz.len - y < sz.len - x_1 ∧ ((x_1 : Int) + 1 = (y : Int) ∧ ((0 : Nat) = 0 ∧ 1 = y ∧ True) ∧ True) ∧ List.take 1
[D.list (List.take (nAt sz x_1).toNat (rG n sz (x : Int) (x_1 : Int) (nAt sz x_1).toNat))] = rT n sz (x : Int) y ∧ True)) ∧ (((x_1 : Int) < (sz.len : Int) → False) → ∃ (x : Unit), True ∧ (False ∧ True) ∧ False ∧ True)) ∧
∀ (x_1 : Nat), 0 < x_1 ∧ x_1 ≤ sz.len → sz.len - x_1 < LIM ∧ ((x_1 : Int) < (sz.len : Int) → (((∃ (x : Nat), x = 0 ∧ (True ∧ True) ∧ True) ∨ ∃ (x : Nat), (0 < x ∧ x ≤ (nAt sz x_1).toNat) ∧ (False ∧ True) ∧ False ∧ True)
∧ (∀ (x_2 : Nat), x_2 = 0 → (nAt sz x_1).toNat - x_2 < LIM ∧ 0 ≤ (x_1 : Int) ∧ (x_1 : Int) < (sz.len : Int) ∧ (0 < nAt sz x_1 → ((∃ (x_3 : Nat), x_3.le n.toNat ∧ (0 = (x_3 : Int) ∧ (-1) = rB n sz (x : Int) (x_1 : Int) 0
[] x_3 ∧ 0 = rL n sz (x : Int) (x_1 : Int) 0 [] x_3 ∧ 0 = rS n sz (x : Int) (x_1 : Int) 0 [] x_3 ∧ True) ∧ True) ∧ ∀ (x_3 : Nat), x_3.le n.toNat → n.toNat - x_3 < LIM ∧ ((x_3 : Int) < n → 0 + x_1 ≤ (rT n sz (x : Int)
x_1).length ∧ smE (D.list (List.take x_1 (rT n sz (x : Int) x_1))) ∧ ((0 < cntF (flatL (D.list (List.take x_1 (rT n sz (x : Int) x_1))) (List.take x_1 (rT n sz (x : Int) x_1)).length) (x_3 : Int) → False) → (0 : Nat) ≤
16777216 ∧ (hasT D.nil (x_3 : Int) → kpC n sz (x : Int) (x_1 : Int) 0 [] x_3) ∧ ((hasT D.nil (x_3 : Int) → False) → (∃ (x_4 : Nat), x_4.le 0 ∧ (0 = (x_4 : Int) ∧ 0 = rMo n sz (x : Int) (x_3 : Int) [] x_4 ∧ 0 = rSu n sz
(x : Int) (x_3 : Int) [] x_4 ∧ True) ∧ True) ∧ ∀ (x_4 : Nat), x_4.le 0 → 0 - x_4 < LIM ∧ ((x_4 : Int) < 0 → False) ∧ (((x_4 : Int) < 0 → False) → tlC n sz (x : Int) (x_1 : Int) 0 [] x_3 x_4))) ∧ (0 < cntF (flatL (D.list
(List.take x_1 (rT n sz (x : Int) x_1))) (List.take x_1 (rT n sz (x : Int) x_1)).length) (x_3 : Int) → kpC n sz (x : Int) (x_1 : Int) 0 [] x_3)) ∧ (((x_3 : Int) < n → False) → ∃ (x_4 : Unit), True ∧ (rB n sz (x : Int)
(x_1 : Int) 0 [] x_3 = rB n sz (x : Int) (x_1 : Int) 0 [] n.toNat ∧ True) ∧ True)) ∧ ∀ (x_3 : Unit), True → 0 + 1 ≤ [D.int (rB n sz (x : Int) (x_1 : Int) 0 [] n.toNat)].length ∧ (1 : Nat) ≤ 16777216 ∧ ((∃ (y : Nat), y =
0 ∧ (nAt sz x_1).toNat - y < (nAt sz x_1).toNat - x_2 ∧ (False ∧ True) ∧ True) ∨ ∃ (y : Nat), (0 < y ∧ y ≤ (nAt sz x_1).toNat) ∧ (nAt sz x_1).toNat - y < (nAt sz x_1).toNat - x_2 ∧ (((0 : Nat) = 0 ∧ 1 = y ∧ True) ∧ True)
∧ List.take 1 [D.int (rB n sz (x : Int) (x_1 : Int) 0 [] n.toNat)] = rG n sz (x : Int) (x_1 : Int) y ∧ True)) ∧ ((0 < nAt sz x_1 → False) → ∃ (x : Unit), True ∧ (False ∧ True) ∧ False ∧ True)) ∧ ∀ (x_2 : Nat), 0 < x_2 ∧
x_2 ≤ (nAt sz x_1).toNat → (nAt sz x_1).toNat - x_2 < LIM ∧ 0 ≤ (x_1 : Int) ∧ (x_1 : Int) < (sz.len : Int) ∧ ((x_2 : Int) < nAt sz x_1 → ((∃ (x_3 : Nat), x_3.le n.toNat ∧ (0 = (x_3 : Int) ∧ (-1) = rB n sz (x : Int) (x_1
: Int) x_2 (rG n sz (x : Int) (x_1 : Int) x_2) x_3 ∧ 0 = rL n sz (x : Int) (x_1 : Int) x_2 (rG n sz (x : Int) (x_1 : Int) x_2) x_3 ∧ 0 = rS n sz (x : Int) (x_1 : Int) x_2 (rG n sz (x : Int) (x_1 : Int) x_2) x_3 ∧ True) ∧
True) ∧ ∀ (x_3 : Nat), x_3.le n.toNat → n.toNat - x_3 < LIM ∧ ((x_3 : Int) < n → 0 + x_1 ≤ (rT n sz (x : Int) x_1).length ∧ smE (D.list (List.take x_1 (rT n sz (x : Int) x_1))) ∧ ((0 < cntF (flatL (D.list (List.take x_1
(rT n sz (x : Int) x_1))) (List.take x_1 (rT n sz (x : Int) x_1)).length) (x_3 : Int) → False) → 0 + x_2 ≤ (rG n sz (x : Int) (x_1 : Int) x_2).length ∧ (List.take x_2 (rG n sz (x : Int) (x_1 : Int) x_2)).length ≤
16777216 ∧ (hasT (D.list (List.take x_2 (rG n sz (x : Int) (x_1 : Int) x_2))) (x_3 : Int) → kpC n sz (x : Int) (x_1 : Int) x_2 (rG n sz (x : Int) (x_1 : Int) x_2) x_3) ∧ ((hasT (D.list (List.take x_2 (rG n sz (x : Int)
(x_1 : Int) x_2))) (x_3 : Int) → False) → (∃ (x_4 : Nat), x_4.le x_2 ∧ (0 = (x_4 : Int) ∧ 0 = rMo n sz (x : Int) (x_3 : Int) (rG n sz (x : Int) (x_1 : Int) x_2) x_4 ∧ 0 = rSu n sz (x : Int) (x_3 : Int) (rG n sz (x : Int)
(x_1 : Int) x_2) x_4 ∧ True) ∧ True) ∧ ∀ (x_4 : Nat), x_4.le x_2 → x_2 - x_4 < LIM ∧ ((x_4 : Int) < (x_2 : Int) → 0 ≤ (x_4 : Int) ∧ (x_4 : Int) < (x_2 : Int) ∧ x_4 < (rG n sz (x : Int) (x_1 : Int) x_2).length ∧ 0 + x ≤
(rP n sz x).length ∧ bigP (D.list (List.take x (rP n sz x))) ∧ fits64 (rSu n sz (x : Int) (x_3 : Int) (rG n sz (x : Int) (x_1 : Int) x_2) x_4 + (↑(rtS (D.list (List.take x (rP n sz x))) (x_3 : Int) (nthD (rG n sz (x :
Int) (x_1 : Int) x_2) x_4).asInt (List.take x (rP n sz x)).length).length : Int)) ∧ fits64 ((x_4 : Int) + 1) ∧ ∃ (y : Nat), y.le x_2 ∧ x_2 - y < x_2 - x_4 ∧ ((x_4 : Int) + 1 = (y : Int) ∧ max (rMo n sz (x : Int) (x_3 :
Int) (rG n sz (x : Int) (x_1 : Int) x_2) x_4) (↑(rtS (D.list (List.take x (rP n sz x))) (x_3 : Int) (nthD (rG n sz (x : Int) (x_1 : Int) x_2) x_4).asInt (List.take x (rP n sz x)).length).length : Int) = rMo n sz (x :
Int) (x_3 : Int) (rG n sz (x : Int) (x_1 : Int) x_2) y ∧ rSu n sz (x : Int) (x_3 : Int) (rG n sz (x : Int) (x_1 : Int) x_2) x_4 + (↑(rtS (D.list (List.take x (rP n sz x))) (x_3 : Int) (nthD (rG n sz (x : Int) (x_1 : Int)
x_2) x_4).asInt (List.take x (rP n sz x)).length).length : Int) = rSu n sz (x : Int) (x_3 : Int) (rG n sz (x : Int) (x_1 : Int) x_2) y ∧ True) ∧ True) ∧ (((x_4 : Int) < (x_2 : Int) → False) → tlC n sz (x : Int) (x_1 :
Int) x_2 (rG n sz (x : Int) (x_1 : Int) x_2) x_3 x_4))) ∧ (0 < cntF (flatL (D.list (List.take x_1 (rT n sz (x : Int) x_1))) (List.take x_1 (rT n sz (x : Int) x_1)).length) (x_3 : Int) → kpC n sz (x : Int) (x_1 : Int) x_2
(rG n sz (x : Int) (x_1 : Int) x_2) x_3)) ∧ (((x_3 : Int) < n → False) → ∃ (x_4 : Unit), True ∧ (rB n sz (x : Int) (x_1 : Int) x_2 (rG n sz (x : Int) (x_1 : Int) x_2) x_3 = rB n sz (x : Int) (x_1 : Int) x_2 (rG n sz (x :
Int) (x_1 : Int) x_2) n.toNat ∧ True) ∧ True)) ∧ ∀ (x_3 : Unit), True → 0 + 1 ≤ [D.int (rB n sz (x : Int) (x_1 : Int) x_2 (rG n sz (x : Int) (x_1 : Int) x_2) n.toNat)].length ∧ 0 + x_2 ≤ (rG n sz (x : Int) (x_1 : Int)
x_2).length ∧ x_2 + 1 ≤ 16777216 ∧ ((∃ (y : Nat), y = 0 ∧ (nAt sz x_1).toNat - y < (nAt sz x_1).toNat - x_2 ∧ (False ∧ True) ∧ True) ∨ ∃ (y : Nat), (0 < y ∧ y ≤ (nAt sz x_1).toNat) ∧ (nAt sz x_1).toNat - y < (nAt sz
x_1).toNat - x_2 ∧ (((0 : Nat) = 0 ∧ x_2 + 1 = y ∧ True) ∧ True) ∧ List.take x_2 (rG n sz (x : Int) (x_1 : Int) x_2) ++ List.take 1 [D.int (rB n sz (x : Int) (x_1 : Int) x_2 (rG n sz (x : Int) (x_1 : Int) x_2) n.toNat)]
= rG n sz (x : Int) (x_1 : Int) y ∧ True)) ∧ (((x_2 : Int) < nAt sz x_1 → False) → ∃ (x_3 : Unit), True ∧ (((0 : Nat) = 0 ∧ x_2 = (nAt sz x_1).toNat ∧ True) ∧ True) ∧ rG n sz (x : Int) (x_1 : Int) x_2 = rG n sz (x : Int)
(x_1 : Int) (nAt sz x_1).toNat ∧ True)) ∧ ∀ (x_2 : Unit), True → 0 + (nAt sz x_1).toNat ≤ (rG n sz (x : Int) (x_1 : Int) (nAt sz x_1).toNat).length ∧ 0 + 1 ≤ [D.list (List.take (nAt sz x_1).toNat (rG n sz (x : Int) (x_1
: Int) (nAt sz x_1).toNat))].length ∧ 0 + x_1 ≤ (rT n sz (x : Int) x_1).length ∧ x_1 + 1 ≤ 16777216 ∧ fits64 ((x_1 : Int) + 1) ∧ ((∃ (y : Nat), y = 0 ∧ sz.len - y < sz.len - x_1 ∧ ((x_1 : Int) + 1 = (y : Int) ∧ False ∧
True) ∧ True) ∨ ∃ (y : Nat), (0 < y ∧ y ≤ sz.len) ∧ sz.len - y < sz.len - x_1 ∧ ((x_1 : Int) + 1 = (y : Int) ∧ ((0 : Nat) = 0 ∧ x_1 + 1 = y ∧ True) ∧ True) ∧ List.take x_1 (rT n sz (x : Int) x_1) ++ List.take 1 [D.list
(List.take (nAt sz x_1).toNat (rG n sz (x : Int) (x_1 : Int) (nAt sz x_1).toNat))] = rT n sz (x : Int) y ∧ True)) ∧ (((x_1 : Int) < (sz.len : Int) → False) → ∃ (x_2 : Unit), True ∧ (((0 : Nat) = 0 ∧ x_1 = sz.len ∧ True)
∧ True) ∧ rT n sz (x : Int) x_1 = rT n sz (x : Int) sz.len ∧ True)) ∧ ∀ (x_1 : Unit), True → 0 + sz.len ≤ (rT n sz (x : Int) sz.len).length ∧ 0 + 1 ≤ [D.list (List.take sz.len (rT n sz (x : Int) sz.len))].length ∧ 0 + x
≤ (rP n sz x).length ∧ x + 1 ≤ 16777216 ∧ fits64 ((x : Int) + 1) ∧ ((∃ (y : Nat), y = 0 ∧ e.toNat - y < e.toNat - x ∧ ((x : Int) + 1 = (y : Int) ∧ False ∧ True) ∧ True) ∨ ∃ (y : Nat), (0 < y ∧ y ≤ e.toNat) ∧ e.toNat - y
< e.toNat - x ∧ ((x : Int) + 1 = (y : Int) ∧ ((0 : Nat) = 0 ∧ x + 1 = y ∧ True) ∧ True) ∧ List.take x (rP n sz x) ++ List.take 1 [D.list (List.take sz.len (rT n sz (x : Int) sz.len))] = rP n sz y ∧ True)) ∧ (((x : Int) <
e → False) → (0 + x ≤ (rP n sz x).length ∧ D.list (List.take x (rP n sz x)) = refD n sz e) ∧ 0 = planX n sz e ∧ True))) ∧ (e < 0 → D.nil = refD n sz e ∧ 2 = planX n sz e ∧ True))) := by intros; kernel_rfl
section
variable {n : Int} {sz : D} {x : Nat}
structure psC (n : Int) (sz : D) (x : Nat) : Prop where
 h1 : 1 ≤ n
 h64 : n ≤ 64
 fit : fitP n sz
 hx : x ≤ 64
theorem psC.hN (h : psC n sz x) : ((n.toNat : Nat) : Int) = n := toN h.h1
theorem psC.fi (h : psC n sz x) : fiP n.toNat (pmQ n.toNat sz x) sz := ⟨by have := h.h64; omega, by rw [h.hN]; exact h.fit, pmQ_len _ _ _, ⟨_, pm_sq h.h1 h.h64 h.fit h.hx⟩⟩
theorem psC.good (h : psC n sz x) : goodS n (.list (pnL n.toNat sz x)) := (pl_pig h.h1 h.h64 h.fit h.hx).good
theorem rP_len (n : Int) (sz : D) (x : Nat) : (rP n sz x).length = x := pnL_len _ _ _
theorem psC.ev (h : psC n sz x) {j : Nat} (hj : j ≤ sz.len) : evP n.toNat sz (ftS (pmQ n.toNat sz x) sz j) (ftT (pmQ n.toNat sz x) sz j) j := ft_ok h.fi.fit h.fi.len j hj
theorem rT_len (h : psC n sz x) {j : Nat} (hj : j ≤ sz.len) : (rT n sz (x : Nat) j).length = j := (h.ev hj).len
theorem psC.fl (h : psC n sz x) {j k : Nat} (hj : j < sz.len) (hk : (k : Int) ≤ nAt sz j) : stP n.toNat (rF n sz (x : Nat) (j : Nat) k) (flt (ftT (pmQ n.toNat sz x) sz j) ++ rG n sz (x : Nat) (j : Nat) k) ∧ (rG n sz (x : Nat) (j : Nat) k).length = k := by
 have ht := (h.ev (Nat.le_of_lt hj)).tot
 have := fit_le h.fit hj
 exact fl_ok (h.ev (Nat.le_of_lt hj)).st h.fi.len k (by omega)
theorem rG_len (h : psC n sz x) {j k : Nat} (hj : j < sz.len) (hk : (k : Int) ≤ nAt sz j) : (rG n sz (x : Nat) (j : Nat) k).length = k := (h.fl hj hk).2
theorem seatQ (h : psC n sz x) {j k : Nat} (hj : j < sz.len) (hk : (k : Int) ≤ nAt sz j) : ∀ g : Nat, (g : Int) < n → ((nthD (rF n sz (x : Nat) (j : Nat) k) g).asProp ↔ 0 < cntF (flt (ftT (pmQ n.toNat sz x) sz j)) g ∨ hasT (.list (rG n sz (x : Nat) (j : Nat) k)) g) := fun g hg => by
 have hn := h.hN
 have h0 := ((h.fl hj hk).1.iff g (by omega))
 rw [h0, hasT_cnt, cntF_app]
 have a1 := (cntF_rng (flt (ftT (pmQ n.toNat sz x) sz j)) g).1
 have a2 := (cntF_rng (rG n sz (x : Nat) (j : Nat) k) g).1
 show 0 < cntF (flt (ftT (pmQ n.toNat sz x) sz j)) g + cntF (rG n sz (x : Nat) (j : Nat) k) g ↔ _ ∨ 0 < cntF (rG n sz (x : Nat) (j : Nat) k) g
 omega
theorem flTe (h : psC n sz x) {j : Nat} (_ : j ≤ sz.len) : flatL (.list (rT n sz (x : Nat) j)) (rT n sz (x : Nat) j).length = flt (ftT (pmQ n.toNat sz x) sz j) := by
 have := flat_map (.list (rT n sz (x : Nat) j)) _ (Nat.le_refl _)
 rw [show (D.list (rT n sz (x : Nat) j)).len = (rT n sz (x : Nat) j).length from rfl, show (D.list (rT n sz (x : Nat) j)).asList = rT n sz (x : Nat) j from rfl, List.take_length] at this
 exact this
theorem smEv (h : psC n sz x) {j : Nat} (hj : j ≤ sz.len) : smE (.list (rT n sz (x : Nat) j)) := by
 have hl := rT_len h hj
 have h1 := (fit_sum h.fit (Nat.le_refl sz.len)).1
 have h2 := (fit_sum h.fit (Nat.le_refl sz.len)).2
 have h64 := h.h64
 refine ⟨by show (rT n sz (x : Nat) j).length ≤ 100; omega, fun i hi => ?_⟩
 have hi : i < (rT n sz (x : Nat) j).length := hi
 obtain ⟨l, e1, e2⟩ := (h.ev hj).tab i (by omega)
 rw [show el (.list (rT n sz (x : Nat) j)) i = .list l from e1]
 have := fit_le h.fit (x := i) (by omega)
 have := (fit_sum h.fit (x := i) (by omega)).1
 show l.length ≤ 1000
 omega
theorem kp_ok (h : psC n sz x) {j k : Nat} {T : List D} {g : Nat} (hg : (g : Int) < n) (hs : (nthD (rF n sz (x : Nat) (j : Nat) k) g).asProp) : kpC n sz (x : Nat) (j : Nat) k T g := by
 have h64 := h.h64
 obtain ⟨a, b, c⟩ := nx_a (q := rM n sz (x : Nat)) (T := T) hs
 exact ⟨⟨by omega, by omega⟩, g + 1, (by omega : g + 1 ≤ n.toNat), by omega, ⟨by omega, a, b, c, trivial⟩, trivial⟩
theorem tl_ok (h : psC n sz x) {j k z : Nat} {T : List D} {g : Nat} (hg : (g : Int) < n) (hz : T.length = z) (hs : ¬ (nthD (rF n sz (x : Nat) (j : Nat) k) g).asProp) : tlC n sz (x : Nat) (j : Nat) k T g z := by
 have h64 := h.h64
 subst hz
 have tk : lessP (rB n sz (x : Nat) (j : Nat) k T g) (rMo n sz (x : Nat) (g : Nat) T T.length) (rL n sz (x : Nat) (j : Nat) k T g) (rSu n sz (x : Nat) (g : Nat) T T.length) (rS n sz (x : Nat) (j : Nat) k T g) → tkC n sz (x : Nat) (j : Nat) k T g T.length := fun hl => by
  obtain ⟨a, b, c⟩ := nx_b (q := rM n sz (x : Nat)) (T := T) hs hl
  exact ⟨⟨by omega, by omega⟩, g + 1, (by omega : g + 1 ≤ n.toNat), by omega, ⟨by omega, a, b, c, trivial⟩, trivial⟩
 have kp : ¬ lessP (rB n sz (x : Nat) (j : Nat) k T g) (rMo n sz (x : Nat) (g : Nat) T T.length) (rL n sz (x : Nat) (j : Nat) k T g) (rSu n sz (x : Nat) (g : Nat) T T.length) (rS n sz (x : Nat) (j : Nat) k T g) → kpC n sz (x : Nat) (j : Nat) k T g := fun hl => by
  obtain ⟨a, b, c⟩ := nx_c (q := rM n sz (x : Nat)) (T := T) hs hl
  exact ⟨⟨by omega, by omega⟩, g + 1, (by omega : g + 1 ≤ n.toNat), by omega, ⟨by omega, a, b, c, trivial⟩, trivial⟩
 exact ⟨fun hb => ⟨fun hm => ⟨fun he => ⟨fun hu => tk ⟨.inr (.inr ⟨he, hu⟩)⟩, fun hu => kp fun ⟨q⟩ => q.elim hb fun q => q.elim hm fun q => hu q.2⟩, fun he => kp fun ⟨q⟩ => q.elim hb fun q => q.elim hm fun q => he q.1⟩, fun hm => tk ⟨.inr (.inl hm)⟩⟩, fun hb => tk ⟨.inl hb⟩⟩
structure bfP (n : Int) (sz : D) (x j k g i : Nat) : Prop where
 v : ∃ v : Nat, (v : Int) < n ∧ v ≠ g ∧ nthD (rG n sz (x : Nat) (j : Nat) k) i = .int (v : Nat)
 lt : i < k
 k64 : k ≤ 64
 gn : (g : Int) < n
 hj : j < sz.len
 hk : (k : Int) ≤ nAt sz j
theorem bf_ok (h : psC n sz x) {j k g : Nat} (hj : j < sz.len) (hk : (k : Int) ≤ nAt sz j) (hg : (g : Int) < n) (hs : ¬ (nthD (rF n sz (x : Nat) (j : Nat) k) g).asProp) (i : Nat) (hi : i < k) : bfP n sz x j k g i := by
 have h64 := h.h64
 have hn := h.hN
 have hl := rG_len h hj hk
 have hm : nthD (rG n sz (x : Nat) (j : Nat) k) i ∈ rG n sz (x : Nat) (j : Nat) k := nthD_mem (by omega)
 obtain ⟨v, hv, e⟩ := (h.fl hj hk).1.rng _ (List.mem_append_right _ hm)
 have := fit_le h.fit hj
 have := (fit_sum h.fit (Nat.le_of_lt hj)).1
 refine ⟨⟨v, by omega, fun e2 => hs ((seatQ h hj hk g hg).2 (.inr ⟨i, by show i < (rG n sz (x : Nat) (j : Nat) k).length; omega, ?_⟩)), e⟩, hi, by omega, hg, hj, hk⟩
 show (nthD (rG n sz (x : Nat) (j : Nat) k) i).asInt = _
 rw [e, e2]; rfl
theorem rM_at (h : psC n sz x) {g v : Nat} (hg : (g : Int) < n) (hv : (v : Int) < n) : nAt (.list (nthD (rM n sz (x : Nat)) g).asList) v = mtS (.list (pnL n.toNat sz x)) x g v := by
 have hn := h.hN
 have hq := (pm_sq h.h1 h.h64 h.fit h.hx).eq
 show (nthD (nthD (pmQ n.toNat sz x) g).asList v).asInt = _
 rw [hq, sqD_at _ (by omega)]
 show (nthD (rowF _ _ g) v).asInt = _
 rw [rowF_at _ _ (by omega)]; rfl
abbrev bfW (n : Int) (sz : D) (x j k g i : Nat) (w : Int) : Prop :=
  ((-9223372036854775808 : Int) ≤ rSu n sz (x : Nat) (g : Nat) (rG n sz (x : Nat) (j : Nat) k) i + w ∧ rSu n sz (x : Nat) (g : Nat) (rG n sz (x : Nat) (j : Nat) k) i + w < 9223372036854775808) ∧
  max (rMo n sz (x : Nat) (g : Nat) (rG n sz (x : Nat) (j : Nat) k) i) w = rMo n sz (x : Nat) (g : Nat) (rG n sz (x : Nat) (j : Nat) k) (i + 1) ∧
  rSu n sz (x : Nat) (g : Nat) (rG n sz (x : Nat) (j : Nat) k) i + w = rSu n sz (x : Nat) (g : Nat) (rG n sz (x : Nat) (j : Nat) k) (i + 1)
theorem bf_all (h : psC n sz x) {j k g i : Nat} {w : Int} (hb : bfP n sz x j k g i) (hw : ∀ v : Nat, (v : Int) < n → v ≠ g → nthD (rG n sz (x : Nat) (j : Nat) k) i = .int (v : Nat) → w = mtS (.list (pnL n.toNat sz x)) x g v) : bfW n sz x j k g i w := by
 obtain ⟨v, hv, hne, e⟩ := hb.v
 have hw := hw v hv hne e
 have hr := rM_at h hb.gn hv
 have e2 : (nthD (rG n sz (x : Nat) (j : Nat) k) i).asInt.toNat = v := by rw [e]; rfl
 have e3 : nAt (.list (nthD (rM n sz (x : Nat)) g).asList) (nthD (rG n sz (x : Nat) (j : Nat) k) i).asInt.toNat = w := by rw [e2, hr, hw]
 have s1 : rSu n sz (x : Nat) (g : Nat) (rG n sz (x : Nat) (j : Nat) k) (i + 1) = rSu n sz (x : Nat) (g : Nat) (rG n sz (x : Nat) (j : Nat) k) i + w := by
  show suP _ _ i + nAt (.list (nthD (rM n sz (x : Nat)) g).asList) (nthD (rG n sz (x : Nat) (j : Nat) k) i).asInt.toNat = _
  rw [e3]; rfl
 have s2 : rMo n sz (x : Nat) (g : Nat) (rG n sz (x : Nat) (j : Nat) k) (i + 1) = max (rMo n sz (x : Nat) (g : Nat) (rG n sz (x : Nat) (j : Nat) k) i) w := by
  show max (moP _ _ i) (nAt (.list (nthD (rM n sz (x : Nat)) g).asList) (nthD (rG n sz (x : Nat) (j : Nat) k) i).asInt.toNat) = _
  rw [e3]; rfl
 have hno := (fi_nx h.fi (j := j) (x := k) hb.hj hb.hk).2.2
 have hl := rG_len h hb.hj hb.hk
 have hn := h.hN
 have hk0 := hb.lt
 have hgn := hb.gn
 have hT : listD (flG (pmQ n.toNat sz x) (ftS (pmQ n.toNat sz x) sz j) k) = .list (rG n sz (x : Nat) (j : Nat) k) := listD_cons_of (by show 0 < (rG n sz (x : Nat) (j : Nat) k).length; omega)
 have hsu := su_rng hno (x := g) (by show g < (pmQ n.toNat sz x).length; rw [pmQ_len]; omega) (i + 1) (by rw [hT]; show i + 1 ≤ (rG n sz (x : Nat) (j : Nat) k).length; omega)
 rw [hT] at hsu
 have hsu : 0 ≤ rSu n sz (x : Nat) (g : Nat) (rG n sz (x : Nat) (j : Nat) k) (i + 1) ∧ rSu n sz (x : Nat) (g : Nat) (rG n sz (x : Nat) (j : Nat) k) (i + 1) ≤ 1000000000000 * ((i + 1 : Nat) : Int) := hsu
 have h64 := hb.k64
 rw [s1] at hsu
 unfold bfW
 rw [s1, s2]
 exact ⟨⟨by omega, by omega⟩, rfl, rfl⟩
theorem bf_nil (h : psC n sz x) (h0 : x = 0) {j k g i : Nat} (hb : bfP n sz x j k g i) : bfW n sz x j k g i ((rtS D.nil (g : Nat) (nthD (rG n sz (x : Nat) (j : Nat) k) i).asInt 0).length : Nat) := bf_all h hb fun v _ _ _ => by
 subst h0; rfl
theorem bf_list (h : psC n sz x) {j k g i : Nat} (hb : bfP n sz x j k g i) : bfW n sz x j k g i ((rtS (.list (rP n sz x)) (g : Nat) (nthD (rG n sz (x : Nat) (j : Nat) k) i).asInt (rP n sz x).length).length : Nat) := bf_all h hb fun v hv hne e => by
 have hl := rP_len n sz x
 have hg := h.good
 rw [e, hl]
 have h1 := rt_tog hg (a := (g : Int)) (b := (v : Int)) (by omega) x (by show x ≤ (pnL n.toNat sz x).length; rw [pnL_len]; exact Nat.le_refl _)
 have h2 := tog_len hg (a := g) (b := v) (by omega) hb.gn hv x (by show x ≤ (pnL n.toNat sz x).length; rw [pnL_len]; exact Nat.le_refl _)
 show ((rtS (.list (pnL n.toNat sz x)) (g : Nat) (v : Int) x).length : Int) = _
 rw [h1]; exact h2
theorem rG_next (hc : psC n sz x) {j k : Nat} : rG n sz (x : Nat) (j : Nat) k ++ [D.int (rB n sz (x : Nat) (j : Nat) k (rG n sz (x : Nat) (j : Nat) k) n.toNat)] = rG n sz (x : Nat) (j : Nat) (k + 1) := by
 show _ = flG _ _ k ++ [.int (nxB _ (flS _ _ k) (flG _ _ k) (rM n sz (x : Nat)).length)]
 rw [show (rM n sz (x : Nat)).length = n.toNat from pmQ_len _ _ _]; rfl
theorem kN (hc : psC n sz x) {j : Nat} (hj : j < sz.len) : nAt sz j ≤ 64 := by
 have := fit_le hc.fit hj
 have := (fit_sum hc.fit (Nat.le_of_lt hj)).1
 have := hc.h64
 omega
theorem hasT_nn (n : Int) (sz : D) (e j : Int) (g : Nat) : hasT (.list (rG n sz e j 0)) g ↔ hasT D.nil g := ⟨fun h => hasT_cnt.2 (show 0 < cntF [] (g : Int) from hasT_cnt.1 h), fun h => hasT_cnt.2 (show 0 < cntF [] (g : Int) from hasT_cnt.1 h)⟩
end
theorem s33b (s : D) (a b : Int) (h : bigP s) : symFun (ctx bf1 noAnn) 4 33 [.dat 25 s, .int .i64 a, .int .i64 b] (.int .i64 ((rtS s a b s.len).length : Nat)) := by
 rw [vc33b]; exact ⟨h, by rw [listD_len]⟩
theorem s8r (n e : Int) (sz : D) (hz : sz.len ≤ 16777216) : symFun (ctxj rp1 prAnn2 prJoin) 4 8 [.int .i64 n, .dat 22 sz, .int .i64 e] (.tup [.dat 25 (refD n sz e), .int .i64 (planX n sz e)]) := by
 have x90 : ¬ ((1 ≤ n ∧ n ≤ 64) ∧ fitP n sz) → D.nil = refD n sz e ∧ (90 : Int) = planX n sz e ∧ True := fun h => by
  unfold refD planX
  rw [if_neg (fun k => h k.1), if_pos h]; exact ⟨rfl, rfl, trivial⟩
 have x2 : ((1 ≤ n ∧ n ≤ 64) ∧ fitP n sz) → ¬ (0 ≤ e ∧ e ≤ 64) → D.nil = refD n sz e ∧ (2 : Int) = planX n sz e ∧ True := fun h h2 => by
  unfold refD planX
  rw [if_neg (fun k => h2 k.2), if_neg (fun k => k h), if_pos h2]; exact ⟨rfl, rfl, trivial⟩
 rw [vc8r]
 refine ⟨hz, fun hk => x90 fun k => hk ⟨k.1.1, k.1.2, k.2⟩, fun hk => ?_⟩
 have hk := Classical.not_not.1 hk
 have h1 := hk.n1
 have h64 := hk.n2
 have hf := hk.fit
 have hok : (1 ≤ n ∧ n ≤ 64) ∧ fitP n sz := ⟨⟨h1, h64⟩, hf⟩
 refine ⟨fun he0 => ⟨fun he => x2 hok fun k => by omega, fun he => ?_⟩, fun he0 => x2 hok fun k => by omega⟩
 have he0 := not_of he0
 have he := not_of he
 have hN : ((n.toNat : Nat) : Int) = n := toN h1
 have hs0 := fit_pos h1 hf
 have hsn : sz.len ≤ 64 := by have := (fit_sum hf (Nat.le_refl sz.len)).1; have := (fit_sum hf (Nat.le_refl sz.len)).2; omega
 have hd : refD n sz e = listD (pnL n.toNat sz e.toNat) := by unfold refD; rw [if_pos ⟨hok, by omega, by omega⟩]
 have hx0 : planX n sz e = 0 := by unfold planX; rw [if_neg (fun k => k hok), if_neg (fun k => k ⟨by omega, by omega⟩)]
 refine ⟨.inl ⟨0, rfl, ⟨rfl, trivial, trivial⟩, trivial⟩, fun x h0 => ⟨limS (by omega), fun hlt => ⟨?_, fun _ _ => ?_⟩, fun hlt => ?_⟩, fun x ⟨hxp, hx⟩ => ⟨limS (by omega), fun hlt => ⟨?_, fun _ _ => ?_⟩, fun hlt => ?_⟩⟩
 ·have hc : psC n sz x := ⟨h1, h64, hf, by omega⟩
  refine ⟨.inl ⟨0, rfl, ⟨rfl, trivial, trivial⟩, trivial⟩, fun j hj0 => ⟨limS (by omega), fun hjl => ⟨?_, fun _ _ => ?_⟩, fun hjl => (hjl (by omega)).elim⟩, fun j ⟨hjp, hjle⟩ => ⟨limS (by omega), fun hjl => ⟨?_, fun _ _ => ?_⟩, fun hjl => ?_⟩⟩
  ·have hjz : j = 0 := hj0
   have hj : j < sz.len := by omega
   have hj2 : (j : Int) < (sz.len : Int) := by omega
   have hk1 := one_pos hf hj
   have hkn := kN hc hj
   refine ⟨.inl ⟨0, rfl, ⟨trivial, trivial⟩, trivial⟩, fun k hk0 => ⟨limS (by omega), by omega, hj2, fun hlt => ⟨?_, fun _ _ => ?_⟩, fun hlt => (hlt (by omega)).elim⟩, fun k ⟨hkp, hk⟩ => ⟨limS (by omega), by omega, hj2, fun hlt => ⟨?_, fun _ _ => ?_⟩, fun hlt => ?_⟩⟩
   ·subst hk0
    have hQ : ∀ g : Nat, (g : Int) < n → ((nthD (rF n sz (x : Nat) (j : Nat) 0) g).asProp ↔ 0 < cntF (flatL D.nil 0) g ∨ hasT D.nil g) := fun g hg => by
     have q := seatQ hc (j := j) (k := 0) hj (by omega) g hg
     rw [show flt (ftT (pmQ n.toNat sz x) sz j) = flatL D.nil 0 from by rw [hjz]; rfl] at q
     rw [show hasT (.list (rG n sz (x : Nat) (j : Nat) 0)) (g : Nat) = hasT D.nil (g : Nat) from propext (hasT_nn n sz _ _ g)] at q
     exact q
    have hT : (rG n sz (x : Nat) (j : Nat) 0).length = 0 := (rG_len hc (j := j) (k := 0) hj (by omega))
    refine ⟨⟨0, Nat.zero_le _, ⟨rfl, rfl, rfl, rfl, trivial⟩, trivial⟩, fun g (hg : g ≤ n.toNat) => ⟨limS (by omega), fun hgn => ⟨⟨Nat.zero_le _, fun i hi => absurd hi (Nat.not_lt_zero _)⟩, fun hc0 => ⟨Nat.zero_le _, fun ht => kp_ok hc (by omega) ((hQ g (by omega)).2 (Or.inr ht)), fun ht => ⟨⟨0, Nat.zero_le _, ⟨rfl, rfl, rfl, trivial⟩, trivial⟩, fun i hi => ?_⟩⟩, fun hc1 => kp_ok hc (by omega) ((hQ g (by omega)).2 (Or.inl hc1))⟩, fun hgn => ⟨(), trivial, ⟨by rw [show g = n.toNat by have := not_of hgn; omega], trivial⟩, trivial⟩⟩⟩
    have hns : ¬ (nthD (rF n sz (x : Nat) (j : Nat) 0) g).asProp := fun h => ((hQ g (by omega)).1 h).elim hc0 ht
    have hi : i ≤ 0 := hi
    obtain rfl : i = 0 := by omega
    exact ⟨limS (by omega), fun h => absurd h (by decide), fun _ => tl_ok hc (by omega) rfl hns⟩
   ·subst hk0
    exact ⟨Nat.le_refl _, by decide, .inr ⟨1, ⟨by decide, by omega⟩, by omega, ⟨⟨rfl, rfl, trivial⟩, trivial⟩, rG_next hc (j := j) (k := 0), trivial⟩⟩
   ·have hQ : ∀ g : Nat, (g : Int) < n → ((nthD (rF n sz (x : Nat) (j : Nat) k) g).asProp ↔ 0 < cntF (flatL D.nil 0) g ∨ hasT (.list (rG n sz (x : Nat) (j : Nat) k)) g) := fun g hg => by
     have q := seatQ hc (j := j) (k := k) hj (by omega) g hg
     rw [show flt (ftT (pmQ n.toNat sz x) sz j) = flatL D.nil 0 from by rw [hjz]; rfl] at q
     exact q
    have hT : (rG n sz (x : Nat) (j : Nat) k).length = k := (rG_len hc (j := j) (k := k) hj (by omega))
    rw [tk hT]
    refine ⟨⟨0, Nat.zero_le _, ⟨rfl, rfl, rfl, rfl, trivial⟩, trivial⟩, fun g (hg : g ≤ n.toNat) => ⟨limS (by omega), fun hgn => ⟨⟨Nat.zero_le _, fun i hi => absurd hi (Nat.not_lt_zero _)⟩, fun hc0 => ⟨by omega, by omega, fun ht => kp_ok hc (by omega) ((hQ g (by omega)).2 (Or.inr ht)), fun ht => ⟨⟨0, Nat.zero_le _, ⟨rfl, rfl, rfl, trivial⟩, trivial⟩, fun i hi => ?_⟩⟩, fun hc1 => kp_ok hc (by omega) ((hQ g (by omega)).2 (Or.inl hc1))⟩, fun hgn => ⟨(), trivial, ⟨by rw [show g = n.toNat by have := not_of hgn; omega], trivial⟩, trivial⟩⟩⟩
    have hns : ¬ (nthD (rF n sz (x : Nat) (j : Nat) k) g).asProp := fun h => ((hQ g (by omega)).1 h).elim hc0 ht
    have hi : i ≤ k := hi
    refine ⟨limS (by omega), fun hlt => ?_, fun hge => by have := not_of hge; obtain rfl : i = k := (by omega); exact tl_ok hc (by omega) hT hns⟩
    have hb := bf_ok hc (j := j) (k := k) hj (by omega) (by omega) hns i (by omega)
    have hb2 := bf_nil hc h0 hb
    exact ⟨by omega, hlt, by omega, ⟨Nat.zero_le _, fun i hi => absurd hi (Nat.not_lt_zero _)⟩, hb2.1, ⟨by omega, by omega⟩, i + 1, (by omega : i + 1 ≤ k), by omega, ⟨by omega, hb2.2.1, hb2.2.2, trivial⟩, trivial⟩
   ·have hT := rG_len hc (j := j) (k := k) hj (by omega)
    rw [tk hT]
    exact ⟨Nat.le_refl _, by omega, by omega, .inr ⟨k + 1, ⟨by omega, by omega⟩, by omega, ⟨⟨rfl, rfl, trivial⟩, trivial⟩, rG_next hc (j := j) (k := k), trivial⟩⟩
   ·have := not_of hlt
    obtain rfl : k = (nAt sz j).toNat := by omega
    exact ⟨(), trivial, ⟨⟨rfl, rfl, trivial⟩, trivial⟩, rfl, trivial⟩
  ·subst hj0
   have hj : 0 < sz.len := hs0
   have hk1 := one_pos hf hj
   have hG := rG_len hc (j := 0) (k := (nAt sz 0).toNat) hj (by omega)
   rw [tk hG]
   exact ⟨by omega, Nat.le_refl _, by decide, ⟨by decide, by decide⟩, .inr ⟨1, ⟨by decide, by omega⟩, by omega, ⟨rfl, ⟨rfl, rfl, trivial⟩, trivial⟩, rfl, trivial⟩⟩
  ·have hj : j < sz.len := by omega
   have hj2 : (j : Int) < (sz.len : Int) := by omega
   have hk1 := one_pos hf hj
   have hkn := kN hc hj
   refine ⟨.inl ⟨0, rfl, ⟨trivial, trivial⟩, trivial⟩, fun k hk0 => ⟨limS (by omega), by omega, hj2, fun hlt => ⟨?_, fun _ _ => ?_⟩, fun hlt => (hlt (by omega)).elim⟩, fun k ⟨hkp, hk⟩ => ⟨limS (by omega), by omega, hj2, fun hlt => ⟨?_, fun _ _ => ?_⟩, fun hlt => ?_⟩⟩
   ·subst hk0
    have hQ : ∀ g : Nat, (g : Int) < n → ((nthD (rF n sz (x : Nat) (j : Nat) 0) g).asProp ↔ 0 < cntF (flt (ftT (pmQ n.toNat sz x) sz j)) g ∨ hasT D.nil g) := fun g hg => by
     have q := seatQ hc (j := j) (k := 0) hj (by omega) g hg
     rw [show hasT (.list (rG n sz (x : Nat) (j : Nat) 0)) (g : Nat) = hasT D.nil (g : Nat) from propext (hasT_nn n sz _ _ g)] at q
     exact q
    have hT : (rG n sz (x : Nat) (j : Nat) 0).length = 0 := (rG_len hc (j := j) (k := 0) hj (by omega))
    have hTE := rT_len hc (j := j) (by omega)
    rw [tk hTE, flTe hc (j := j) (by omega)]
    refine ⟨⟨0, Nat.zero_le _, ⟨rfl, rfl, rfl, rfl, trivial⟩, trivial⟩, fun g (hg : g ≤ n.toNat) => ⟨limS (by omega), fun hgn => ⟨by omega, smEv hc (j := j) (by omega), fun hc0 => ⟨Nat.zero_le _, fun ht => kp_ok hc (by omega) ((hQ g (by omega)).2 (Or.inr ht)), fun ht => ⟨⟨0, Nat.zero_le _, ⟨rfl, rfl, rfl, trivial⟩, trivial⟩, fun i hi => ?_⟩⟩, fun hc1 => kp_ok hc (by omega) ((hQ g (by omega)).2 (Or.inl hc1))⟩, fun hgn => ⟨(), trivial, ⟨by rw [show g = n.toNat by have := not_of hgn; omega], trivial⟩, trivial⟩⟩⟩
    have hns : ¬ (nthD (rF n sz (x : Nat) (j : Nat) 0) g).asProp := fun h => ((hQ g (by omega)).1 h).elim hc0 ht
    have hi : i ≤ 0 := hi
    obtain rfl : i = 0 := by omega
    exact ⟨limS (by omega), fun h => absurd h (by decide), fun _ => tl_ok hc (by omega) rfl hns⟩
   ·subst hk0
    exact ⟨Nat.le_refl _, by decide, .inr ⟨1, ⟨by decide, by omega⟩, by omega, ⟨⟨rfl, rfl, trivial⟩, trivial⟩, rG_next hc (j := j) (k := 0), trivial⟩⟩
   ·have hQ : ∀ g : Nat, (g : Int) < n → ((nthD (rF n sz (x : Nat) (j : Nat) k) g).asProp ↔ 0 < cntF (flt (ftT (pmQ n.toNat sz x) sz j)) g ∨ hasT (.list (rG n sz (x : Nat) (j : Nat) k)) g) := fun g hg => by
     have q := seatQ hc (j := j) (k := k) hj (by omega) g hg
     exact q
    have hT : (rG n sz (x : Nat) (j : Nat) k).length = k := (rG_len hc (j := j) (k := k) hj (by omega))
    have hTE := rT_len hc (j := j) (by omega)
    rw [tk hTE, flTe hc (j := j) (by omega), tk hT]
    refine ⟨⟨0, Nat.zero_le _, ⟨rfl, rfl, rfl, rfl, trivial⟩, trivial⟩, fun g (hg : g ≤ n.toNat) => ⟨limS (by omega), fun hgn => ⟨by omega, smEv hc (j := j) (by omega), fun hc0 => ⟨by omega, by omega, fun ht => kp_ok hc (by omega) ((hQ g (by omega)).2 (Or.inr ht)), fun ht => ⟨⟨0, Nat.zero_le _, ⟨rfl, rfl, rfl, trivial⟩, trivial⟩, fun i hi => ?_⟩⟩, fun hc1 => kp_ok hc (by omega) ((hQ g (by omega)).2 (Or.inl hc1))⟩, fun hgn => ⟨(), trivial, ⟨by rw [show g = n.toNat by have := not_of hgn; omega], trivial⟩, trivial⟩⟩⟩
    have hns : ¬ (nthD (rF n sz (x : Nat) (j : Nat) k) g).asProp := fun h => ((hQ g (by omega)).1 h).elim hc0 ht
    have hi : i ≤ k := hi
    refine ⟨limS (by omega), fun hlt => ?_, fun hge => by have := not_of hge; obtain rfl : i = k := (by omega); exact tl_ok hc (by omega) hT hns⟩
    have hb := bf_ok hc (j := j) (k := k) hj (by omega) (by omega) hns i (by omega)
    have hb2 := bf_nil hc h0 hb
    exact ⟨by omega, hlt, by omega, ⟨Nat.zero_le _, fun i hi => absurd hi (Nat.not_lt_zero _)⟩, hb2.1, ⟨by omega, by omega⟩, i + 1, (by omega : i + 1 ≤ k), by omega, ⟨by omega, hb2.2.1, hb2.2.2, trivial⟩, trivial⟩
   ·have hT := rG_len hc (j := j) (k := k) hj (by omega)
    rw [tk hT]
    exact ⟨Nat.le_refl _, by omega, by omega, .inr ⟨k + 1, ⟨by omega, by omega⟩, by omega, ⟨⟨rfl, rfl, trivial⟩, trivial⟩, rG_next hc (j := j) (k := k), trivial⟩⟩
   ·have := not_of hlt
    obtain rfl : k = (nAt sz j).toNat := by omega
    exact ⟨(), trivial, ⟨⟨rfl, rfl, trivial⟩, trivial⟩, rfl, trivial⟩
  ·have hj : j < sz.len := by omega
   have hk1 := one_pos hf hj
   have hG := rG_len hc (j := j) (k := (nAt sz j).toNat) hj (by omega)
   rw [tk hG]
   have hTE := rT_len hc (j := j) (by omega)
   rw [tk hTE]
   exact ⟨by omega, Nat.le_refl _, by omega, by omega, ⟨by omega, by omega⟩, .inr ⟨j + 1, ⟨by omega, by omega⟩, by omega, ⟨by omega, ⟨rfl, rfl, trivial⟩, trivial⟩, rfl, trivial⟩⟩
  ·have := not_of hjl
   obtain rfl : j = sz.len := by omega
   exact ⟨(), trivial, ⟨⟨rfl, rfl, trivial⟩, trivial⟩, rfl, trivial⟩
 ·subst h0
  have hc : psC n sz 0 := ⟨h1, h64, hf, by omega⟩
  have hTE := rT_len hc (Nat.le_refl sz.len)
  rw [tk hTE]
  exact ⟨by omega, Nat.le_refl _, by decide, ⟨by decide, by decide⟩, .inr ⟨1, ⟨by decide, by omega⟩, by omega, ⟨rfl, ⟨rfl, rfl, trivial⟩, trivial⟩, rfl, trivial⟩⟩
 ·have := not_of hlt
  obtain rfl : e = 0 := by omega
  rw [hd, hx0]; exact ⟨rfl, rfl, trivial⟩
 ·have hc : psC n sz x := ⟨h1, h64, hf, by omega⟩
  refine ⟨.inl ⟨0, rfl, ⟨rfl, trivial, trivial⟩, trivial⟩, fun j hj0 => ⟨limS (by omega), fun hjl => ⟨?_, fun _ _ => ?_⟩, fun hjl => (hjl (by omega)).elim⟩, fun j ⟨hjp, hjle⟩ => ⟨limS (by omega), fun hjl => ⟨?_, fun _ _ => ?_⟩, fun hjl => ?_⟩⟩
  ·have hjz : j = 0 := hj0
   have hj : j < sz.len := by omega
   have hj2 : (j : Int) < (sz.len : Int) := by omega
   have hk1 := one_pos hf hj
   have hkn := kN hc hj
   refine ⟨.inl ⟨0, rfl, ⟨trivial, trivial⟩, trivial⟩, fun k hk0 => ⟨limS (by omega), by omega, hj2, fun hlt => ⟨?_, fun _ _ => ?_⟩, fun hlt => (hlt (by omega)).elim⟩, fun k ⟨hkp, hk⟩ => ⟨limS (by omega), by omega, hj2, fun hlt => ⟨?_, fun _ _ => ?_⟩, fun hlt => ?_⟩⟩
   ·subst hk0
    have hQ : ∀ g : Nat, (g : Int) < n → ((nthD (rF n sz (x : Nat) (j : Nat) 0) g).asProp ↔ 0 < cntF (flatL D.nil 0) g ∨ hasT D.nil g) := fun g hg => by
     have q := seatQ hc (j := j) (k := 0) hj (by omega) g hg
     rw [show flt (ftT (pmQ n.toNat sz x) sz j) = flatL D.nil 0 from by rw [hjz]; rfl] at q
     rw [show hasT (.list (rG n sz (x : Nat) (j : Nat) 0)) (g : Nat) = hasT D.nil (g : Nat) from propext (hasT_nn n sz _ _ g)] at q
     exact q
    have hT : (rG n sz (x : Nat) (j : Nat) 0).length = 0 := (rG_len hc (j := j) (k := 0) hj (by omega))
    refine ⟨⟨0, Nat.zero_le _, ⟨rfl, rfl, rfl, rfl, trivial⟩, trivial⟩, fun g (hg : g ≤ n.toNat) => ⟨limS (by omega), fun hgn => ⟨⟨Nat.zero_le _, fun i hi => absurd hi (Nat.not_lt_zero _)⟩, fun hc0 => ⟨Nat.zero_le _, fun ht => kp_ok hc (by omega) ((hQ g (by omega)).2 (Or.inr ht)), fun ht => ⟨⟨0, Nat.zero_le _, ⟨rfl, rfl, rfl, trivial⟩, trivial⟩, fun i hi => ?_⟩⟩, fun hc1 => kp_ok hc (by omega) ((hQ g (by omega)).2 (Or.inl hc1))⟩, fun hgn => ⟨(), trivial, ⟨by rw [show g = n.toNat by have := not_of hgn; omega], trivial⟩, trivial⟩⟩⟩
    have hns : ¬ (nthD (rF n sz (x : Nat) (j : Nat) 0) g).asProp := fun h => ((hQ g (by omega)).1 h).elim hc0 ht
    have hi : i ≤ 0 := hi
    obtain rfl : i = 0 := by omega
    exact ⟨limS (by omega), fun h => absurd h (by decide), fun _ => tl_ok hc (by omega) rfl hns⟩
   ·subst hk0
    exact ⟨Nat.le_refl _, by decide, .inr ⟨1, ⟨by decide, by omega⟩, by omega, ⟨⟨rfl, rfl, trivial⟩, trivial⟩, rG_next hc (j := j) (k := 0), trivial⟩⟩
   ·have hQ : ∀ g : Nat, (g : Int) < n → ((nthD (rF n sz (x : Nat) (j : Nat) k) g).asProp ↔ 0 < cntF (flatL D.nil 0) g ∨ hasT (.list (rG n sz (x : Nat) (j : Nat) k)) g) := fun g hg => by
     have q := seatQ hc (j := j) (k := k) hj (by omega) g hg
     rw [show flt (ftT (pmQ n.toNat sz x) sz j) = flatL D.nil 0 from by rw [hjz]; rfl] at q
     exact q
    have hT : (rG n sz (x : Nat) (j : Nat) k).length = k := (rG_len hc (j := j) (k := k) hj (by omega))
    rw [tk hT, tk (rP_len n sz x)]
    refine ⟨⟨0, Nat.zero_le _, ⟨rfl, rfl, rfl, rfl, trivial⟩, trivial⟩, fun g (hg : g ≤ n.toNat) => ⟨limS (by omega), fun hgn => ⟨⟨Nat.zero_le _, fun i hi => absurd hi (Nat.not_lt_zero _)⟩, fun hc0 => ⟨by omega, by omega, fun ht => kp_ok hc (by omega) ((hQ g (by omega)).2 (Or.inr ht)), fun ht => ⟨⟨0, Nat.zero_le _, ⟨rfl, rfl, rfl, trivial⟩, trivial⟩, fun i hi => ?_⟩⟩, fun hc1 => kp_ok hc (by omega) ((hQ g (by omega)).2 (Or.inl hc1))⟩, fun hgn => ⟨(), trivial, ⟨by rw [show g = n.toNat by have := not_of hgn; omega], trivial⟩, trivial⟩⟩⟩
    have hns : ¬ (nthD (rF n sz (x : Nat) (j : Nat) k) g).asProp := fun h => ((hQ g (by omega)).1 h).elim hc0 ht
    have hi : i ≤ k := hi
    refine ⟨limS (by omega), fun hlt => ?_, fun hge => by have := not_of hge; obtain rfl : i = k := (by omega); exact tl_ok hc (by omega) hT hns⟩
    have hb := bf_ok hc (j := j) (k := k) hj (by omega) (by omega) hns i (by omega)
    have hb2 := bf_list hc hb
    exact ⟨by omega, hlt, by omega, by have := rP_len n sz x; omega, hc.good.big, hb2.1, ⟨by omega, by omega⟩, i + 1, (by omega : i + 1 ≤ k), by omega, ⟨by omega, hb2.2.1, hb2.2.2, trivial⟩, trivial⟩
   ·have hT := rG_len hc (j := j) (k := k) hj (by omega)
    rw [tk hT]
    exact ⟨Nat.le_refl _, by omega, by omega, .inr ⟨k + 1, ⟨by omega, by omega⟩, by omega, ⟨⟨rfl, rfl, trivial⟩, trivial⟩, rG_next hc (j := j) (k := k), trivial⟩⟩
   ·have := not_of hlt
    obtain rfl : k = (nAt sz j).toNat := by omega
    exact ⟨(), trivial, ⟨⟨rfl, rfl, trivial⟩, trivial⟩, rfl, trivial⟩
  ·subst hj0
   have hj : 0 < sz.len := hs0
   have hk1 := one_pos hf hj
   have hG := rG_len hc (j := 0) (k := (nAt sz 0).toNat) hj (by omega)
   rw [tk hG]
   exact ⟨by omega, Nat.le_refl _, by decide, ⟨by decide, by decide⟩, .inr ⟨1, ⟨by decide, by omega⟩, by omega, ⟨rfl, ⟨rfl, rfl, trivial⟩, trivial⟩, rfl, trivial⟩⟩
  ·have hj : j < sz.len := by omega
   have hj2 : (j : Int) < (sz.len : Int) := by omega
   have hk1 := one_pos hf hj
   have hkn := kN hc hj
   refine ⟨.inl ⟨0, rfl, ⟨trivial, trivial⟩, trivial⟩, fun k hk0 => ⟨limS (by omega), by omega, hj2, fun hlt => ⟨?_, fun _ _ => ?_⟩, fun hlt => (hlt (by omega)).elim⟩, fun k ⟨hkp, hk⟩ => ⟨limS (by omega), by omega, hj2, fun hlt => ⟨?_, fun _ _ => ?_⟩, fun hlt => ?_⟩⟩
   ·subst hk0
    have hQ : ∀ g : Nat, (g : Int) < n → ((nthD (rF n sz (x : Nat) (j : Nat) 0) g).asProp ↔ 0 < cntF (flt (ftT (pmQ n.toNat sz x) sz j)) g ∨ hasT D.nil g) := fun g hg => by
     have q := seatQ hc (j := j) (k := 0) hj (by omega) g hg
     rw [show hasT (.list (rG n sz (x : Nat) (j : Nat) 0)) (g : Nat) = hasT D.nil (g : Nat) from propext (hasT_nn n sz _ _ g)] at q
     exact q
    have hT : (rG n sz (x : Nat) (j : Nat) 0).length = 0 := (rG_len hc (j := j) (k := 0) hj (by omega))
    have hTE := rT_len hc (j := j) (by omega)
    rw [tk hTE, flTe hc (j := j) (by omega)]
    refine ⟨⟨0, Nat.zero_le _, ⟨rfl, rfl, rfl, rfl, trivial⟩, trivial⟩, fun g (hg : g ≤ n.toNat) => ⟨limS (by omega), fun hgn => ⟨by omega, smEv hc (j := j) (by omega), fun hc0 => ⟨Nat.zero_le _, fun ht => kp_ok hc (by omega) ((hQ g (by omega)).2 (Or.inr ht)), fun ht => ⟨⟨0, Nat.zero_le _, ⟨rfl, rfl, rfl, trivial⟩, trivial⟩, fun i hi => ?_⟩⟩, fun hc1 => kp_ok hc (by omega) ((hQ g (by omega)).2 (Or.inl hc1))⟩, fun hgn => ⟨(), trivial, ⟨by rw [show g = n.toNat by have := not_of hgn; omega], trivial⟩, trivial⟩⟩⟩
    have hns : ¬ (nthD (rF n sz (x : Nat) (j : Nat) 0) g).asProp := fun h => ((hQ g (by omega)).1 h).elim hc0 ht
    have hi : i ≤ 0 := hi
    obtain rfl : i = 0 := by omega
    exact ⟨limS (by omega), fun h => absurd h (by decide), fun _ => tl_ok hc (by omega) rfl hns⟩
   ·subst hk0
    exact ⟨Nat.le_refl _, by decide, .inr ⟨1, ⟨by decide, by omega⟩, by omega, ⟨⟨rfl, rfl, trivial⟩, trivial⟩, rG_next hc (j := j) (k := 0), trivial⟩⟩
   ·have hQ : ∀ g : Nat, (g : Int) < n → ((nthD (rF n sz (x : Nat) (j : Nat) k) g).asProp ↔ 0 < cntF (flt (ftT (pmQ n.toNat sz x) sz j)) g ∨ hasT (.list (rG n sz (x : Nat) (j : Nat) k)) g) := fun g hg => by
     have q := seatQ hc (j := j) (k := k) hj (by omega) g hg
     exact q
    have hT : (rG n sz (x : Nat) (j : Nat) k).length = k := (rG_len hc (j := j) (k := k) hj (by omega))
    have hTE := rT_len hc (j := j) (by omega)
    rw [tk hTE, flTe hc (j := j) (by omega), tk hT, tk (rP_len n sz x)]
    refine ⟨⟨0, Nat.zero_le _, ⟨rfl, rfl, rfl, rfl, trivial⟩, trivial⟩, fun g (hg : g ≤ n.toNat) => ⟨limS (by omega), fun hgn => ⟨by omega, smEv hc (j := j) (by omega), fun hc0 => ⟨by omega, by omega, fun ht => kp_ok hc (by omega) ((hQ g (by omega)).2 (Or.inr ht)), fun ht => ⟨⟨0, Nat.zero_le _, ⟨rfl, rfl, rfl, trivial⟩, trivial⟩, fun i hi => ?_⟩⟩, fun hc1 => kp_ok hc (by omega) ((hQ g (by omega)).2 (Or.inl hc1))⟩, fun hgn => ⟨(), trivial, ⟨by rw [show g = n.toNat by have := not_of hgn; omega], trivial⟩, trivial⟩⟩⟩
    have hns : ¬ (nthD (rF n sz (x : Nat) (j : Nat) k) g).asProp := fun h => ((hQ g (by omega)).1 h).elim hc0 ht
    have hi : i ≤ k := hi
    refine ⟨limS (by omega), fun hlt => ?_, fun hge => by have := not_of hge; obtain rfl : i = k := (by omega); exact tl_ok hc (by omega) hT hns⟩
    have hb := bf_ok hc (j := j) (k := k) hj (by omega) (by omega) hns i (by omega)
    have hb2 := bf_list hc hb
    exact ⟨by omega, hlt, by omega, by have := rP_len n sz x; omega, hc.good.big, hb2.1, ⟨by omega, by omega⟩, i + 1, (by omega : i + 1 ≤ k), by omega, ⟨by omega, hb2.2.1, hb2.2.2, trivial⟩, trivial⟩
   ·have hT := rG_len hc (j := j) (k := k) hj (by omega)
    rw [tk hT]
    exact ⟨Nat.le_refl _, by omega, by omega, .inr ⟨k + 1, ⟨by omega, by omega⟩, by omega, ⟨⟨rfl, rfl, trivial⟩, trivial⟩, rG_next hc (j := j) (k := k), trivial⟩⟩
   ·have := not_of hlt
    obtain rfl : k = (nAt sz j).toNat := by omega
    exact ⟨(), trivial, ⟨⟨rfl, rfl, trivial⟩, trivial⟩, rfl, trivial⟩
  ·have hj : j < sz.len := by omega
   have hk1 := one_pos hf hj
   have hG := rG_len hc (j := j) (k := (nAt sz j).toNat) hj (by omega)
   rw [tk hG]
   have hTE := rT_len hc (j := j) (by omega)
   rw [tk hTE]
   exact ⟨by omega, Nat.le_refl _, by omega, by omega, ⟨by omega, by omega⟩, .inr ⟨j + 1, ⟨by omega, by omega⟩, by omega, ⟨by omega, ⟨rfl, rfl, trivial⟩, trivial⟩, rfl, trivial⟩⟩
  ·have := not_of hjl
   obtain rfl : j = sz.len := by omega
   exact ⟨(), trivial, ⟨⟨rfl, rfl, trivial⟩, trivial⟩, rfl, trivial⟩
 ·have hc : psC n sz x := ⟨h1, h64, hf, by omega⟩
  have hTE := rT_len hc (Nat.le_refl sz.len)
  have hP := rP_len n sz x
  rw [tk hTE, tk hP]
  exact ⟨by omega, Nat.le_refl _, by omega, by omega, ⟨by omega, by omega⟩, .inr ⟨x + 1, ⟨by omega, by omega⟩, by omega, ⟨by omega, ⟨rfl, rfl, trivial⟩, trivial⟩, rfl, trivial⟩⟩
 ·have := not_of hlt
  obtain rfl : x = e.toNat := by omega
  have hP := rP_len n sz e.toNat
  rw [tk hP, hd, hx0]
  exact ⟨⟨by omega, (listD_cons_of (by rw [rP_len]; exact hxp)).symm⟩, rfl, trivial⟩
end Go.Ev

end

section
open Go.Proofs
namespace Go.Ev
structure rowQ (d : D) : Prop where
 out : d = .nil ∨ ∃ l, d = .list l
noncomputable def con6c : Con := fun | [.dat 22 d] => some (rowQ d ∧ d.len ≤ 16777216, .dat 22 d) | _ => none
noncomputable def con10e : Con := fun | [.dat 22 a, .dat 22 b] => some (a.len ≤ 16777216, .prop (eqN a b)) | _ => none
noncomputable def con3s : Con := fun | [.int .i64 n, .dat 22 sz, .int .i64 e] => some (rowQ sz ∧ inR .i64 n ∧ inR .i64 e, .prop True) | _ => none
noncomputable def pt1 : FuncId → Option Con
 | 6 => some con6c
 | 7 => some conPl
 | 8 => some con8r
 | 9 => some con24e
 | 10 => some con10e
 | _ => none
end Go.Ev

end
