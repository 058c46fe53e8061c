/-
  Part of the engine that the claim is proved with: it states nothing of the document by itself.
-/
import Derived.Test.YtenmglepjkflhaaDoorCoreG26

section
open Go.Proofs
namespace Go.Ev
set_option maxRecDepth 100000
set_option maxHeartbeats 4000000
def rdC (m : Nat) (q : List D) (x y : Nat) (k : Prop) : Prop := (0 : Int) ≤ (↑x : Int) ∧ (↑x : Int) < (↑m : Int) ∧ x < q.length ∧ (nthD q x = D.nil → False) ∧ (∀ (r : List D), nthD q x = D.list r → (0 : Int) ≤ (↑y : Int) ∧ (↑y : Int) < (↑r.length : Int) ∧ x < q.length ∧ (↑y : Int) < (↑(nthD q x).len : Int) ∧ x < q.length ∧ y < (nthD q x).len ∧ k) ∧ ∀ (n_1 : Int), nthD q x = D.int n_1 → False
theorem vc26 : ∀ (n : Int) (s : D), symFun (ctx mt2 mtAnn) 8 (26 : FuncId) [V.int IntKind.i64 n, V.dat (24 : TypeId) s] (V.dat (25 : TypeId) (mtL n s)) = (bigP s ∧ (((chk n D.nil s).snd = 0 → False) → D.nil = mtL n s) ∧
((((chk n D.nil s).snd = 0 → False) → False) → 0 ≤ n ∧ n ≤ n ∧ n ≤ 16777216 ∧ 24 * n.toNat ≤ 281474976710656 ∧ (∃ (x : Nat), x.le n.toNat ∧ (0 = (x : Int) ∧ True) ∧ (List.replicate n.toNat D.nil = zrL n.toNat x ∧ allNil
(List.replicate n.toNat D.nil)) ∧ True) ∧ ∀ (x : Nat), x.le n.toNat → n.toNat - x < LIM ∧ ((x : Int) < n → 0 ≤ n ∧ n ≤ n ∧ n ≤ 16777216 ∧ 8 * n.toNat ≤ 281474976710656 ∧ 0 ≤ (x : Int) ∧ (x : Int) < (n.toNat : Int) ∧ x <
(zrL n.toNat x).length ∧ True ∧ (0 : Nat) = 0 ∧ n.toNat = (List.replicate n.toNat (D.int 0)).length ∧ n.toNat = n.toNat ∧ fits64 ((x : Int) + 1) ∧ ∃ (y : Nat), y.le n.toNat ∧ n.toNat - y < n.toNat - x ∧ ((x : Int) + 1 =
(y : Int) ∧ True) ∧ (zrL n.toNat x).set x (D.list (List.replicate n.toNat (D.int 0))) = zrL n.toNat y ∧ True) ∧ (((x : Int) < n → False) → (∃ (x_1 : Nat), x_1.le s.len ∧ (0 = (x_1 : Int) ∧ True) ∧ zrL n.toNat x = pqS
(zrL n.toNat x) s x_1 ∧ True) ∧ ∀ (x_1 : Nat), x_1.le s.len → s.len - x_1 < LIM ∧ ((x_1 : Int) < (s.len : Int) → 0 ≤ (x_1 : Int) ∧ (x_1 : Int) < (s.len : Int) ∧ (∃ (x_2 : Nat), x_2.le (el s x_1).len ∧ (0 = (x_2 : Int) ∧
True) ∧ pqS (zrL n.toNat x) s x_1 = pqE (pqS (zrL n.toNat x) s x_1) (el s x_1) x_2 ∧ True) ∧ ∀ (x_2 : Nat), x_2.le (el s x_1).len → (el s x_1).len - x_2 < LIM ∧ ((x_2 : Int) < (↑(el s x_1).len : Int) → 0 ≤ (x_2 : Int) ∧
(x_2 : Int) < (↑(el s x_1).len : Int) ∧ (∃ (x_3 : Nat), x_3.le (el (el s x_1) x_2).len ∧ (0 = (x_3 : Int) ∧ True) ∧ pqE (pqS (zrL n.toNat x) s x_1) (el s x_1) x_2 = pqN (pqE (pqS (zrL n.toNat x) s x_1) (el s x_1) x_2)
(el (el s x_1) x_2) x_3 ∧ True) ∧ ∀ (x_3 : Nat), x_3.le (el (el s x_1) x_2).len → (el (el s x_1) x_2).len - x_3 < LIM ∧ ((x_3 : Int) < (↑(el (el s x_1) x_2).len : Int) → 0 ≤ (x_3 : Int) ∧ (x_3 : Int) < (↑(el (el s x_1)
x_2).len : Int) ∧ (0 : Int) ≤ 0 ∧ 0 ≤ (x_3 : Int) ∧ (x_3 : Int) ≤ (↑(el (el s x_1) x_2).len : Int) ∧ (∃ (x_4 : Nat), x_4.le x_3 ∧ (0 = (x_4 : Int) ∧ True) ∧ pqN (pqE (pqS (zrL n.toNat x) s x_1) (el s x_1) x_2) (el (el s
x_1) x_2) x_3 = (pqI (pqN (pqE (pqS (zrL n.toNat x) s x_1) (el s x_1) x_2) (el (el s x_1) x_2) x_3) (el (el s x_1) x_2) x_3 x_4) ∧ True) ∧ ∀ (x_4 : Nat), x_4.le x_3 → x_3 - x_4 < LIM ∧ ((x_4 : Int) < (↑((el (el s x_1)
x_2).sub 0 x_3).len : Int) → 0 ≤ (x_4 : Int) ∧ (x_4 : Int) < (↑((el (el s x_1) x_2).sub 0 x_3).len : Int) ∧ wrC n.toNat (pqI (pqN (pqE (pqS (zrL n.toNat x) s x_1) (el s x_1) x_2) (el (el s x_1) x_2) x_3) (el (el s x_1)
x_2) x_3 x_4) (nAt ((el (el s x_1) x_2).sub 0 x_3) x_4) (nAt (el (el s x_1) x_2) x_3) (wrC n.toNat (incZ (pqI (pqN (pqE (pqS (zrL n.toNat x) s x_1) (el s x_1) x_2) (el (el s x_1) x_2) x_3) (el (el s x_1) x_2) x_3 x_4)
(nAt ((el (el s x_1) x_2).sub 0 x_3) x_4) (nAt (el (el s x_1) x_2) x_3)) (nAt (el (el s x_1) x_2) x_3) (nAt ((el (el s x_1) x_2).sub 0 x_3) x_4) (fits64 ((x_4 : Int) + 1) ∧ ∃ (y : Nat), y.le x_3 ∧ x_3 - y < x_3 - x_4 ∧
((x_4 : Int) + 1 = (y : Int) ∧ True) ∧ (incZ (incZ (pqI (pqN (pqE (pqS (zrL n.toNat x) s x_1) (el s x_1) x_2) (el (el s x_1) x_2) x_3) (el (el s x_1) x_2) x_3 x_4) (nAt ((el (el s x_1) x_2).sub 0 x_3) x_4) (nAt (el (el s
x_1) x_2) x_3)) (nAt (el (el s x_1) x_2) x_3) (nAt ((el (el s x_1) x_2).sub 0 x_3) x_4)) = pqI (pqN (pqE (pqS (zrL n.toNat x) s x_1) (el s x_1) x_2) (el (el s x_1) x_2) x_3) (el (el s x_1) x_2) x_3 y ∧ True))) ∧ (((x_4 :
Int) < (↑((el (el s x_1) x_2).sub 0 x_3).len : Int) → False) → fits64 ((x_3 : Int) + 1) ∧ ∃ (y : Nat), y.le (el (el s x_1) x_2).len ∧ (el (el s x_1) x_2).len - y < (el (el s x_1) x_2).len - x_3 ∧ ((x_3 : Int) + 1 = (y :
Int) ∧ True) ∧ (pqI (pqN (pqE (pqS (zrL n.toNat x) s x_1) (el s x_1) x_2) (el (el s x_1) x_2) x_3) (el (el s x_1) x_2) x_3 x_4) = pqN (pqE (pqS (zrL n.toNat x) s x_1) (el s x_1) x_2) (el (el s x_1) x_2) y ∧ True)) ∧
(((x_3 : Int) < (↑(el (el s x_1) x_2).len : Int) → False) → fits64 ((x_2 : Int) + 1) ∧ ∃ (y : Nat), y.le (el s x_1).len ∧ (el s x_1).len - y < (el s x_1).len - x_2 ∧ ((x_2 : Int) + 1 = (y : Int) ∧ True) ∧ pqN (pqE (pqS
(zrL n.toNat x) s x_1) (el s x_1) x_2) (el (el s x_1) x_2) x_3 = pqE (pqS (zrL n.toNat x) s x_1) (el s x_1) y ∧ True)) ∧ (((x_2 : Int) < (↑(el s x_1).len : Int) → False) → fits64 ((x_1 : Int) + 1) ∧ ∃ (y : Nat), y.le
s.len ∧ s.len - y < s.len - x_1 ∧ ((x_1 : Int) + 1 = (y : Int) ∧ True) ∧ pqE (pqS (zrL n.toNat x) s x_1) (el s x_1) x_2 = pqS (zrL n.toNat x) s y ∧ True)) ∧ (((x_1 : Int) < (s.len : Int) → False) → ((∃ (x_2 : Nat), (x_2
≤ 1 ∧ x_2 ≤ (pqS (zrL n.toNat x) s x_1).length) ∧ (0 = (x_2 : Int) ∧ True) ∧ (True ∧ True) ∧ True) ∨ ∃ (x_2 : Nat), (1 < x_2 ∧ x_2 ≤ (pqS (zrL n.toNat x) s x_1).length) ∧ (0 = (x_2 : Int) ∧ True) ∧ (False ∧ True) ∧ False
∧ True) ∧ (∀ (x_2 : Nat), x_2 ≤ 1 ∧ x_2 ≤ (pqS (zrL n.toNat x) s x_1).length → (pqS (zrL n.toNat x) s x_1).length - x_2 < LIM ∧ ((x_2 : Int) < (n.toNat : Int) → ((∃ (x : Nat), (x = 0 ∧ x_2 ≤ 1) ∧ (0 = (x : Int) ∧ True) ∧
(True ∧ True) ∧ True) ∨ ∃ (x : Nat), ((1 < x_2 ∨ 0 < x) ∧ x ≤ x_2) ∧ (0 = (x : Int) ∧ True) ∧ (False ∧ True) ∧ False ∧ True) ∧ (∀ (x_3 : Nat), x_3 = 0 ∧ x_2 ≤ 1 → x_2 - x_3 < LIM ∧ ((x_3 : Int) < (x_2 : Int) → rdC
n.toNat (pqS (zrL n.toNat x) s x_1) x_2 x_3 (0 + 1 ≤ [D.int (nAt (nthD (pqS (zrL n.toNat x) s x_1) x_2) x_3)].length ∧ (1 : Nat) ≤ 16777216 ∧ fits64 ((x_3 : Int) + 1) ∧ ((∃ (y : Nat), (y = 0 ∧ x_2 ≤ 1) ∧ x_2 - y < x_2 -
x_3 ∧ ((x_3 : Int) + 1 = (y : Int) ∧ True) ∧ (False ∧ True) ∧ True) ∨ ∃ (y : Nat), ((1 < x_2 ∨ 0 < y) ∧ y ≤ x_2) ∧ x_2 - y < x_2 - x_3 ∧ ((x_3 : Int) + 1 = (y : Int) ∧ True) ∧ (((0 : Nat) = 0 ∧ 1 = (hfL (pqS (zrL n.toNat
x) s x_1) x_2 ++ hfR (pqS (zrL n.toNat x) s x_1) x_2 y).length ∧ True) ∧ True) ∧ List.take 1 [D.int (nAt (nthD (pqS (zrL n.toNat x) s x_1) x_2) x_3)] = hfL (pqS (zrL n.toNat x) s x_1) x_2 ++ hfR (pqS (zrL n.toNat x) s
x_1) x_2 y ∧ True))) ∧ (((x_3 : Int) < (x_2 : Int) → False) → fits64 ((x_2 : Int) + 1) ∧ ((∃ (y : Nat), (y ≤ 1 ∧ y ≤ (pqS (zrL n.toNat x) s x_1).length) ∧ (pqS (zrL n.toNat x) s x_1).length - y < (pqS (zrL n.toNat x) s
x_1).length - x_2 ∧ ((x_2 : Int) + 1 = (y : Int) ∧ True) ∧ (True ∧ True) ∧ True) ∨ ∃ (y : Nat), (1 < y ∧ y ≤ (pqS (zrL n.toNat x) s x_1).length) ∧ (pqS (zrL n.toNat x) s x_1).length - y < (pqS (zrL n.toNat x) s
x_1).length - x_2 ∧ ((x_2 : Int) + 1 = (y : Int) ∧ True) ∧ (False ∧ True) ∧ False ∧ True))) ∧ ∀ (x_3 : Nat), (1 < x_2 ∨ 0 < x_3) ∧ x_3 ≤ x_2 → x_2 - x_3 < LIM ∧ ((x_3 : Int) < (x_2 : Int) → rdC n.toNat (pqS (zrL n.toNat
x) s x_1) x_2 x_3 (0 + 1 ≤ [D.int (nAt (nthD (pqS (zrL n.toNat x) s x_1) x_2) x_3)].length ∧ 0 + (hfL (pqS (zrL n.toNat x) s x_1) x_2 ++ hfR (pqS (zrL n.toNat x) s x_1) x_2 x_3).length ≤ (hfL (pqS (zrL n.toNat x) s x_1)
x_2 ++ hfR (pqS (zrL n.toNat x) s x_1) x_2 x_3).length ∧ (hfL (pqS (zrL n.toNat x) s x_1) x_2 ++ hfR (pqS (zrL n.toNat x) s x_1) x_2 x_3).length + 1 ≤ 16777216 ∧ fits64 ((x_3 : Int) + 1) ∧ ((∃ (y : Nat), (y = 0 ∧ x_2 ≤
1) ∧ x_2 - y < x_2 - x_3 ∧ ((x_3 : Int) + 1 = (y : Int) ∧ True) ∧ (False ∧ True) ∧ True) ∨ ∃ (y : Nat), ((1 < x_2 ∨ 0 < y) ∧ y ≤ x_2) ∧ x_2 - y < x_2 - x_3 ∧ ((x_3 : Int) + 1 = (y : Int) ∧ True) ∧ (((0 : Nat) = 0 ∧ (hfL
(pqS (zrL n.toNat x) s x_1) x_2 ++ hfR (pqS (zrL n.toNat x) s x_1) x_2 x_3).length + 1 = (hfL (pqS (zrL n.toNat x) s x_1) x_2 ++ hfR (pqS (zrL n.toNat x) s x_1) x_2 y).length ∧ True) ∧ True) ∧ List.take (hfL (pqS (zrL
n.toNat x) s x_1) x_2 ++ hfR (pqS (zrL n.toNat x) s x_1) x_2 x_3).length (hfL (pqS (zrL n.toNat x) s x_1) x_2 ++ hfR (pqS (zrL n.toNat x) s x_1) x_2 x_3) ++ List.take 1 [D.int (nAt (nthD (pqS (zrL n.toNat x) s x_1) x_2)
x_3)] = hfL (pqS (zrL n.toNat x) s x_1) x_2 ++ hfR (pqS (zrL n.toNat x) s x_1) x_2 y ∧ True))) ∧ (((x_3 : Int) < (x_2 : Int) → False) → fits64 ((x_2 : Int) + 1) ∧ ((∃ (y : Nat), (y ≤ 1 ∧ y ≤ (pqS (zrL n.toNat x) s
x_1).length) ∧ (pqS (zrL n.toNat x) s x_1).length - y < (pqS (zrL n.toNat x) s x_1).length - x_2 ∧ ((x_2 : Int) + 1 = (y : Int) ∧ True) ∧ (False ∧ True) ∧ True) ∨ ∃ (y : Nat), (1 < y ∧ y ≤ (pqS (zrL n.toNat x) s
x_1).length) ∧ (pqS (zrL n.toNat x) s x_1).length - y < (pqS (zrL n.toNat x) s x_1).length - x_2 ∧ ((x_2 : Int) + 1 = (y : Int) ∧ True) ∧ (((0 : Nat) = 0 ∧ (hfL (pqS (zrL n.toNat x) s x_1) x_2 ++ hfR (pqS (zrL n.toNat x)
s x_1) x_2 x_3).length = (hfL (pqS (zrL n.toNat x) s x_1) y).length ∧ True) ∧ True) ∧ hfL (pqS (zrL n.toNat x) s x_1) x_2 ++ hfR (pqS (zrL n.toNat x) s x_1) x_2 x_3 = hfL (pqS (zrL n.toNat x) s x_1) y ∧ True))) ∧ (((x_2
: Int) < (n.toNat : Int) → False) → D.nil = mtL n s)) ∧ ∀ (x_2 : Nat), 1 < x_2 ∧ x_2 ≤ (pqS (zrL n.toNat x) s x_1).length → (pqS (zrL n.toNat x) s x_1).length - x_2 < LIM ∧ ((x_2 : Int) < (n.toNat : Int) → ((∃ (x : Nat),
(x = 0 ∧ x_2 ≤ 1) ∧ (0 = (x : Int) ∧ True) ∧ (False ∧ True) ∧ True) ∨ ∃ (x_3 : Nat), ((1 < x_2 ∨ 0 < x_3) ∧ x_3 ≤ x_2) ∧ (0 = (x_3 : Int) ∧ True) ∧ (((0 : Nat) = 0 ∧ (hfL (pqS (zrL n.toNat x) s x_1) x_2).length = (hfL
(pqS (zrL n.toNat x) s x_1) x_2 ++ hfR (pqS (zrL n.toNat x) s x_1) x_2 x_3).length ∧ True) ∧ True) ∧ hfL (pqS (zrL n.toNat x) s x_1) x_2 = hfL (pqS (zrL n.toNat x) s x_1) x_2 ++ hfR (pqS (zrL n.toNat x) s x_1) x_2 x_3 ∧
True) ∧ (∀ (x_3 : Nat), x_3 = 0 ∧ x_2 ≤ 1 → x_2 - x_3 < LIM ∧ ((x_3 : Int) < (x_2 : Int) → rdC n.toNat (pqS (zrL n.toNat x) s x_1) x_2 x_3 (0 + 1 ≤ [D.int (nAt (nthD (pqS (zrL n.toNat x) s x_1) x_2) x_3)].length ∧ (1 :
Nat) ≤ 16777216 ∧ fits64 ((x_3 : Int) + 1) ∧ ((∃ (y : Nat), (y = 0 ∧ x_2 ≤ 1) ∧ x_2 - y < x_2 - x_3 ∧ ((x_3 : Int) + 1 = (y : Int) ∧ True) ∧ (False ∧ True) ∧ True) ∨ ∃ (y : Nat), ((1 < x_2 ∨ 0 < y) ∧ y ≤ x_2) ∧ x_2 - y <
x_2 - x_3 ∧ ((x_3 : Int) + 1 = (y : Int) ∧ True) ∧ (((0 : Nat) = 0 ∧ 1 = (hfL (pqS (zrL n.toNat x) s x_1) x_2 ++ hfR (pqS (zrL n.toNat x) s x_1) x_2 y).length ∧ True) ∧ True) ∧ List.take 1 [D.int (nAt (nthD (pqS (zrL
n.toNat x) s x_1) x_2) x_3)] = hfL (pqS (zrL n.toNat x) s x_1) x_2 ++ hfR (pqS (zrL n.toNat x) s x_1) x_2 y ∧ True))) ∧ (((x_3 : Int) < (x_2 : Int) → False) → fits64 ((x_2 : Int) + 1) ∧ ((∃ (y : Nat), (y ≤ 1 ∧ y ≤ (pqS
(zrL n.toNat x) s x_1).length) ∧ (pqS (zrL n.toNat x) s x_1).length - y < (pqS (zrL n.toNat x) s x_1).length - x_2 ∧ ((x_2 : Int) + 1 = (y : Int) ∧ True) ∧ (True ∧ True) ∧ True) ∨ ∃ (y : Nat), (1 < y ∧ y ≤ (pqS (zrL
n.toNat x) s x_1).length) ∧ (pqS (zrL n.toNat x) s x_1).length - y < (pqS (zrL n.toNat x) s x_1).length - x_2 ∧ ((x_2 : Int) + 1 = (y : Int) ∧ True) ∧ (False ∧ True) ∧ hfL (pqS (zrL n.toNat x) s x_1) x_2 = hfL (pqS (zrL
n.toNat x) s x_1) y ∧ True))) ∧ ∀ (x_3 : Nat), (1 < x_2 ∨ 0 < x_3) ∧ x_3 ≤ x_2 → x_2 - x_3 < LIM ∧ ((x_3 : Int) < (x_2 : Int) → rdC n.toNat (pqS (zrL n.toNat x) s x_1) x_2 x_3 (0 + 1 ≤ [D.int (nAt (nthD (pqS (zrL n.toNat
x) s x_1) x_2) x_3)].length ∧ 0 + (hfL (pqS (zrL n.toNat x) s x_1) x_2 ++ hfR (pqS (zrL n.toNat x) s x_1) x_2 x_3).length ≤ (hfL (pqS (zrL n.toNat x) s x_1) x_2 ++ hfR (pqS (zrL n.toNat x) s x_1) x_2 x_3).length ∧ (hfL
(pqS (zrL n.toNat x) s x_1) x_2 ++ hfR (pqS (zrL n.toNat x) s x_1) x_2 x_3).length + 1 ≤ 16777216 ∧ fits64 ((x_3 : Int) + 1) ∧ ((∃ (y : Nat), (y = 0 ∧ x_2 ≤ 1) ∧ x_2 - y < x_2 - x_3 ∧ False) ∨ ∃ (y : Nat), ((1 < x_2 ∨ 0
< y) ∧ y ≤ x_2) ∧ x_2 - y < x_2 - x_3 ∧ ((x_3 : Int) + 1 = (y : Int) ∧ True) ∧ (((0 : Nat) = 0 ∧ (hfL (pqS (zrL n.toNat x) s x_1) x_2 ++ hfR (pqS (zrL n.toNat x) s x_1) x_2 x_3).length + 1 = (hfL (pqS (zrL n.toNat x) s
x_1) x_2 ++ hfR (pqS (zrL n.toNat x) s x_1) x_2 y).length ∧ True) ∧ True) ∧ List.take (hfL (pqS (zrL n.toNat x) s x_1) x_2 ++ hfR (pqS (zrL n.toNat x) s x_1) x_2 x_3).length (hfL (pqS (zrL n.toNat x) s x_1) x_2 ++ hfR
(pqS (zrL n.toNat x) s x_1) x_2 x_3) ++ List.take 1 [D.int (nAt (nthD (pqS (zrL n.toNat x) s x_1) x_2) x_3)] = hfL (pqS (zrL n.toNat x) s x_1) x_2 ++ hfR (pqS (zrL n.toNat x) s x_1) x_2 y ∧ True))) ∧ (((x_3 : Int) < (x_2
: Int) → False) → fits64 ((x_2 : Int) + 1) ∧ ((∃ (y : Nat), (y ≤ 1 ∧ y ≤ (pqS (zrL n.toNat x) s x_1).length) ∧ (pqS (zrL n.toNat x) s x_1).length - y < (pqS (zrL n.toNat x) s x_1).length - x_2 ∧ ((x_2 : Int) + 1 = (y :
Int) ∧ True) ∧ (False ∧ True) ∧ True) ∨ ∃ (y : Nat), (1 < y ∧ y ≤ (pqS (zrL n.toNat x) s x_1).length) ∧ (pqS (zrL n.toNat x) s x_1).length - y < (pqS (zrL n.toNat x) s x_1).length - x_2 ∧ ((x_2 : Int) + 1 = (y : Int) ∧
True) ∧ (((0 : Nat) = 0 ∧ (hfL (pqS (zrL n.toNat x) s x_1) x_2 ++ hfR (pqS (zrL n.toNat x) s x_1) x_2 x_3).length = (hfL (pqS (zrL n.toNat x) s x_1) y).length ∧ True) ∧ True) ∧ hfL (pqS (zrL n.toNat x) s x_1) x_2 ++ hfR
(pqS (zrL n.toNat x) s x_1) x_2 x_3 = hfL (pqS (zrL n.toNat x) s x_1) y ∧ True))) ∧ (((x_2 : Int) < (n.toNat : Int) → False) → 0 + (hfL (pqS (zrL n.toNat x) s x_1) x_2).length ≤ (hfL (pqS (zrL n.toNat x) s x_1)
x_2).length ∧ D.list (List.take (hfL (pqS (zrL n.toNat x) s x_1) x_2).length (hfL (pqS (zrL n.toNat x) s x_1) x_2)) = mtL n s))))) := by intros; kernel_rfl
theorem hfL_len (q : List D) : ∀ x, x ≤ 64 → (hfL q x).length ≤ 64 * x
 | 0, _ => Nat.le_refl _
 | x + 1, h => by
  have ih := hfL_len q x (by omega)
  show (hfL q x ++ hfR q x x).length ≤ _
  rw [List.length_append]
  unfold hfR
  rw [List.length_map, List.length_range]; omega
theorem hfR_len (q : List D) (x y : Nat) : (hfR q x y).length = y := by unfold hfR; rw [List.length_map, List.length_range]
theorem hfR_succ (q : List D) (x y : Nat) : hfR q x (y + 1) = hfR q x y ++ [.int (nAt (nthD q x) y)] := by unfold hfR; rw [List.range_succ, List.map_append]; rfl
theorem hf_next (q : List D) (x y : Nat) : List.take (hfL q x ++ hfR q x y).length (hfL q x ++ hfR q x y) ++ List.take 1 [D.int (nAt (nthD q x) y)] = hfL q x ++ hfR q x (y + 1) := by
 rw [List.take_of_length_le (Nat.le_refl _), hfR_succ, List.append_assoc]; rfl
theorem hf_len1 (q : List D) (x y : Nat) : (hfL q x ++ hfR q x y).length + 1 = (hfL q x ++ hfR q x (y + 1)).length := by
 rw [hfR_succ, ← List.append_assoc, List.length_append (bs := [_])]; rfl
theorem hf_zero (q : List D) : ∀ x, x ≤ 1 → hfL q x = []
 | 0, _ => rfl
 | 1, _ => rfl
theorem hf_pos (q : List D) {x : Nat} (h : 1 < x) : ∃ a l, hfL q x = a :: l := by
 have : 0 < (hfL q x).length := by
  obtain ⟨y, rfl⟩ : ∃ y, x = y + 1 := ⟨x - 1, by omega⟩
  show 0 < (hfL q y ++ hfR q y y).length
  rw [List.length_append, hfR_len]; omega
 cases he : hfL q x with
 | nil => rw [he] at this; simp at this
 | cons a l => exact ⟨a, l, rfl⟩
theorem rd_ok {m : Nat} {K : Int} {f : Nat → Nat → Int} {q : List D} {x y : Nat} {k : Prop} (h : sqF m K f q) (hx : x < m) (hy : y < m) (hk : k) : rdC m q x y k := by
 have hq := h.eq
 subst hq
 have hl := sqD_len m f
 have hrl : (D.list (rowF m f x)).len = m := rowF_len m f x
 unfold rdC
 rw [sqD_at f hx, hl, hrl]
 refine ⟨by omega, by omega, hx, (by intro h; cases h), fun r hr => ?_, fun _ h => by cases h⟩
 have hrm : r.length = m := by cases hr; exact rowF_len m f _
 rw [hrm]
 exact ⟨by omega, by omega, hx, by omega, hx, hy, hk⟩
theorem s26 (n : Int) (s : D) (h : goodS n s) : symFun (ctx mt2 mtAnn) 8 26 [.int .i64 n, .dat 24 s] (.dat 25 (mtL n s)) := by
 rw [vc26]
 unfold mtL
 have hn := h.n1
 have hb := h.big.out.1
 have hz := zr_sq n.toNat
 refine ⟨h.big, fun hne => (hne (by rw [h.chk])).elim, fun _ => ⟨by omega, Int.le_refl _, by omega, by omega, ⟨0, Nat.zero_le _, ⟨rfl, trivial⟩, ⟨zr_zero _, allNil_rep _⟩, trivial⟩, fun x hx => ?_⟩⟩
 have hx : x ≤ n.toNat := hx
 refine ⟨limS (by omega), fun hlt => ⟨by omega, Int.le_refl _, by omega, by omega, by omega, by omega, by rw [zr_len _ _ hx]; omega, trivial, rfl, by rw [List.length_replicate], rfl, ⟨by omega, by omega⟩, x + 1, by show x + 1 ≤ _; omega, by omega, ⟨by omega, trivial⟩, zr_next (by omega), trivial⟩, fun hge => ?_⟩
 have hge := not_of hge
 have ex : x = n.toNat := by omega
 subst ex
 refine ⟨⟨0, Nat.zero_le _, ⟨rfl, trivial⟩, rfl, trivial⟩, fun i hi => ?_⟩
 have hi : i ≤ s.len := hi
 have hSq := pqS_sq h hz i hi
 refine ⟨limS (by omega), fun hlt2 => ?_, fun hge2 => ?_⟩
 ·have hi2 : i < s.len := by omega
  have hev := (h.big.out.2 i hi2).out.1
  refine ⟨by omega, hlt2, ⟨0, Nat.zero_le _, ⟨rfl, trivial⟩, rfl, trivial⟩, fun j hj => ?_⟩
  have hj : j ≤ (el s i).len := hj
  have hEq := pqE_sq (L := 1000) hSq (fun j hj => good_tabs h hi2 hj) j hj
  refine ⟨limS (by omega), fun hlt3 => ?_, fun hge3 => ?_⟩
  ·have hj2 : j < (el s i).len := by omega
   obtain ⟨htl, htr⟩ := good_tabs h hi2 hj2
   refine ⟨by omega, hlt3, ⟨0, Nat.zero_le _, ⟨rfl, trivial⟩, rfl, trivial⟩, fun z hz2 => ?_⟩
   have hz2 : z ≤ (el (el s i) j).len := hz2
   have hNq := pqN_sq (L := 1000) hEq htr htl z hz2
   refine ⟨limS (by omega), fun hlt4 => ?_, fun hge4 => ?_⟩
   ·have hz3 : z < (el (el s i) j).len := by omega
    have hsl := sub_len (t := el (el s i) j) hz2
    refine ⟨by omega, hlt4, Int.le_refl _, by omega, by omega, ⟨0, Nat.zero_le _, ⟨rfl, trivial⟩, rfl, trivial⟩, fun w hw => ?_⟩
    have hw : w ≤ z := hw
    have hIq := pqI_sq hNq htr hz3 w hw
    refine ⟨limS (by omega), fun hlt5 => ?_, fun hge5 => ?_⟩
    ·have hw2 : w < z := by omega
     have ea := sub_at (t := el (el s i) j) hw2
     have r1 := htr w (by omega)
     have r2 := htr z hz3
     rw [ea]
     exact ⟨by omega, hlt5, wr_ok hIq (by omega) r1 r2 (wr_ok (incZ_sq hIq r1 r2) (by omega) r2 r1 ⟨⟨by omega, by omega⟩, w + 1, by show w + 1 ≤ _; omega, by omega, ⟨by omega, trivial⟩, rfl, trivial⟩)⟩
    ·have hge5 := not_of hge5
     have ew : w = z := by omega
     subst ew
     exact ⟨⟨by omega, by omega⟩, w + 1, by show w + 1 ≤ _; omega, by omega, ⟨by omega, trivial⟩, rfl, trivial⟩
   ·have hge4 := not_of hge4
    have ez : z = (el (el s i) j).len := by omega
    subst ez
    exact ⟨⟨by omega, by omega⟩, j + 1, by show j + 1 ≤ _; omega, by omega, ⟨by omega, trivial⟩, rfl, trivial⟩
  ·have hge3 := not_of hge3
   have ej : j = (el s i).len := by omega
   subst ej
   exact ⟨⟨by omega, by omega⟩, i + 1, by show i + 1 ≤ _; omega, by omega, ⟨by omega, trivial⟩, rfl, trivial⟩
 ·have hge2 := not_of hge2
  have ei : i = s.len := by omega
  subst ei
  have hl : (pqS (zrL n.toNat n.toNat) s s.len).length = n.toNat := by rw [hSq.eq, sqD_len]
  generalize pqS (zrL n.toNat n.toNat) s s.len = q at hSq hl ⊢
  have hbd : ∀ x y, x < n.toNat → y ≤ x → (hfL q x ++ hfR q x y).length ≤ 5000 := fun x y hx hy => by
   have := hfL_len q x (by omega)
   rw [List.length_append, hfR_len]; omega
  rw [hl]
  refine ⟨.inl ⟨0, ⟨Nat.zero_le _, Nat.zero_le _⟩, ⟨rfl, trivial⟩, ⟨trivial, trivial⟩, trivial⟩, fun x ⟨hx1, hx2⟩ => ?_, fun x ⟨hx1, hx2⟩ => ?_⟩
  ·refine ⟨limS (by omega), fun hlt3 => ⟨.inl ⟨0, ⟨rfl, hx1⟩, ⟨rfl, trivial⟩, ⟨trivial, trivial⟩, trivial⟩, fun y ⟨hy1, _⟩ => ?_, fun y ⟨hy1, hy2⟩ => ?_⟩, fun hge3 => ?_⟩
   ·subst hy1
    refine ⟨limS (by omega), fun hlt4 => rd_ok hSq (by omega) (by omega) ⟨Nat.le_refl _, by decide, ⟨by decide, by decide⟩, .inr ⟨1, ⟨.inr (by omega), by omega⟩, by omega, ⟨rfl, trivial⟩, ⟨⟨rfl, ?_, trivial⟩, trivial⟩, ?_, trivial⟩⟩, fun hge4 => ⟨⟨by omega, by omega⟩, .inl ⟨x + 1, ⟨by have := not_of hge4; omega, by omega⟩, by omega, ⟨by omega, trivial⟩, ⟨trivial, trivial⟩, trivial⟩⟩⟩
    ·rw [hf_zero q x hx1]; rfl
    ·rw [hf_zero q x hx1]; rfl
   ·have hb5 := hbd x y (by omega) hy2
    refine ⟨limS (by omega), fun hlt4 => rd_ok hSq (by omega) (by omega) ⟨Nat.le_refl _, by omega, by omega, ⟨by omega, by omega⟩, .inr ⟨y + 1, ⟨.inr (by omega), by omega⟩, by omega, ⟨by omega, trivial⟩, ⟨⟨rfl, hf_len1 _ _ _, trivial⟩, trivial⟩, hf_next _ _ _, trivial⟩⟩, fun hge4 => ?_⟩
    have hge4 := not_of hge4
    have ey : y = x := by omega
    subst ey
    exact ⟨⟨by omega, by omega⟩, .inr ⟨y + 1, ⟨by omega, by omega⟩, by omega, ⟨by omega, trivial⟩, ⟨⟨rfl, rfl, trivial⟩, trivial⟩, rfl, trivial⟩⟩
   ·have hge3 := not_of hge3
    have : x = n.toNat := by omega
    subst this
    rw [hf_zero q _ hx1]; rfl
  ·refine ⟨limS (by omega), fun hlt3 => ⟨.inr ⟨0, ⟨.inl hx1, Nat.zero_le _⟩, ⟨rfl, trivial⟩, ⟨⟨rfl, by unfold hfR; simp, trivial⟩, trivial⟩, by unfold hfR; simp, trivial⟩, fun y ⟨_, hy⟩ => by omega, fun y ⟨hy1, hy2⟩ => ?_⟩, fun hge3 => ?_⟩
   ·have hb5 := hbd x y (by omega) hy2
    refine ⟨limS (by omega), fun hlt4 => rd_ok hSq (by omega) (by omega) ⟨Nat.le_refl _, by omega, by omega, ⟨by omega, by omega⟩, .inr ⟨y + 1, ⟨.inl hx1, by omega⟩, by omega, ⟨by omega, trivial⟩, ⟨⟨rfl, hf_len1 _ _ _, trivial⟩, trivial⟩, hf_next _ _ _, trivial⟩⟩, fun hge4 => ?_⟩
    have hge4 := not_of hge4
    have ey : y = x := by omega
    subst ey
    exact ⟨⟨by omega, by omega⟩, .inr ⟨y + 1, ⟨by omega, by omega⟩, by omega, ⟨by omega, trivial⟩, ⟨⟨rfl, rfl, trivial⟩, trivial⟩, rfl, trivial⟩⟩
   ·have hge3 := not_of hge3
    have : x = n.toNat := by omega
    subst this
    obtain ⟨a, l, he⟩ := hf_pos q hx1
    rw [he]
    exact ⟨by omega, by rw [List.take_of_length_le (Nat.le_refl _)]; rfl⟩
theorem vc8m : ∀ (n : Int) (s : D), symFun (ctx mt3 mtAnn) 3 (8 : FuncId) [V.int IntKind.i64 n, V.dat (24 : TypeId) s] (V.int IntKind.i64 (mxZ (mtL n s) (mtL n s).len)) = (goodS n s ∧ (∃ (x : Nat), x.le (mtL n s).len ∧
(0 = (x : Int) ∧ 0 = mxZ (mtL n s) x ∧ True) ∧ True) ∧ ∀ (x : Nat), x.le (mtL n s).len → (mtL n s).len - x < LIM ∧ ((x : Int) < (↑(mtL n s).len : Int) → 0 ≤ (x : Int) ∧ (x : Int) < (↑(mtL n s).len : Int) ∧ fits64 ((x :
Int) + 1) ∧ ∃ (y : Nat), y.le (mtL n s).len ∧ (mtL n s).len - y < (mtL n s).len - x ∧ ((x : Int) + 1 = (y : Int) ∧ max (mxZ (mtL n s) x) (nAt (mtL n s) x) = mxZ (mtL n s) y ∧ True) ∧ True) ∧ (((x : Int) < (↑(mtL n s).len
: Int) → False) → mxZ (mtL n s) x = mxZ (mtL n s) (mtL n s).len)) := by intros; kernel_rfl
theorem vc12m : ∀ (n : Int) (s : D), symFun (ctx mt3 mtAnn) 3 (12 : FuncId) [V.int IntKind.i64 n, V.dat (24 : TypeId) s] (V.int IntKind.i64 (leastZ (mtL n s))) = (goodS n s ∧ ((↑(mtL n s).len : Int) = 0 → 0 = leastZ (mtL
n s)) ∧ (((↑(mtL n s).len : Int) = 0 → False) → ((mtL n s).len ≤ 4096 ∧ 0 < (mtL n s).len) ∧ mnZ (mtL n s) ((mtL n s).len - 1) = leastZ (mtL n s))) := by intros; kernel_rfl
theorem vc14m : ∀ (n : Int) (s : D), symFun (ctx mt3 mtAnn) 3 (14 : FuncId) [V.int IntKind.i64 n, V.dat (24 : TypeId) s] (V.int IntKind.i64 (sqSum (mtL n s) (mtL n s).len)) = (goodS n s ∧ (∃ (x : Nat), x.le (mtL n s).len
∧ (0 = (x : Int) ∧ 0 = sqSum (mtL n s) x ∧ True) ∧ True) ∧ ∀ (x : Nat), x.le (mtL n s).len → (mtL n s).len - x < LIM ∧ ((x : Int) < (↑(mtL n s).len : Int) → 0 ≤ (x : Int) ∧ (x : Int) < (↑(mtL n s).len : Int) ∧ fits64
(nAt (mtL n s) x * nAt (mtL n s) x) ∧ fits64 (sqSum (mtL n s) x + nAt (mtL n s) x * nAt (mtL n s) x) ∧ fits64 ((x : Int) + 1) ∧ ∃ (y : Nat), y.le (mtL n s).len ∧ (mtL n s).len - y < (mtL n s).len - x ∧ ((x : Int) + 1 =
(y : Int) ∧ sqSum (mtL n s) x + nAt (mtL n s) x * nAt (mtL n s) x = sqSum (mtL n s) y ∧ True) ∧ True) ∧ (((x : Int) < (↑(mtL n s).len : Int) → False) → sqSum (mtL n s) x = sqSum (mtL n s) (mtL n s).len)) := by intros; kernel_rfl
theorem vc31n : ∀ (l : D), symFun (ctx cc0 mtAnn) 3 (31 : FuncId) [V.dat (25 : TypeId) l] (V.int IntKind.i64 (mnZ l (l.len - 1))) = (((l.len : Int) < 1 → False) ∧ (((l.len : Int) < 1 → False) → (0 : Int) ≤ 0 ∧ 0 < (l.len
: Int) ∧ (∃ (x : Nat), (x + 1).le l.len ∧ (1 = (↑(x + 1) : Int) ∧ nAt l 0 = mnZ l x ∧ True) ∧ True) ∧ ∀ (x : Nat), (x + 1).le l.len → l.len - x < LIM ∧ ((↑(x + 1) : Int) < (l.len : Int) → 0 ≤ (↑(x + 1) : Int) ∧ (↑(x + 1)
: Int) < (l.len : Int) ∧ fits64 ((↑(x + 1) : Int) + 1) ∧ ∃ (y : Nat), (y + 1).le l.len ∧ l.len - y < l.len - x ∧ ((↑(x + 1) : Int) + 1 = (↑(y + 1) : Int) ∧ min (mnZ l x) (nAt l (x + 1)) = mnZ l y ∧ True) ∧ True) ∧ (((↑(x
+ 1) : Int) < (l.len : Int) → False) → mnZ l x = mnZ l (l.len - 1)))) := by intros; kernel_rfl
theorem vc27 : ∀ (n : Int) (l : D), symFun (ctx ce0 shAnn) 4 (27 : FuncId) [V.int IntKind.i64 n, V.dat (25 : TypeId) l] (V.tup [V.int IntKind.i64 (shM n l), V.int IntKind.i64 (shA n l), V.prop (okS n l)]) = ((1 ≤ n →
(((n ≤ 64 → False) → False) → ((1 ≤ n ∧ n ≤ 64) ∧ l.len ≤ 16777216) ∧ ((fitP n l → False) → 0 = shM n l ∧ 0 = shA n l ∧ (false = true ↔ okS n l) ∧ True) ∧ (((fitP n l → False) → False) → (∃ (x : Nat), x.le l.len ∧ (0 =
(x : Int) ∧ 0 = triS l x ∧ True) ∧ True) ∧ ∀ (x : Nat), x.le l.len → l.len - x < LIM ∧ ((x : Int) < (l.len : Int) → 0 ≤ (x : Int) ∧ (x : Int) < (l.len : Int) ∧ fits64 (nAt l x - 1) ∧ fits64 (nAt l x * (nAt l x - 1)) ∧
((2 : Int) = 0 → False) ∧ fits64 (triZ (nAt l x)) ∧ fits64 (triS l x + triZ (nAt l x)) ∧ fits64 ((x : Int) + 1) ∧ ∃ (y : Nat), y.le l.len ∧ l.len - y < l.len - x ∧ ((x : Int) + 1 = (y : Int) ∧ triS l x + triZ (nAt l x) =
triS l y ∧ True) ∧ True) ∧ (((x : Int) < (l.len : Int) → False) → fits64 (n - 1) ∧ fits64 (n * (n - 1)) ∧ ((2 : Int) = 0 → False) ∧ fits64 (triZ n) ∧ triS l x = shM n l ∧ triZ n = shA n l ∧ (true = true ↔ okS n l) ∧
True))) ∧ ((n ≤ 64 → False) → 0 = shM n l ∧ 0 = shA n l ∧ (false = true ↔ okS n l) ∧ True)) ∧ ((1 ≤ n → False) → 0 = shM n l ∧ 0 = shA n l ∧ (false = true ↔ okS n l) ∧ True)) := by intros; kernel_rfl
theorem vc9b : ∀ (n : Int) (l : D) (e : Int), symFun (ctx ce1 shAnn) 3 (9 : FuncId) [V.int IntKind.i64 n, V.dat (25 : TypeId) l, V.int IntKind.i64 e] (V.int IntKind.i64 (lmZ n l e)) = (l.len ≤ 16777216 ∧ (((okS n l →
False) → False) → ((e < 1 → False) → (shM n l = 0 → 0 = lmZ n l e) ∧ ((shM n l = 0 → False) → fits64 (min e 64 * shM n l) ∧ fits64 (min e 64 * shM n l + shA n l) ∧ fits64 (min e 64 * shM n l + shA n l - 1) ∧ (shA n l = 0
→ False) ∧ fits64 ((min e 64 * shM n l + shA n l - 1).tdiv (shA n l)) ∧ (min e 64 * shM n l + shA n l - 1).tdiv (shA n l) = lmZ n l e)) ∧ (e < 1 → 0 = lmZ n l e)) ∧ ((okS n l → False) → 0 = lmZ n l e)) := by intros; kernel_rfl
theorem vc10b : ∀ (n : Int) (l : D) (e : Int), symFun (ctx ce1 shAnn) 3 (10 : FuncId) [V.int IntKind.i64 n, V.dat (25 : TypeId) l, V.int IntKind.i64 e] (V.int IntKind.i64 (meZ n l e)) = (l.len ≤ 16777216 ∧ (((okS n l →
False) → False) → (e < 0 → 0 = meZ n l e) ∧ ((e < 0 → False) → (shM n l = 0 → 64 = meZ n l e) ∧ ((shM n l = 0 → False) → fits64 (min e 64 * shA n l) ∧ (shM n l = 0 → False) ∧ fits64 ((min e 64 * shA n l).tdiv (shM n l))
∧ min ((min e 64 * shA n l).tdiv (shM n l)) 64 = meZ n l e))) ∧ ((okS n l → False) → 0 = meZ n l e)) := by intros; kernel_rfl
structure sizP (l : D) : Prop where
 out : l.len ≤ 100 ∧ ∀ i, i < l.len → 1 ≤ nAt l i ∧ nAt l i ≤ 64
section
variable {n e : Int} {l : D}
theorem ok_siz {n : Int} {l : D} (h : okS n l) : l.len ≤ 64 ∧ ∀ i, i < l.len → 1 ≤ nAt l i ∧ nAt l i ≤ n := by
 have h1 := fit_sum h.fit (Nat.le_refl _)
 have h2 := h.n2
 refine ⟨by omega, fun i hi => ⟨h.fit.out.1 i hi, ?_⟩⟩
 have h3 := fit_le h.fit hi
 have h4 := fit_sum h.fit (Nat.le_of_lt hi)
 omega
theorem ok_sizP {n : Int} {l : D} (h : okS n l) : sizP l := ⟨by have := (ok_siz h).1; omega, fun i hi => ⟨((ok_siz h).2 i hi).1, by have := ((ok_siz h).2 i hi).2; have := h.n2; omega⟩⟩
theorem mul_rng {k : Int} (h1 : 1 ≤ k) (h2 : k ≤ 64) : 0 ≤ k * (k - 1) ∧ k * (k - 1) ≤ 4032 := ⟨Int.mul_nonneg (by omega) (by omega), Int.mul_le_mul h2 (by omega : k - 1 ≤ 63) (by omega) (by decide)⟩
theorem tri_rng {k : Int} (h1 : 1 ≤ k) (h2 : k ≤ 64) : 0 ≤ triZ k ∧ triZ k ≤ 2016 := by
 have := mul_rng h1 h2
 unfold triZ
 rw [Int.tdiv_eq_ediv_of_nonneg this.1]
 omega
theorem tri_succ {k : Int} (h1 : 1 ≤ k) : triZ (k + 1) = triZ k + k := by
 have e0 : 0 ≤ k * (k - 1) := Int.mul_nonneg (by omega) (by omega)
 have e1 : (k + 1) * (k + 1 - 1) = k * (k - 1) + 2 * k := by
  rw [show k + 1 - 1 = k by omega, Int.add_mul, Int.mul_sub, Int.one_mul, Int.mul_one]; omega
 unfold triZ
 rw [Int.tdiv_eq_ediv_of_nonneg e0, Int.tdiv_eq_ediv_of_nonneg (by omega), e1]
 omega
theorem tri_pos {k : Int} (h1 : 2 ≤ k) : 1 ≤ triZ k := by
 have e0 : 2 * 1 ≤ k * (k - 1) := Int.mul_le_mul h1 (by omega) (by decide) (by omega)
 unfold triZ
 rw [Int.tdiv_eq_ediv_of_nonneg (by omega)]
 omega
theorem triS_rng {l : D} {m : Nat} (h : ∀ i, i < m → 1 ≤ nAt l i ∧ nAt l i ≤ 64) : ∀ x, x ≤ m → 0 ≤ triS l x ∧ triS l x ≤ 2016 * x
 | 0, _ => ⟨Int.le_refl _, Int.le_refl _⟩
 | x + 1, hx => by
  have h1 := triS_rng h x (by omega)
  have h2 := tri_rng (h x (by omega)).1 (h x (by omega)).2
  show 0 ≤ triS l x + triZ (nAt l x) ∧ triS l x + triZ (nAt l x) ≤ _
  omega
theorem triS_zero {l : D} {m : Nat} (h : ∀ i, i < m → nAt l i = 1) : ∀ x, x ≤ m → triS l x = 0
 | 0, _ => rfl
 | x + 1, hx => by
  show triS l x + triZ (nAt l x) = 0
  rw [triS_zero h x (by omega), h x (by omega)]; rfl
theorem ok_tri {n : Int} {l : D} (h : okS n l) : (0 ≤ triS l l.len ∧ triS l l.len ≤ 129024) ∧ (0 ≤ triZ n ∧ triZ n ≤ 2016) ∧ (triS l l.len ≠ 0 → 1 ≤ triZ n) := by
 have hs := ok_siz h
 have hz := ok_sizP h
 have h1 := triS_rng hz.out.2 l.len (Nat.le_refl _)
 refine ⟨by omega, tri_rng h.n1 h.n2, fun hne => ?_⟩
 refine tri_pos ?_
 by_cases hn : n ≤ 1
 ·exact absurd (triS_zero (fun i hi => by have := hs.2 i hi; omega) l.len (Nat.le_refl _)) hne
 ·omega
theorem s27 (n : Int) (l : D) (hl : l.len ≤ 16777216) : symFun (ctx ce0 shAnn) 4 27 [.int .i64 n, .dat 25 l] (.tup [.int .i64 (shM n l), .int .i64 (shA n l), .prop (okS n l)]) := by
 rw [vc27]
 have no : ¬ okS n l → 0 = shM n l ∧ 0 = shA n l ∧ (false = true ↔ okS n l) ∧ True := fun h => ⟨by unfold shM; rw [if_neg h], by unfold shA; rw [if_neg h], iff_of_false (fun h => (by cases h)) h, trivial⟩
 refine ⟨fun h1 => ⟨fun h2 => ?_, fun h2 => no fun h => h2 h.n2⟩, fun h1 => no fun h => h1 h.n1⟩
 have h2 := Classical.not_not.1 h2
 refine ⟨⟨⟨h1, h2⟩, hl⟩, fun hf => no fun h => hf h.fit, fun hf => ?_⟩
 have ok : okS n l := ⟨h1, h2, Classical.not_not.1 hf⟩
 have hs := ok_siz ok
 have hz := ok_sizP ok
 have em : shM n l = triS l l.len := by unfold shM; rw [if_pos ok]
 have ea : shA n l = triZ n := by unfold shA; rw [if_pos ok]
 refine And.intro ⟨0, Nat.zero_le _, ⟨rfl, rfl, trivial⟩, trivial⟩ (fun x hx => ?_)
 have hx : x ≤ l.len := hx
 refine ⟨lim_of (by omega), fun hlt => ?_, fun hge => ?_⟩
 ·have h3 := hz.out.2 x (by omega)
  have h4 := mul_rng h3.1 h3.2
  have h5 := tri_rng h3.1 h3.2
  have h6 := triS_rng hz.out.2 x hx
  exact ⟨by omega, by omega, ⟨by omega, by omega⟩, ⟨by omega, by omega⟩, by omega, ⟨by omega, by omega⟩, ⟨by omega, by omega⟩, ⟨by omega, by omega⟩, x + 1, show x + 1 ≤ l.len by omega, by omega, ⟨by omega, rfl, trivial⟩, trivial⟩
 ·have hge := not_of hge
  have e : x = l.len := by omega
  have h4 := mul_rng h1 h2
  have h5 := tri_rng h1 h2
  exact ⟨⟨by omega, by omega⟩, ⟨by omega, by omega⟩, by omega, ⟨by omega, by omega⟩, by rw [em, e], ea.symm, iff_of_true rfl ok, trivial⟩
theorem lm_zero (h : ¬ okS n l ∨ e < 1 ∨ triS l l.len = 0) : 0 = lmZ n l e := by unfold lmZ; rw [if_pos h]
theorem lm_some (h : okS n l) (h1 : ¬ e < 1) (h2 : triS l l.len ≠ 0) : lmZ n l e = (min e 64 * triS l l.len + triZ n - 1).tdiv (triZ n) := by unfold lmZ; rw [if_neg fun h' => h'.elim (fun k => k h) fun h' => h'.elim h1 h2]
theorem me_zero (h : ¬ okS n l ∨ e < 0) : 0 = meZ n l e := by unfold meZ; rw [if_pos h]
theorem me_full (h : okS n l) (h1 : ¬ e < 0) (h2 : triS l l.len = 0) : meZ n l e = 64 := by unfold meZ; rw [if_neg fun h' => h'.elim (fun k => k h) h1, if_pos h2]
theorem me_some (h : okS n l) (h1 : ¬ e < 0) (h2 : triS l l.len ≠ 0) : meZ n l e = min ((min e 64 * triZ n).tdiv (triS l l.len)) 64 := by unfold meZ; rw [if_neg fun h' => h'.elim (fun k => k h) h1, if_neg h2]
theorem prod_rng {a b c d : Int} (ha : 0 ≤ a) (hb : 0 ≤ b) (hac : a ≤ c) (hbd : b ≤ d) : 0 ≤ a * b ∧ a * b ≤ c * d := ⟨Int.mul_nonneg ha hb, Int.mul_le_mul hac hbd hb (by omega)⟩
theorem s9b (n : Int) (l : D) (e : Int) (hl : l.len ≤ 16777216) : symFun (ctx ce1 shAnn) 3 9 [.int .i64 n, .dat 25 l, .int .i64 e] (.int .i64 (lmZ n l e)) := by
 rw [vc9b]
 refine ⟨hl, fun h => ⟨fun h1 => ⟨fun h2 => ?_, fun h2 => ?_⟩, fun h1 => lm_zero (.inr (.inl h1))⟩, fun h => lm_zero (.inl h)⟩
 ·have ok := Classical.not_not.1 h
  have em : shM n l = triS l l.len := by unfold shM; rw [if_pos ok]
  exact lm_zero (.inr (.inr (em ▸ h2)))
 ·have ok := Classical.not_not.1 h
  have em : shM n l = triS l l.len := by unfold shM; rw [if_pos ok]
  have ea : shA n l = triZ n := by unfold shA; rw [if_pos ok]
  rw [em, ea]
  rw [em] at h2
  have h1 := not_of h1
  have ht := ok_tri ok
  have hq := ht.2.2 h2
  have h3 := prod_rng (a := min e 64) (b := triS l l.len) (c := 64) (d := 129024) (by omega) ht.1.1 (by omega) ht.1.2
  have h4 : 0 ≤ (min e 64 * triS l l.len + triZ n - 1).tdiv (triZ n) ∧ (min e 64 * triS l l.len + triZ n - 1).tdiv (triZ n) ≤ min e 64 * triS l l.len + triZ n - 1 := ⟨Int.tdiv_nonneg (by omega) (by omega), Int.tdiv_le_self _ (by omega)⟩
  exact ⟨⟨by omega, by omega⟩, ⟨by omega, by omega⟩, ⟨by omega, by omega⟩, by omega, ⟨by omega, by omega⟩, (lm_some ok h1 h2).symm⟩
theorem s10b (n : Int) (l : D) (e : Int) (hl : l.len ≤ 16777216) : symFun (ctx ce1 shAnn) 3 10 [.int .i64 n, .dat 25 l, .int .i64 e] (.int .i64 (meZ n l e)) := by
 rw [vc10b]
 refine ⟨hl, fun h => ⟨fun h1 => me_zero (.inr h1), fun h1 => ?_⟩, fun h => me_zero (.inl h)⟩
 have ok := Classical.not_not.1 h
 have h1 := not_of h1
 have em : shM n l = triS l l.len := by unfold shM; rw [if_pos ok]
 have ea : shA n l = triZ n := by unfold shA; rw [if_pos ok]
 rw [em, ea]
 have ht := ok_tri ok
 have h3 := prod_rng (a := min e 64) (b := triZ n) (c := 64) (d := 2016) (by omega) ht.2.1.1 (by omega) ht.2.1.2
 refine ⟨fun h2 => (me_full ok h1 h2).symm, fun h2 => ?_⟩
 have h4 : 0 ≤ (min e 64 * triZ n).tdiv (triS l l.len) ∧ (min e 64 * triZ n).tdiv (triS l l.len) ≤ min e 64 * triZ n := ⟨Int.tdiv_nonneg (by omega) (by omega), Int.tdiv_le_self _ (by omega)⟩
 exact ⟨⟨by omega, by omega⟩, h2, ⟨by omega, by omega⟩, (me_some ok h1 h2).symm⟩
end
theorem errG_all {n : Int} {l : List D} (h : errG n l = 0) : ¬ outP n l ∧ (∀ v : Nat, (v : Int) < n → cntF l v ≤ 1) ∧ ∀ v : Nat, (v : Int) < n → cntF l v ≠ 0 := by
 unfold errG at h
 split at h
 ·cases h
 ·rename_i ho
  split at h
  ·cases h
  ·rename_i h1
   split at h
   ·cases h
   ·rename_i h2
    refine ⟨ho, fun v hv => ?_, fun v hv e => h2 ⟨v, ⟨by omega, hv⟩, e⟩⟩
    by_cases hc : 1 < cntF l v
    ·exact absurd ⟨(v : Int), ⟨by omega, hv⟩, hc⟩ h1
    ·omega
theorem tot_ge {ev : D} {k : Nat} (h : ∀ i, i < k → 1 ≤ (el ev i).len) : ∀ x, x ≤ k → x ≤ totE ev x
 | 0, _ => Nat.zero_le _
 | x + 1, hx => by
  have ih := tot_ge h x (by omega)
  have := h x (by omega)
  show x + 1 ≤ totE ev x + (el ev x).len
  omega
theorem tot_el {ev : D} {j k : Nat} (h : j < k) : (el ev j).len ≤ totE ev k := by
 have h1 : totE ev (j + 1) ≤ totE ev k := tot_mono' ev (by omega)
 have : totE ev (j + 1) = totE ev j + (el ev j).len := rfl
 omega
theorem errE_all {n : Int} {ev : D} (h : errE n .nil ev = 0) : (∀ j, j < ev.len → 1 ≤ (el ev j).len) ∧ errG n (flatL ev ev.len) = 0 := by
 unfold errE at h
 split at h
 ·cases h
 ·rename_i he
  refine ⟨fun j hj => ?_, h⟩
  by_cases h0 : (el ev j).len = 0
  ·exact absurd (.inl ⟨j, hj, h0⟩) he
  ·omega
theorem good_flat {n : Int} {s : D} (h : goodS n s) {i : Nat} (hi : i < s.len) : totE (el s i) (el s i).len ≤ n.toNat := by
 obtain ⟨_, h2⟩ := errE_all (good_err h hi)
 obtain ⟨h3, h4, _⟩ := errG_all h2
 have hn := h.n1
 have e1 := sumC_all (n := n.toNat) (l := flatL (el s i) (el s i).len) (fun a ha => by have := in_of h3 a ha; omega)
 have e2 := sumC_le (l := flatL (el s i) (el s i).len) n.toNat (fun v hv => h4 v (by omega))
 rw [e1, flat_len] at e2
 omega
theorem good_small {n : Int} {s : D} (h : goodS n s) {i : Nat} (hi : i < s.len) : (el s i).len ≤ 64 ∧ ∀ j, j < (el s i).len → (el (el s i) j).len ≤ 64 := by
 have h1 := good_flat h hi
 have hn := h.n1
 have h2 := tot_ge (errE_all (good_err h hi)).1 (el s i).len (Nat.le_refl _)
 refine ⟨by omega, fun j hj => ?_⟩
 have := tot_el (ev := el s i) hj
 omega
theorem good_lim {n : Int} {s : D} (h : goodS n s) : s.len ≤ 64 := by
 have hc := h.chk
 unfold chk at hc
 split at hc
 ·cases hc
 ·split at hc
  ·cases hc
  ·omega
theorem pqS_small {n : Int} {s : D} (h : goodS n s) {q : List D} (hq : sqF n.toNat 0 (fun _ _ => 0) q) : ∀ i, i ≤ s.len → sqF n.toNat (524288 * i) (mtS s i) (pqS q s i)
 | 0, _ => hq.cong (by omega) fun _ _ _ _ => rfl
 | i + 1, hi => by
  have hb := good_small h (show i < s.len by omega)
  exact (pqE_sq (L := 64) (pqS_small h hq i (by omega)) (fun j hj => ⟨hb.2 j hj, (good_tabs h (show i < s.len by omega) hj).2⟩) (el s i).len (Nat.le_refl _)).cong (by omega) fun _ _ _ _ => rfl
theorem mt_sq {n : Int} {s : D} (h : goodS n s) : sqF n.toNat 33554432 (mtS s s.len) (pqS (zrL n.toNat n.toNat) s s.len) := by
 have := good_lim h
 exact (pqS_small h (zr_sq n.toNat) s.len (Nat.le_refl _)).cong (by omega) fun _ _ _ _ => rfl
theorem hfR_sq {m : Nat} {f : Nat → Nat → Int} {x y : Nat} (hx : x < m) (hy : y ≤ m) : hfR (sqD m f) x y = (List.range y).map fun b => .int (f x b) := by
 unfold hfR
 refine List.map_congr_left fun b hb => ?_
 rw [sqD_at f hx]
 show D.int (nAt (D.list (rowF m f x)) b) = _
 unfold nAt
 show D.int (nthD (rowF m f x) b).asInt = _
 rw [rowF_at f x (show b < m by have := List.mem_range.1 hb; omega)]; rfl
theorem hfL_mem {m : Nat} {f : Nat → Nat → Int} {d : D} : ∀ x, x ≤ m → (d ∈ hfL (sqD m f) x ↔ ∃ a b, b < a ∧ a < x ∧ d = .int (f a b))
 | 0, _ => ⟨fun h => (by cases h), fun ⟨a, b, _, h, _⟩ => (by omega)⟩
 | x + 1, hx => by
  have ih := hfL_mem (m := m) (d := d) (f := f) x (by omega)
  show d ∈ hfL (sqD m f) x ++ hfR (sqD m f) x x ↔ _
  rw [List.mem_append, ih, hfR_sq (by omega) (by omega), List.mem_map]
  constructor
  ·rintro (⟨a, b, h1, h2, h3⟩ | ⟨b, h1, h2⟩)
   ·exact ⟨a, b, h1, by omega, h3⟩
   ·exact ⟨x, b, List.mem_range.1 h1, by omega, h2.symm⟩
  ·rintro ⟨a, b, h1, h2, h3⟩
   by_cases e : a = x
   ·subst e; exact .inr ⟨b, List.mem_range.2 h1, h3.symm⟩
   ·exact .inl ⟨a, b, h1, by omega, h3⟩
theorem hfL_len2 (q : List D) : ∀ x, 2 * (hfL q x).length = x * (x - 1)
 | 0 => rfl
 | 1 => rfl
 | x + 2 => by
  have ih := hfL_len2 q (x + 1)
  show 2 * (hfL q (x + 1) ++ hfR q (x + 1) (x + 1)).length = _
  rw [List.length_append, hfR_len, Nat.mul_add, ih]
  show (x + 1) * x + 2 * (x + 1) = (x + 2) * (x + 1)
  rw [Nat.mul_comm (x + 1) x, ← Nat.add_mul]
theorem mt_mem {n : Int} {s : D} (h : goodS n s) {d : D} : d ∈ (mtL n s).asList ↔ ∃ a b, b < a ∧ a < n.toNat ∧ d = .int (mtS s s.len a b) := by
 unfold mtL
 rw [listD_list, (mt_sq h).eq]
 exact hfL_mem n.toNat (Nat.le_refl _)
theorem mt_len (n : Int) (s : D) : 2 * (mtL n s).len = n.toNat * (n.toNat - 1) := by
 unfold mtL
 rw [listD_len]
 exact hfL_len2 _ _
theorem mt_num {n : Int} {s : D} (h : goodS n s) : numL 33554432 (mtL n s) := by
 have hn := h.n1
 have hl := mt_len n s
 have hm : n.toNat * (n.toNat - 1) ≤ 64 * 64 := Nat.mul_le_mul (by omega) (by omega)
 refine ⟨by omega, fun i hi => ?_⟩
 have hmem : nthD (mtL n s).asList i ∈ (mtL n s).asList := nthD_mem hi
 obtain ⟨a, b, h1, h2, h3⟩ := (mt_mem h).1 hmem
 have hr := (mt_sq h).bnd a b (by omega) (by omega)
 unfold nAt
 rw [h3]
 exact hr
theorem sq_rng {a K : Int} (h0 : 0 ≤ a) (h1 : a ≤ K) : 0 ≤ a * a ∧ a * a ≤ K * K := ⟨Int.mul_nonneg h0 h0, Int.mul_le_mul h1 h1 h0 (by omega)⟩
theorem sqSum_rng {l : D} (h : numL 33554432 l) : ∀ x, x ≤ l.len → 0 ≤ sqSum l x ∧ sqSum l x ≤ 1125899906842624 * x
 | 0, _ => ⟨Int.le_refl _, Int.le_refl _⟩
 | x + 1, hx => by
  have ih := sqSum_rng h x (by omega)
  have h1 := h.rng x (by omega)
  have h2 := sq_rng h1.1 h1.2
  show 0 ≤ sqSum l x + nAt l x * nAt l x ∧ sqSum l x + nAt l x * nAt l x ≤ _
  omega
theorem s8m (n : Int) (s : D) (h : goodS n s) : symFun (ctx mt3 mtAnn) 3 8 [.int .i64 n, .dat 24 s] (.int .i64 (mxZ (mtL n s) (mtL n s).len)) := by
 rw [vc8m]
 have hl := (mt_num h).len
 refine ⟨h, ⟨0, Nat.zero_le _, ⟨rfl, rfl, trivial⟩, trivial⟩, fun x hx => ?_⟩
 have hx : x ≤ (mtL n s).len := hx
 refine ⟨limS (by omega), fun hlt => ⟨by omega, hlt, ⟨by omega, by omega⟩, x + 1, by show x + 1 ≤ _; omega, by omega, ⟨by omega, rfl, trivial⟩, trivial⟩, fun hge => ?_⟩
 have hge := not_of hge
 rw [show x = (mtL n s).len by omega]
theorem s31n (l : D) (h1 : l.len ≤ 4096) (h2 : 0 < l.len) : symFun (ctx cc0 mtAnn) 3 31 [.dat 25 l] (.int .i64 (mnZ l (l.len - 1))) := by
 rw [vc31n]
 refine ⟨fun h => by omega, fun _ => ⟨Int.le_refl _, by omega, ⟨0, by show 0 + 1 ≤ _; omega, ⟨rfl, rfl, trivial⟩, trivial⟩, fun x hx => ?_⟩⟩
 have hx : x + 1 ≤ l.len := hx
 refine ⟨limS (by omega), fun hlt => ⟨by omega, hlt, ⟨by omega, by omega⟩, x + 1, by show x + 1 + 1 ≤ _; omega, by omega, ⟨by omega, rfl, trivial⟩, trivial⟩, fun hge => ?_⟩
 have hge := not_of hge
 rw [show x = l.len - 1 by omega]
theorem s12m (n : Int) (s : D) (h : goodS n s) : symFun (ctx mt3 mtAnn) 3 12 [.int .i64 n, .dat 24 s] (.int .i64 (leastZ (mtL n s))) := by
 rw [vc12m]
 have hl := (mt_num h).len
 generalize mtL n s = l at hl ⊢
 refine ⟨h, fun h0 => ?_, fun h0 => ?_⟩
 ·have h0 : l.len = 0 := Int.ofNat.inj h0
  unfold leastZ; rw [if_pos h0]
 ·have h0 : ¬ l.len = 0 := fun e => h0 (congrArg Int.ofNat e)
  refine ⟨⟨hl, by omega⟩, ?_⟩
  unfold leastZ; rw [if_neg h0]
theorem s14m (n : Int) (s : D) (h : goodS n s) : symFun (ctx mt3 mtAnn) 3 14 [.int .i64 n, .dat 24 s] (.int .i64 (sqSum (mtL n s) (mtL n s).len)) := by
 rw [vc14m]
 have hN := mt_num h
 have hl := hN.len
 refine ⟨h, ⟨0, Nat.zero_le _, ⟨rfl, rfl, trivial⟩, trivial⟩, fun x hx => ?_⟩
 have hx : x ≤ (mtL n s).len := hx
 refine ⟨limS (by omega), fun hlt => ?_, fun hge => ?_⟩
 ·have h1 := hN.rng x (by omega)
  have h2 := sq_rng h1.1 h1.2
  have h3 := sqSum_rng hN x hx
  exact ⟨by omega, hlt, ⟨by omega, by omega⟩, ⟨by omega, by omega⟩, ⟨by omega, by omega⟩, x + 1, by show x + 1 ≤ _; omega, by omega, ⟨by omega, rfl, trivial⟩, trivial⟩
 ·have hge := not_of hge
  rw [show x = (mtL n s).len by omega]
end Go.Ev

end

section
open Go.Proofs
namespace Go.Ev
def szF (c : D) (i : Nat) : Int := 1 + IntKind.i64.wrap ((nAt c i).tmod 6)
def sub8 (c : D) : D := c.sub 0 (min (c.len : Int) (8 : Int)).toNat
def sub20 (c : D) : D := c.sub 0 (min (c.len : Int) (20 : Int)).toNat
def sub10 (c : D) : D := c.sub 0 (min (c.len : Int) (10 : Int)).toNat
def sumF (c : D) : Nat → Int
 | 0 => 0
 | n + 1 => sumF c n + szF c n
def szL (c : D) (n : Nat) : List D := (List.range n).map fun i => .int (szF c i)
def kS (c : D) : Nat := (sub8 c).len
def szD (c : D) : D := if kS c = 0 then .list [.int 1] else .list (szL (sub8 c) (kS c))
def nD (c : D) : Int := if kS c = 0 then 1 else sumF (sub8 c) (kS c)
def swap1 (l : List D) (a b : Nat) : List D := (l.set a (.int (nthD l b).asInt)).set b (.int (nthD l a).asInt)
def swA (n : Int) (q : D) (j : Nat) : Int := (IntKind.i64.wrap ((q.fld j).asInt)).tmod n
def stepsL (n : Int) (l : List D) (w : D) : Nat → List D
 | 0 => l
 | j + 1 => swap1 (stepsL n l w j) (swA n (el w j) 0).toNat (swA n (el w j) 1).toNat
def idL (n : Nat) : List D := (List.range n).map fun i => .int (i : Nat)
def ordL (n : Int) (w : D) : Nat → List D
 | 0 => idL n.toNat
 | i + 1 => stepsL n (ordL n w i) (sub20 (el w i)) (sub20 (el w i)).len
def offZ (sz : D) : Nat → Int
 | 0 => 0
 | n + 1 => offZ sz n + nAt sz n
def tabL (o : List D) (sz : D) (z : Nat) : List D := (List.range z).map fun j => .list ((o.drop (offZ sz j).toNat).take (nAt sz j).toNat)
def outL (n : Int) (sz w : D) (x : Nat) : List D := (List.range x).map fun i => .list (tabL (ordL n w (i + 1)) sz sz.len)
structure u8L (c : D) : Prop where
 out : ∀ i, i < c.len → 0 ≤ nAt c i ∧ nAt c i < 256
structure u8W (w : D) : Prop where
 out : ∀ i j, i < w.len → j < (el w i).len → (0 ≤ ((el (el w i) j).fld 0).asInt ∧ ((el (el w i) j).fld 0).asInt < 256) ∧ (0 ≤ ((el (el w i) j).fld 1).asInt ∧ ((el (el w i) j).fld 1).asInt < 256)
def madeD (c w : D) : D := listD (outL (nD c) (szD c) (sub10 w) (sub10 w).len)
noncomputable def con21z : Con := fun | [.dat 22 c] => some (u8L c, .tup [.dat 25 (szD c), .int .i64 (nD c)]) | _ => none
noncomputable def con6z : Con := fun | [.dat 22 c, .dat 23 w] => some (u8L c ∧ u8W w, .tup [.dat 24 (madeD c w), .dat 25 (szD c), .int .i64 (nD c)]) | _ => none
noncomputable def mz1 : FuncId → Option Con
 | 21 => some con21z
 | _ => none
noncomputable def mzAnn : FuncId → Nat → Option Ann
 | 21, 4 => some { hs := 2, τ := Nat, slots := fun S i x => match i with | 0 => [(14, .int .i64 0), (4, .val (.slice none 0 0)), (5, .int .i64 0)] | _ => [(14, .int .i64 x), (4, .slc 60 (.lit 0) (.sym x) none), (5, .int .i64 (sumF (slD S 12) x))], blks := fun S i x => match i with | 0 => [] | _ => [(60, .arr 3 (szL (slD S 12) x))], inv := fun S i x => match i with | 0 => x = 0 | _ => 0 < x ∧ x ≤ kS (slD S 0), meas := fun S _ x => (slD S 12).len - x }
 | 6, 4 => some { τ := Nat × List D, slots := fun _ _ x => [(31, .int .i64 x.1)], blks := fun S _ x => [(rowId S 9, .arr 3 x.2)], inv := fun S _ x => x.1 ≤ (slI S 8).toNat ∧ x.2.length = (slI S 8).toNat ∧ x.2.take x.1 = idL x.1, meas := fun S _ x => (slI S 8).toNat - x.1 }
 | 6, 10 => some { hs := 2, τ := Nat × List D, slots := fun _ i x => match i with | 0 => [(45, .int .i64 0), (11, .val (.slice none 0 0))] | _ => [(45, .int .i64 x.1), (11, .slc 60 (.lit 0) (.sym x.1) none)], blks := fun S i x => match i with | 0 => [(rowId S 9, .arr 3 x.2)] | _ => [(60, .arr 33 (outL (slI S 8) (slD S 7) (slD S 43) x.1)), (rowId S 9, .arr 3 x.2)], inv := fun S i x => match i with | 0 => x.1 = 0 ∧ x.2 = ordL (slI S 8) (slD S 43) 0 | _ => 0 < x.1 ∧ x.1 ≤ (slD S 43).len ∧ x.2 = ordL (slI S 8) (slD S 43) x.1, meas := fun S _ x => (slD S 43).len - x.1 }
 | 6, 13 => some { τ := Nat × List D, slots := fun _ _ y => [(55, .int .i64 y.1)], blks := fun S _ y => [(rowId S 9, .arr 3 y.2)], inv := fun S _ y => y.1 ≤ (slD S 53).len ∧ y.2 = stepsL (slI S 8) (slRow S 9) (slD S 53) y.1, meas := fun S _ y => (slD S 53).len - y.1 }
 | 6, 21 => some { hs := 2, τ := Nat, slots := fun S i z => match i with | 0 => [(86, .int .i64 0), (18, .val (.slice none 0 0)), (19, .int .i64 0)] | _ => [(86, .int .i64 z), (18, .slc 90 (.lit 0) (.sym z) none), (19, .int .i64 (offZ (slD S 7) z))], blks := fun S i z => match i with | 0 => [] | _ => [(90, .arr 25 (tabL (slRow S 9) (slD S 7) z))], inv := fun S i z => match i with | 0 => z = 0 | _ => 0 < z ∧ z ≤ (slD S 7).len, meas := fun S _ z => (slD S 7).len - z }
 | _, _ => none
structure hasT (t : D) (a : Int) : Prop where
 out : ∃ k, k < t.len ∧ nAt t k = a
structure bothT (t : D) (a b : Int) : Prop where
 l : hasT t a
 r : hasT t b
structure bothE (ev : D) (a b : Int) : Prop where
 out : ∃ j, j < ev.len ∧ bothT (el ev j) a b
open Classical in
noncomputable def togL (s : D) (a b : Int) : Nat → List D
 | 0 => []
 | x + 1 => if bothE (el s x) a b then togL s a b x ++ [.int (x : Nat)] else togL s a b x
open Classical in
noncomputable def togD (s : D) (a b : Int) : D := if a = b then .nil else listD (togL s a b s.len)
noncomputable def con34 : Con := fun | [.dat 25 t, .int .i64 x] => some (t.len ≤ 1000, .prop (hasT t x)) | _ => none
noncomputable def con13t : Con := fun | [.int .i64 n, .dat 24 s, .int .i64 a, .int .i64 b] => some (goodS n s, .dat 25 (togD s a b)) | _ => none
noncomputable def hasAnn : FuncId → Nat → Option Ann
 | 55, 2 => some { τ := Nat, slots := fun _ _ x => [(8, .int .i64 x)], blks := fun _ _ _ => [], inv := fun S _ x => x ≤ (slD S 0).len ∧ ∀ k, k < x → nAt (slD S 0) k ≠ slI S 1, meas := fun S _ x => (slD S 0).len - x }
 | _, _ => none
noncomputable def togAnn (a b : Int) : FuncId → Nat → Option Ann
 | 54, 2 => some { τ := Nat, slots := fun _ _ x => [(8, .int .i64 x)], blks := fun _ _ _ => [], inv := fun S _ x => x ≤ (slD S 0).len ∧ ∀ j, j < x → ¬ bothT (el (slD S 0) j) a b, meas := fun S _ x => (slD S 0).len - x }
 | 13, 5 => some { hs := 2, τ := Nat × List D, slots := fun S i x => match i with | 0 => [(23, .int .i64 x.1), (9, .val (.slice none 0 0))] | _ => [(23, .int .i64 x.1), (9, .slc (Nat.add S.nx 300) (.lit 0) (.sym x.2.length) none)],
                   blks := fun S i x => match i with | 0 => [] | _ => [(Nat.add S.nx 300, .arr 3 x.2)], inv := fun S i x => match i with | 0 => x.1 ≤ (slD S 21).len ∧ x.2 = togL (slD S 21) a b x.1 ∧ x.2 = [] | _ => x.1 ≤ (slD S 21).len ∧ x.2 = togL (slD S 21) a b x.1 ∧ x.2 ≠ [], meas := fun S _ x => (slD S 21).len - x.1 }
 | _, _ => none
noncomputable def tg1 : FuncId → Option Con
 | 28 => some con16
 | 34 => some con34
 | _ => none
def pzS (sz : D) : Nat → Int
 | 0 => 0
 | x + 1 => pzS sz x + nAt sz x * (nAt sz x - 1)
def rwS (q : D) (x : Nat) : Nat → Int
 | 0 => 0
 | y + 1 => rwS q x y + nAt (el q x) y
def rwQ (q : D) (x : Nat) : Nat → Int
 | 0 => 0
 | y + 1 => rwQ q x y + nAt (el q x) y * nAt (el q x) y
def alS (q : D) : Nat → Int
 | 0 => 0
 | x + 1 => alS q x + rwS q x (el q x).len
def alQ (q : D) : Nat → Int
 | 0 => 0
 | x + 1 => alQ q x + rwQ q x (el q x).len
noncomputable def con3p : Con := fun | [.dat 22 c, .dat 23 w, .int .u8 k] => some (u8L c ∧ u8W w ∧ 0 ≤ k ∧ k < 256, .prop True) | _ => none
noncomputable def pgAnn : FuncId → Nat → Option Ann
 | 3, 14 => some { τ := Nat, slots := fun S _ x => [(105, .int .i64 x), (16, .int .i64 (pzS (slD S 103) x))], blks := fun _ _ _ => [], inv := fun S _ x => x ≤ (slD S 103).len, meas := fun S _ x => (slD S 103).len - x }
 | 3, 19 => some { τ := Nat, slots := fun S _ x => [(118, .int .i64 x), (15, .int .i64 (alS (slD S 116) x)), (17, .int .i64 (alQ (slD S 116) x))], blks := fun _ _ _ => [], inv := fun S _ x => x ≤ (slD S 116).len, meas := fun S _ x => (slD S 116).len - x }
 | 3, 24 => some { τ := Nat, slots := fun S _ y => [(136, .int .i64 y), (15, .int .i64 (slI S 15 + rwS (slD S 116) (slI S 118).toNat y)), (17, .int .i64 (slI S 17 + rwQ (slD S 116) (slI S 118).toNat y))], blks := fun _ _ _ => [], inv := fun S _ y => y ≤ (slD S 134).len, meas := fun S _ y => (slD S 134).len - y }
 | _, _ => none
noncomputable def pgJoin : FuncId → Nat → Option Ann
 | 3, 8 => some { τ := Prop, slots := fun _ _ x => [(95, .prop x)], blks := fun _ _ _ => [], inv := fun _ _ x => ¬ x, meas := fun _ _ _ => 0 }
 | 3, 11 => some { τ := D, slots := fun _ _ x => [(18, .dat 33 x)], blks := fun _ _ _ => [], inv := fun S _ x => x = .list (pqS (zrL (slI S 9).toNat (slI S 9).toNat) (slD S 7) (slD S 7).len), meas := fun _ _ _ => 0 }
 | _, _ => none
noncomputable def pg1 : FuncId → Option Con
 | 6 => some con6z
 | 7 => some con5
 | 8 => some con8m
 | 9 => some con15b
 | 10 => some con17b
 | 11 => some con7
 | 12 => some con12m
 | 13 => some con13t
 | 14 => some con14m
 | _ => none
end Go.Ev

end
