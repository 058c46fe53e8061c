/-
  Part of the engine that the claim is proved with: it states nothing of the document by itself.
-/
import Derived.Test.YtenmglepjkflhaaGreatDoorCoreNtC
import Derived.Test.YtenmglepjkflhaaGreatDoorCoreOqDefs
open Go.Proofs
namespace Go.Ev
set_option maxRecDepth 100000
set_option maxHeartbeats 4000000
def rdC (m : Nat) (q : List D) (x y : Nat) (k : Prop) : Prop := (0 : Int) ≤ (↑x : Int) ∧ (↑x : Int) < (↑m : Int) ∧ x < q.length ∧ (nthD q x = D.nil → False) ∧ (∀ (r : List D), nthD q x = D.list r → (0 : Int) ≤ (↑y : Int) ∧ (↑y : Int) < (↑r.length : Int) ∧ x < q.length ∧ (↑y : Int) < (↑(nthD q x).len : Int) ∧ x < q.length ∧ y < (nthD q x).len ∧ k) ∧ ∀ (n_1 : Int), nthD q x = D.int n_1 → False
theorem vc26 : ∀ (n : Int) (s : D), symFun (ctx mt2 mtAnn) 8 (38 : FuncId) [V.int IntKind.i64 n, V.dat (22 : TypeId) s] (V.dat (27 : TypeId) (mtL n s)) = (bigP s ∧ (((chk n D.nil s).snd = 0 → False) → D.nil = mtL n s) ∧
((((chk n D.nil s).snd = 0 → False) → False) → 0 ≤ n ∧ n ≤ n ∧ n ≤ 16777216 ∧ 24 * n.toNat ≤ 281474976710656 ∧ (∃ (x : Nat), x.le n.toNat ∧ (0 = (x : Int) ∧ True) ∧ (List.replicate n.toNat D.nil = zrL n.toNat x ∧ allNil
(List.replicate n.toNat D.nil)) ∧ True) ∧ ∀ (x : Nat), x.le n.toNat → n.toNat - x < LIM ∧ ((x : Int) < n → 0 ≤ n ∧ n ≤ n ∧ n ≤ 16777216 ∧ 8 * n.toNat ≤ 281474976710656 ∧ 0 ≤ (x : Int) ∧ (x : Int) < (n.toNat : Int) ∧ x <
(zrL n.toNat x).length ∧ True ∧ (0 : Nat) = 0 ∧ n.toNat = (List.replicate n.toNat (D.int 0)).length ∧ n.toNat = n.toNat ∧ fits64 ((x : Int) + 1) ∧ ∃ (y : Nat), y.le n.toNat ∧ n.toNat - y < n.toNat - x ∧ ((x : Int) + 1 =
(y : Int) ∧ True) ∧ (zrL n.toNat x).set x (D.list (List.replicate n.toNat (D.int 0))) = zrL n.toNat y ∧ True) ∧ (((x : Int) < n → False) → (∃ (x_1 : Nat), x_1.le s.len ∧ (0 = (x_1 : Int) ∧ True) ∧ zrL n.toNat x = pqS
(zrL n.toNat x) s x_1 ∧ True) ∧ ∀ (x_1 : Nat), x_1.le s.len → s.len - x_1 < LIM ∧ ((x_1 : Int) < (s.len : Int) → 0 ≤ (x_1 : Int) ∧ (x_1 : Int) < (s.len : Int) ∧ (∃ (x_2 : Nat), x_2.le (el s x_1).len ∧ (0 = (x_2 : Int) ∧
True) ∧ pqS (zrL n.toNat x) s x_1 = pqE (pqS (zrL n.toNat x) s x_1) (el s x_1) x_2 ∧ True) ∧ ∀ (x_2 : Nat), x_2.le (el s x_1).len → (el s x_1).len - x_2 < LIM ∧ ((x_2 : Int) < (↑(el s x_1).len : Int) → 0 ≤ (x_2 : Int) ∧
(x_2 : Int) < (↑(el s x_1).len : Int) ∧ (∃ (x_3 : Nat), x_3.le (el (el s x_1) x_2).len ∧ (0 = (x_3 : Int) ∧ True) ∧ pqE (pqS (zrL n.toNat x) s x_1) (el s x_1) x_2 = pqN (pqE (pqS (zrL n.toNat x) s x_1) (el s x_1) x_2)
(el (el s x_1) x_2) x_3 ∧ True) ∧ ∀ (x_3 : Nat), x_3.le (el (el s x_1) x_2).len → (el (el s x_1) x_2).len - x_3 < LIM ∧ ((x_3 : Int) < (↑(el (el s x_1) x_2).len : Int) → 0 ≤ (x_3 : Int) ∧ (x_3 : Int) < (↑(el (el s x_1)
x_2).len : Int) ∧ (0 : Int) ≤ 0 ∧ 0 ≤ (x_3 : Int) ∧ (x_3 : Int) ≤ (↑(el (el s x_1) x_2).len : Int) ∧ (∃ (x_4 : Nat), x_4.le x_3 ∧ (0 = (x_4 : Int) ∧ True) ∧ pqN (pqE (pqS (zrL n.toNat x) s x_1) (el s x_1) x_2) (el (el s
x_1) x_2) x_3 = (pqI (pqN (pqE (pqS (zrL n.toNat x) s x_1) (el s x_1) x_2) (el (el s x_1) x_2) x_3) (el (el s x_1) x_2) x_3 x_4) ∧ True) ∧ ∀ (x_4 : Nat), x_4.le x_3 → x_3 - x_4 < LIM ∧ ((x_4 : Int) < (↑((el (el s x_1)
x_2).sub 0 x_3).len : Int) → 0 ≤ (x_4 : Int) ∧ (x_4 : Int) < (↑((el (el s x_1) x_2).sub 0 x_3).len : Int) ∧ wrC n.toNat (pqI (pqN (pqE (pqS (zrL n.toNat x) s x_1) (el s x_1) x_2) (el (el s x_1) x_2) x_3) (el (el s x_1)
x_2) x_3 x_4) (nAt ((el (el s x_1) x_2).sub 0 x_3) x_4) (nAt (el (el s x_1) x_2) x_3) (wrC n.toNat (incZ (pqI (pqN (pqE (pqS (zrL n.toNat x) s x_1) (el s x_1) x_2) (el (el s x_1) x_2) x_3) (el (el s x_1) x_2) x_3 x_4)
(nAt ((el (el s x_1) x_2).sub 0 x_3) x_4) (nAt (el (el s x_1) x_2) x_3)) (nAt (el (el s x_1) x_2) x_3) (nAt ((el (el s x_1) x_2).sub 0 x_3) x_4) (fits64 ((x_4 : Int) + 1) ∧ ∃ (y : Nat), y.le x_3 ∧ x_3 - y < x_3 - x_4 ∧
((x_4 : Int) + 1 = (y : Int) ∧ True) ∧ (incZ (incZ (pqI (pqN (pqE (pqS (zrL n.toNat x) s x_1) (el s x_1) x_2) (el (el s x_1) x_2) x_3) (el (el s x_1) x_2) x_3 x_4) (nAt ((el (el s x_1) x_2).sub 0 x_3) x_4) (nAt (el (el s
x_1) x_2) x_3)) (nAt (el (el s x_1) x_2) x_3) (nAt ((el (el s x_1) x_2).sub 0 x_3) x_4)) = pqI (pqN (pqE (pqS (zrL n.toNat x) s x_1) (el s x_1) x_2) (el (el s x_1) x_2) x_3) (el (el s x_1) x_2) x_3 y ∧ True))) ∧ (((x_4 :
Int) < (↑((el (el s x_1) x_2).sub 0 x_3).len : Int) → False) → fits64 ((x_3 : Int) + 1) ∧ ∃ (y : Nat), y.le (el (el s x_1) x_2).len ∧ (el (el s x_1) x_2).len - y < (el (el s x_1) x_2).len - x_3 ∧ ((x_3 : Int) + 1 = (y :
Int) ∧ True) ∧ (pqI (pqN (pqE (pqS (zrL n.toNat x) s x_1) (el s x_1) x_2) (el (el s x_1) x_2) x_3) (el (el s x_1) x_2) x_3 x_4) = pqN (pqE (pqS (zrL n.toNat x) s x_1) (el s x_1) x_2) (el (el s x_1) x_2) y ∧ True)) ∧
(((x_3 : Int) < (↑(el (el s x_1) x_2).len : Int) → False) → fits64 ((x_2 : Int) + 1) ∧ ∃ (y : Nat), y.le (el s x_1).len ∧ (el s x_1).len - y < (el s x_1).len - x_2 ∧ ((x_2 : Int) + 1 = (y : Int) ∧ True) ∧ pqN (pqE (pqS
(zrL n.toNat x) s x_1) (el s x_1) x_2) (el (el s x_1) x_2) x_3 = pqE (pqS (zrL n.toNat x) s x_1) (el s x_1) y ∧ True)) ∧ (((x_2 : Int) < (↑(el s x_1).len : Int) → False) → fits64 ((x_1 : Int) + 1) ∧ ∃ (y : Nat), y.le
s.len ∧ s.len - y < s.len - x_1 ∧ ((x_1 : Int) + 1 = (y : Int) ∧ True) ∧ pqE (pqS (zrL n.toNat x) s x_1) (el s x_1) x_2 = pqS (zrL n.toNat x) s y ∧ True)) ∧ (((x_1 : Int) < (s.len : Int) → False) → ((∃ (x_2 : Nat), (x_2
≤ 1 ∧ x_2 ≤ (pqS (zrL n.toNat x) s x_1).length) ∧ (0 = (x_2 : Int) ∧ True) ∧ (True ∧ True) ∧ True) ∨ ∃ (x_2 : Nat), (1 < x_2 ∧ x_2 ≤ (pqS (zrL n.toNat x) s x_1).length) ∧ (0 = (x_2 : Int) ∧ True) ∧ (False ∧ True) ∧ False
∧ True) ∧ (∀ (x_2 : Nat), x_2 ≤ 1 ∧ x_2 ≤ (pqS (zrL n.toNat x) s x_1).length → (pqS (zrL n.toNat x) s x_1).length - x_2 < LIM ∧ ((x_2 : Int) < (n.toNat : Int) → ((∃ (x : Nat), (x = 0 ∧ x_2 ≤ 1) ∧ (0 = (x : Int) ∧ True) ∧
(True ∧ True) ∧ True) ∨ ∃ (x : Nat), ((1 < x_2 ∨ 0 < x) ∧ x ≤ x_2) ∧ (0 = (x : Int) ∧ True) ∧ (False ∧ True) ∧ False ∧ True) ∧ (∀ (x_3 : Nat), x_3 = 0 ∧ x_2 ≤ 1 → x_2 - x_3 < LIM ∧ ((x_3 : Int) < (x_2 : Int) → rdC
n.toNat (pqS (zrL n.toNat x) s x_1) x_2 x_3 (0 + 1 ≤ [D.int (nAt (nthD (pqS (zrL n.toNat x) s x_1) x_2) x_3)].length ∧ (1 : Nat) ≤ 16777216 ∧ fits64 ((x_3 : Int) + 1) ∧ ((∃ (y : Nat), (y = 0 ∧ x_2 ≤ 1) ∧ x_2 - y < x_2 -
x_3 ∧ ((x_3 : Int) + 1 = (y : Int) ∧ True) ∧ (False ∧ True) ∧ True) ∨ ∃ (y : Nat), ((1 < x_2 ∨ 0 < y) ∧ y ≤ x_2) ∧ x_2 - y < x_2 - x_3 ∧ ((x_3 : Int) + 1 = (y : Int) ∧ True) ∧ (((0 : Nat) = 0 ∧ 1 = (hfL (pqS (zrL n.toNat
x) s x_1) x_2 ++ hfR (pqS (zrL n.toNat x) s x_1) x_2 y).length ∧ True) ∧ True) ∧ List.take 1 [D.int (nAt (nthD (pqS (zrL n.toNat x) s x_1) x_2) x_3)] = hfL (pqS (zrL n.toNat x) s x_1) x_2 ++ hfR (pqS (zrL n.toNat x) s
x_1) x_2 y ∧ True))) ∧ (((x_3 : Int) < (x_2 : Int) → False) → fits64 ((x_2 : Int) + 1) ∧ ((∃ (y : Nat), (y ≤ 1 ∧ y ≤ (pqS (zrL n.toNat x) s x_1).length) ∧ (pqS (zrL n.toNat x) s x_1).length - y < (pqS (zrL n.toNat x) s
x_1).length - x_2 ∧ ((x_2 : Int) + 1 = (y : Int) ∧ True) ∧ (True ∧ True) ∧ True) ∨ ∃ (y : Nat), (1 < y ∧ y ≤ (pqS (zrL n.toNat x) s x_1).length) ∧ (pqS (zrL n.toNat x) s x_1).length - y < (pqS (zrL n.toNat x) s
x_1).length - x_2 ∧ ((x_2 : Int) + 1 = (y : Int) ∧ True) ∧ (False ∧ True) ∧ False ∧ True))) ∧ ∀ (x_3 : Nat), (1 < x_2 ∨ 0 < x_3) ∧ x_3 ≤ x_2 → x_2 - x_3 < LIM ∧ ((x_3 : Int) < (x_2 : Int) → rdC n.toNat (pqS (zrL n.toNat
x) s x_1) x_2 x_3 (0 + 1 ≤ [D.int (nAt (nthD (pqS (zrL n.toNat x) s x_1) x_2) x_3)].length ∧ 0 + (hfL (pqS (zrL n.toNat x) s x_1) x_2 ++ hfR (pqS (zrL n.toNat x) s x_1) x_2 x_3).length ≤ (hfL (pqS (zrL n.toNat x) s x_1)
x_2 ++ hfR (pqS (zrL n.toNat x) s x_1) x_2 x_3).length ∧ (hfL (pqS (zrL n.toNat x) s x_1) x_2 ++ hfR (pqS (zrL n.toNat x) s x_1) x_2 x_3).length + 1 ≤ 16777216 ∧ fits64 ((x_3 : Int) + 1) ∧ ((∃ (y : Nat), (y = 0 ∧ x_2 ≤
1) ∧ x_2 - y < x_2 - x_3 ∧ ((x_3 : Int) + 1 = (y : Int) ∧ True) ∧ (False ∧ True) ∧ True) ∨ ∃ (y : Nat), ((1 < x_2 ∨ 0 < y) ∧ y ≤ x_2) ∧ x_2 - y < x_2 - x_3 ∧ ((x_3 : Int) + 1 = (y : Int) ∧ True) ∧ (((0 : Nat) = 0 ∧ (hfL
(pqS (zrL n.toNat x) s x_1) x_2 ++ hfR (pqS (zrL n.toNat x) s x_1) x_2 x_3).length + 1 = (hfL (pqS (zrL n.toNat x) s x_1) x_2 ++ hfR (pqS (zrL n.toNat x) s x_1) x_2 y).length ∧ True) ∧ True) ∧ List.take (hfL (pqS (zrL
n.toNat x) s x_1) x_2 ++ hfR (pqS (zrL n.toNat x) s x_1) x_2 x_3).length (hfL (pqS (zrL n.toNat x) s x_1) x_2 ++ hfR (pqS (zrL n.toNat x) s x_1) x_2 x_3) ++ List.take 1 [D.int (nAt (nthD (pqS (zrL n.toNat x) s x_1) x_2)
x_3)] = hfL (pqS (zrL n.toNat x) s x_1) x_2 ++ hfR (pqS (zrL n.toNat x) s x_1) x_2 y ∧ True))) ∧ (((x_3 : Int) < (x_2 : Int) → False) → fits64 ((x_2 : Int) + 1) ∧ ((∃ (y : Nat), (y ≤ 1 ∧ y ≤ (pqS (zrL n.toNat x) s
x_1).length) ∧ (pqS (zrL n.toNat x) s x_1).length - y < (pqS (zrL n.toNat x) s x_1).length - x_2 ∧ ((x_2 : Int) + 1 = (y : Int) ∧ True) ∧ (False ∧ True) ∧ True) ∨ ∃ (y : Nat), (1 < y ∧ y ≤ (pqS (zrL n.toNat x) s
x_1).length) ∧ (pqS (zrL n.toNat x) s x_1).length - y < (pqS (zrL n.toNat x) s x_1).length - x_2 ∧ ((x_2 : Int) + 1 = (y : Int) ∧ True) ∧ (((0 : Nat) = 0 ∧ (hfL (pqS (zrL n.toNat x) s x_1) x_2 ++ hfR (pqS (zrL n.toNat x)
s x_1) x_2 x_3).length = (hfL (pqS (zrL n.toNat x) s x_1) y).length ∧ True) ∧ True) ∧ hfL (pqS (zrL n.toNat x) s x_1) x_2 ++ hfR (pqS (zrL n.toNat x) s x_1) x_2 x_3 = hfL (pqS (zrL n.toNat x) s x_1) y ∧ True))) ∧ (((x_2
: Int) < (n.toNat : Int) → False) → D.nil = mtL n s)) ∧ ∀ (x_2 : Nat), 1 < x_2 ∧ x_2 ≤ (pqS (zrL n.toNat x) s x_1).length → (pqS (zrL n.toNat x) s x_1).length - x_2 < LIM ∧ ((x_2 : Int) < (n.toNat : Int) → ((∃ (x : Nat),
(x = 0 ∧ x_2 ≤ 1) ∧ (0 = (x : Int) ∧ True) ∧ (False ∧ True) ∧ True) ∨ ∃ (x_3 : Nat), ((1 < x_2 ∨ 0 < x_3) ∧ x_3 ≤ x_2) ∧ (0 = (x_3 : Int) ∧ True) ∧ (((0 : Nat) = 0 ∧ (hfL (pqS (zrL n.toNat x) s x_1) x_2).length = (hfL
(pqS (zrL n.toNat x) s x_1) x_2 ++ hfR (pqS (zrL n.toNat x) s x_1) x_2 x_3).length ∧ True) ∧ True) ∧ hfL (pqS (zrL n.toNat x) s x_1) x_2 = hfL (pqS (zrL n.toNat x) s x_1) x_2 ++ hfR (pqS (zrL n.toNat x) s x_1) x_2 x_3 ∧
True) ∧ (∀ (x_3 : Nat), x_3 = 0 ∧ x_2 ≤ 1 → x_2 - x_3 < LIM ∧ ((x_3 : Int) < (x_2 : Int) → rdC n.toNat (pqS (zrL n.toNat x) s x_1) x_2 x_3 (0 + 1 ≤ [D.int (nAt (nthD (pqS (zrL n.toNat x) s x_1) x_2) x_3)].length ∧ (1 :
Nat) ≤ 16777216 ∧ fits64 ((x_3 : Int) + 1) ∧ ((∃ (y : Nat), (y = 0 ∧ x_2 ≤ 1) ∧ x_2 - y < x_2 - x_3 ∧ ((x_3 : Int) + 1 = (y : Int) ∧ True) ∧ (False ∧ True) ∧ True) ∨ ∃ (y : Nat), ((1 < x_2 ∨ 0 < y) ∧ y ≤ x_2) ∧ x_2 - y <
x_2 - x_3 ∧ ((x_3 : Int) + 1 = (y : Int) ∧ True) ∧ (((0 : Nat) = 0 ∧ 1 = (hfL (pqS (zrL n.toNat x) s x_1) x_2 ++ hfR (pqS (zrL n.toNat x) s x_1) x_2 y).length ∧ True) ∧ True) ∧ List.take 1 [D.int (nAt (nthD (pqS (zrL
n.toNat x) s x_1) x_2) x_3)] = hfL (pqS (zrL n.toNat x) s x_1) x_2 ++ hfR (pqS (zrL n.toNat x) s x_1) x_2 y ∧ True))) ∧ (((x_3 : Int) < (x_2 : Int) → False) → fits64 ((x_2 : Int) + 1) ∧ ((∃ (y : Nat), (y ≤ 1 ∧ y ≤ (pqS
(zrL n.toNat x) s x_1).length) ∧ (pqS (zrL n.toNat x) s x_1).length - y < (pqS (zrL n.toNat x) s x_1).length - x_2 ∧ ((x_2 : Int) + 1 = (y : Int) ∧ True) ∧ (True ∧ True) ∧ True) ∨ ∃ (y : Nat), (1 < y ∧ y ≤ (pqS (zrL
n.toNat x) s x_1).length) ∧ (pqS (zrL n.toNat x) s x_1).length - y < (pqS (zrL n.toNat x) s x_1).length - x_2 ∧ ((x_2 : Int) + 1 = (y : Int) ∧ True) ∧ (False ∧ True) ∧ hfL (pqS (zrL n.toNat x) s x_1) x_2 = hfL (pqS (zrL
n.toNat x) s x_1) y ∧ True))) ∧ ∀ (x_3 : Nat), (1 < x_2 ∨ 0 < x_3) ∧ x_3 ≤ x_2 → x_2 - x_3 < LIM ∧ ((x_3 : Int) < (x_2 : Int) → rdC n.toNat (pqS (zrL n.toNat x) s x_1) x_2 x_3 (0 + 1 ≤ [D.int (nAt (nthD (pqS (zrL n.toNat
x) s x_1) x_2) x_3)].length ∧ 0 + (hfL (pqS (zrL n.toNat x) s x_1) x_2 ++ hfR (pqS (zrL n.toNat x) s x_1) x_2 x_3).length ≤ (hfL (pqS (zrL n.toNat x) s x_1) x_2 ++ hfR (pqS (zrL n.toNat x) s x_1) x_2 x_3).length ∧ (hfL
(pqS (zrL n.toNat x) s x_1) x_2 ++ hfR (pqS (zrL n.toNat x) s x_1) x_2 x_3).length + 1 ≤ 16777216 ∧ fits64 ((x_3 : Int) + 1) ∧ ((∃ (y : Nat), (y = 0 ∧ x_2 ≤ 1) ∧ x_2 - y < x_2 - x_3 ∧ False) ∨ ∃ (y : Nat), ((1 < x_2 ∨ 0
< y) ∧ y ≤ x_2) ∧ x_2 - y < x_2 - x_3 ∧ ((x_3 : Int) + 1 = (y : Int) ∧ True) ∧ (((0 : Nat) = 0 ∧ (hfL (pqS (zrL n.toNat x) s x_1) x_2 ++ hfR (pqS (zrL n.toNat x) s x_1) x_2 x_3).length + 1 = (hfL (pqS (zrL n.toNat x) s
x_1) x_2 ++ hfR (pqS (zrL n.toNat x) s x_1) x_2 y).length ∧ True) ∧ True) ∧ List.take (hfL (pqS (zrL n.toNat x) s x_1) x_2 ++ hfR (pqS (zrL n.toNat x) s x_1) x_2 x_3).length (hfL (pqS (zrL n.toNat x) s x_1) x_2 ++ hfR
(pqS (zrL n.toNat x) s x_1) x_2 x_3) ++ List.take 1 [D.int (nAt (nthD (pqS (zrL n.toNat x) s x_1) x_2) x_3)] = hfL (pqS (zrL n.toNat x) s x_1) x_2 ++ hfR (pqS (zrL n.toNat x) s x_1) x_2 y ∧ True))) ∧ (((x_3 : Int) < (x_2
: Int) → False) → fits64 ((x_2 : Int) + 1) ∧ ((∃ (y : Nat), (y ≤ 1 ∧ y ≤ (pqS (zrL n.toNat x) s x_1).length) ∧ (pqS (zrL n.toNat x) s x_1).length - y < (pqS (zrL n.toNat x) s x_1).length - x_2 ∧ ((x_2 : Int) + 1 = (y :
Int) ∧ True) ∧ (False ∧ True) ∧ True) ∨ ∃ (y : Nat), (1 < y ∧ y ≤ (pqS (zrL n.toNat x) s x_1).length) ∧ (pqS (zrL n.toNat x) s x_1).length - y < (pqS (zrL n.toNat x) s x_1).length - x_2 ∧ ((x_2 : Int) + 1 = (y : Int) ∧
True) ∧ (((0 : Nat) = 0 ∧ (hfL (pqS (zrL n.toNat x) s x_1) x_2 ++ hfR (pqS (zrL n.toNat x) s x_1) x_2 x_3).length = (hfL (pqS (zrL n.toNat x) s x_1) y).length ∧ True) ∧ True) ∧ hfL (pqS (zrL n.toNat x) s x_1) x_2 ++ hfR
(pqS (zrL n.toNat x) s x_1) x_2 x_3 = hfL (pqS (zrL n.toNat x) s x_1) y ∧ True))) ∧ (((x_2 : Int) < (n.toNat : Int) → False) → 0 + (hfL (pqS (zrL n.toNat x) s x_1) x_2).length ≤ (hfL (pqS (zrL n.toNat x) s x_1)
x_2).length ∧ D.list (List.take (hfL (pqS (zrL n.toNat x) s x_1) x_2).length (hfL (pqS (zrL n.toNat x) s x_1) x_2)) = mtL n s))))) := by intros; kernel_rfl
theorem hfL_len (q : List D) : ∀ x, x ≤ 64 → (hfL q x).length ≤ 64 * x
 | 0, _ => Nat.le_refl _
 | x + 1, h => by
  have ih := hfL_len q x (by omega)
  show (hfL q x ++ hfR q x x).length ≤ _
  rw [List.length_append]
  unfold hfR
  rw [List.length_map, List.length_range]; omega
theorem hfR_len (q : List D) (x y : Nat) : (hfR q x y).length = y := by unfold hfR; rw [List.length_map, List.length_range]
theorem hfR_succ (q : List D) (x y : Nat) : hfR q x (y + 1) = hfR q x y ++ [.int (nAt (nthD q x) y)] := by unfold hfR; rw [List.range_succ, List.map_append]; rfl
theorem hf_next (q : List D) (x y : Nat) : List.take (hfL q x ++ hfR q x y).length (hfL q x ++ hfR q x y) ++ List.take 1 [D.int (nAt (nthD q x) y)] = hfL q x ++ hfR q x (y + 1) := by
 rw [List.take_of_length_le (Nat.le_refl _), hfR_succ, List.append_assoc]; rfl
theorem hf_len1 (q : List D) (x y : Nat) : (hfL q x ++ hfR q x y).length + 1 = (hfL q x ++ hfR q x (y + 1)).length := by
 rw [hfR_succ, ← List.append_assoc, List.length_append (bs := [_])]; rfl
theorem hf_zero (q : List D) : ∀ x, x ≤ 1 → hfL q x = []
 | 0, _ => rfl
 | 1, _ => rfl
theorem hf_pos (q : List D) {x : Nat} (h : 1 < x) : ∃ a l, hfL q x = a :: l := by
 have : 0 < (hfL q x).length := by
  obtain ⟨y, rfl⟩ : ∃ y, x = y + 1 := ⟨x - 1, by omega⟩
  show 0 < (hfL q y ++ hfR q y y).length
  rw [List.length_append, hfR_len]; omega
 cases he : hfL q x with
 | nil => rw [he] at this; simp at this
 | cons a l => exact ⟨a, l, rfl⟩
theorem rd_ok {m : Nat} {K : Int} {f : Nat → Nat → Int} {q : List D} {x y : Nat} {k : Prop} (h : sqF m K f q) (hx : x < m) (hy : y < m) (hk : k) : rdC m q x y k := by
 have hq := h.eq
 subst hq
 have hl := sqD_len m f
 have hrl : (D.list (rowF m f x)).len = m := rowF_len m f x
 unfold rdC
 rw [sqD_at f hx, hl, hrl]
 refine ⟨by omega, by omega, hx, (by intro h; cases h), fun r hr => ?_, fun _ h => by cases h⟩
 have hrm : r.length = m := by cases hr; exact rowF_len m f _
 rw [hrm]
 exact ⟨by omega, by omega, hx, by omega, hx, hy, hk⟩
theorem s26 (n : Int) (s : D) (h : goodS n s) : symFun (ctx mt2 mtAnn) 8 38 [.int .i64 n, .dat 22 s] (.dat 27 (mtL n s)) := by
 rw [vc26]
 unfold mtL
 have hn := h.n1
 have hb := h.big.out.1
 have hz := zr_sq n.toNat
 refine ⟨h.big, fun hne => (hne (by rw [h.chk])).elim, fun _ => ⟨by omega, Int.le_refl _, by omega, by omega, ⟨0, Nat.zero_le _, ⟨rfl, trivial⟩, ⟨zr_zero _, allNil_rep _⟩, trivial⟩, fun x hx => ?_⟩⟩
 have hx : x ≤ n.toNat := hx
 refine ⟨limS (by omega), fun hlt => ⟨by omega, Int.le_refl _, by omega, by omega, by omega, by omega, by rw [zr_len _ _ hx]; omega, trivial, rfl, by rw [List.length_replicate], rfl, ⟨by omega, by omega⟩, x + 1, by show x + 1 ≤ _; omega, by omega, ⟨by omega, trivial⟩, zr_next (by omega), trivial⟩, fun hge => ?_⟩
 have hge := not_of hge
 have ex : x = n.toNat := by omega
 subst ex
 refine ⟨⟨0, Nat.zero_le _, ⟨rfl, trivial⟩, rfl, trivial⟩, fun i hi => ?_⟩
 have hi : i ≤ s.len := hi
 have hSq := pqS_sq h hz i hi
 refine ⟨limS (by omega), fun hlt2 => ?_, fun hge2 => ?_⟩
 ·have hi2 : i < s.len := by omega
  have hev := (h.big.out.2 i hi2).out.1
  refine ⟨by omega, hlt2, ⟨0, Nat.zero_le _, ⟨rfl, trivial⟩, rfl, trivial⟩, fun j hj => ?_⟩
  have hj : j ≤ (el s i).len := hj
  have hEq := pqE_sq (L := 1000) hSq (fun j hj => good_tabs h hi2 hj) j hj
  refine ⟨limS (by omega), fun hlt3 => ?_, fun hge3 => ?_⟩
  ·have hj2 : j < (el s i).len := by omega
   obtain ⟨htl, htr⟩ := good_tabs h hi2 hj2
   refine ⟨by omega, hlt3, ⟨0, Nat.zero_le _, ⟨rfl, trivial⟩, rfl, trivial⟩, fun z hz2 => ?_⟩
   have hz2 : z ≤ (el (el s i) j).len := hz2
   have hNq := pqN_sq (L := 1000) hEq htr htl z hz2
   refine ⟨limS (by omega), fun hlt4 => ?_, fun hge4 => ?_⟩
   ·have hz3 : z < (el (el s i) j).len := by omega
    have hsl := sub_len (t := el (el s i) j) hz2
    refine ⟨by omega, hlt4, Int.le_refl _, by omega, by omega, ⟨0, Nat.zero_le _, ⟨rfl, trivial⟩, rfl, trivial⟩, fun w hw => ?_⟩
    have hw : w ≤ z := hw
    have hIq := pqI_sq hNq htr hz3 w hw
    refine ⟨limS (by omega), fun hlt5 => ?_, fun hge5 => ?_⟩
    ·have hw2 : w < z := by omega
     have ea := sub_at (t := el (el s i) j) hw2
     have r1 := htr w (by omega)
     have r2 := htr z hz3
     rw [ea]
     exact ⟨by omega, hlt5, wr_ok hIq (by omega) r1 r2 (wr_ok (incZ_sq hIq r1 r2) (by omega) r2 r1 ⟨⟨by omega, by omega⟩, w + 1, by show w + 1 ≤ _; omega, by omega, ⟨by omega, trivial⟩, rfl, trivial⟩)⟩
    ·have hge5 := not_of hge5
     have ew : w = z := by omega
     subst ew
     exact ⟨⟨by omega, by omega⟩, w + 1, by show w + 1 ≤ _; omega, by omega, ⟨by omega, trivial⟩, rfl, trivial⟩
   ·have hge4 := not_of hge4
    have ez : z = (el (el s i) j).len := by omega
    subst ez
    exact ⟨⟨by omega, by omega⟩, j + 1, by show j + 1 ≤ _; omega, by omega, ⟨by omega, trivial⟩, rfl, trivial⟩
  ·have hge3 := not_of hge3
   have ej : j = (el s i).len := by omega
   subst ej
   exact ⟨⟨by omega, by omega⟩, i + 1, by show i + 1 ≤ _; omega, by omega, ⟨by omega, trivial⟩, rfl, trivial⟩
 ·have hge2 := not_of hge2
  have ei : i = s.len := by omega
  subst ei
  have hl : (pqS (zrL n.toNat n.toNat) s s.len).length = n.toNat := by rw [hSq.eq, sqD_len]
  generalize pqS (zrL n.toNat n.toNat) s s.len = q at hSq hl ⊢
  have hbd : ∀ x y, x < n.toNat → y ≤ x → (hfL q x ++ hfR q x y).length ≤ 5000 := fun x y hx hy => by
   have := hfL_len q x (by omega)
   rw [List.length_append, hfR_len]; omega
  rw [hl]
  refine ⟨.inl ⟨0, ⟨Nat.zero_le _, Nat.zero_le _⟩, ⟨rfl, trivial⟩, ⟨trivial, trivial⟩, trivial⟩, fun x ⟨hx1, hx2⟩ => ?_, fun x ⟨hx1, hx2⟩ => ?_⟩
  ·refine ⟨limS (by omega), fun hlt3 => ⟨.inl ⟨0, ⟨rfl, hx1⟩, ⟨rfl, trivial⟩, ⟨trivial, trivial⟩, trivial⟩, fun y ⟨hy1, _⟩ => ?_, fun y ⟨hy1, hy2⟩ => ?_⟩, fun hge3 => ?_⟩
   ·subst hy1
    refine ⟨limS (by omega), fun hlt4 => rd_ok hSq (by omega) (by omega) ⟨Nat.le_refl _, by decide, ⟨by decide, by decide⟩, .inr ⟨1, ⟨.inr (by omega), by omega⟩, by omega, ⟨rfl, trivial⟩, ⟨⟨rfl, ?_, trivial⟩, trivial⟩, ?_, trivial⟩⟩, fun hge4 => ⟨⟨by omega, by omega⟩, .inl ⟨x + 1, ⟨by have := not_of hge4; omega, by omega⟩, by omega, ⟨by omega, trivial⟩, ⟨trivial, trivial⟩, trivial⟩⟩⟩
    ·rw [hf_zero q x hx1]; rfl
    ·rw [hf_zero q x hx1]; rfl
   ·have hb5 := hbd x y (by omega) hy2
    refine ⟨limS (by omega), fun hlt4 => rd_ok hSq (by omega) (by omega) ⟨Nat.le_refl _, by omega, by omega, ⟨by omega, by omega⟩, .inr ⟨y + 1, ⟨.inr (by omega), by omega⟩, by omega, ⟨by omega, trivial⟩, ⟨⟨rfl, hf_len1 _ _ _, trivial⟩, trivial⟩, hf_next _ _ _, trivial⟩⟩, fun hge4 => ?_⟩
    have hge4 := not_of hge4
    have ey : y = x := by omega
    subst ey
    exact ⟨⟨by omega, by omega⟩, .inr ⟨y + 1, ⟨by omega, by omega⟩, by omega, ⟨by omega, trivial⟩, ⟨⟨rfl, rfl, trivial⟩, trivial⟩, rfl, trivial⟩⟩
   ·have hge3 := not_of hge3
    have : x = n.toNat := by omega
    subst this
    rw [hf_zero q _ hx1]; rfl
  ·refine ⟨limS (by omega), fun hlt3 => ⟨.inr ⟨0, ⟨.inl hx1, Nat.zero_le _⟩, ⟨rfl, trivial⟩, ⟨⟨rfl, by unfold hfR; simp, trivial⟩, trivial⟩, by unfold hfR; simp, trivial⟩, fun y ⟨_, hy⟩ => by omega, fun y ⟨hy1, hy2⟩ => ?_⟩, fun hge3 => ?_⟩
   ·have hb5 := hbd x y (by omega) hy2
    refine ⟨limS (by omega), fun hlt4 => rd_ok hSq (by omega) (by omega) ⟨Nat.le_refl _, by omega, by omega, ⟨by omega, by omega⟩, .inr ⟨y + 1, ⟨.inl hx1, by omega⟩, by omega, ⟨by omega, trivial⟩, ⟨⟨rfl, hf_len1 _ _ _, trivial⟩, trivial⟩, hf_next _ _ _, trivial⟩⟩, fun hge4 => ?_⟩
    have hge4 := not_of hge4
    have ey : y = x := by omega
    subst ey
    exact ⟨⟨by omega, by omega⟩, .inr ⟨y + 1, ⟨by omega, by omega⟩, by omega, ⟨by omega, trivial⟩, ⟨⟨rfl, rfl, trivial⟩, trivial⟩, rfl, trivial⟩⟩
   ·have hge3 := not_of hge3
    have : x = n.toNat := by omega
    subst this
    obtain ⟨a, l, he⟩ := hf_pos q hx1
    rw [he]
    exact ⟨by omega, by rw [List.take_of_length_le (Nat.le_refl _)]; rfl⟩
theorem vc8m : ∀ (n : Int) (s : D), symFun (ctx mt3 mtAnn) 3 (11 : FuncId) [V.int IntKind.i64 n, V.dat (22 : TypeId) s] (V.int IntKind.i64 (mxZ (mtL n s) (mtL n s).len)) = (goodS n s ∧ (∃ (x : Nat), x.le (mtL n s).len ∧
(0 = (x : Int) ∧ 0 = mxZ (mtL n s) x ∧ True) ∧ True) ∧ ∀ (x : Nat), x.le (mtL n s).len → (mtL n s).len - x < LIM ∧ ((x : Int) < (↑(mtL n s).len : Int) → 0 ≤ (x : Int) ∧ (x : Int) < (↑(mtL n s).len : Int) ∧ fits64 ((x :
Int) + 1) ∧ ∃ (y : Nat), y.le (mtL n s).len ∧ (mtL n s).len - y < (mtL n s).len - x ∧ ((x : Int) + 1 = (y : Int) ∧ max (mxZ (mtL n s) x) (nAt (mtL n s) x) = mxZ (mtL n s) y ∧ True) ∧ True) ∧ (((x : Int) < (↑(mtL n s).len
: Int) → False) → mxZ (mtL n s) x = mxZ (mtL n s) (mtL n s).len)) := by intros; kernel_rfl
theorem vc12m : ∀ (n : Int) (s : D), symFun (ctx mt3 mtAnn) 3 (12 : FuncId) [V.int IntKind.i64 n, V.dat (22 : TypeId) s] (V.int IntKind.i64 (leastZ (mtL n s))) = (goodS n s ∧ ((↑(mtL n s).len : Int) = 0 → 0 = leastZ (mtL
n s)) ∧ (((↑(mtL n s).len : Int) = 0 → False) → ((mtL n s).len ≤ 4096 ∧ 0 < (mtL n s).len) ∧ mnZ (mtL n s) ((mtL n s).len - 1) = leastZ (mtL n s))) := by intros; kernel_rfl
theorem vc14m : ∀ (n : Int) (s : D), symFun (ctx mt3 mtAnn) 3 (13 : FuncId) [V.int IntKind.i64 n, V.dat (22 : TypeId) s] (V.int IntKind.i64 (sqSum (mtL n s) (mtL n s).len)) = (goodS n s ∧ (∃ (x : Nat), x.le (mtL n s).len
∧ (0 = (x : Int) ∧ 0 = sqSum (mtL n s) x ∧ True) ∧ True) ∧ ∀ (x : Nat), x.le (mtL n s).len → (mtL n s).len - x < LIM ∧ ((x : Int) < (↑(mtL n s).len : Int) → 0 ≤ (x : Int) ∧ (x : Int) < (↑(mtL n s).len : Int) ∧ fits64
(nAt (mtL n s) x * nAt (mtL n s) x) ∧ fits64 (sqSum (mtL n s) x + nAt (mtL n s) x * nAt (mtL n s) x) ∧ fits64 ((x : Int) + 1) ∧ ∃ (y : Nat), y.le (mtL n s).len ∧ (mtL n s).len - y < (mtL n s).len - x ∧ ((x : Int) + 1 =
(y : Int) ∧ sqSum (mtL n s) x + nAt (mtL n s) x * nAt (mtL n s) x = sqSum (mtL n s) y ∧ True) ∧ True) ∧ (((x : Int) < (↑(mtL n s).len : Int) → False) → sqSum (mtL n s) x = sqSum (mtL n s) (mtL n s).len)) := by intros; kernel_rfl
theorem vc31n : ∀ (l : D), symFun (ctx cc0 mtAnn) 3 (39 : FuncId) [V.dat (27 : TypeId) l] (V.int IntKind.i64 (mnZ l (l.len - 1))) = (((l.len : Int) < 1 → False) ∧ (((l.len : Int) < 1 → False) → (0 : Int) ≤ 0 ∧ 0 < (l.len
: Int) ∧ (∃ (x : Nat), (x + 1).le l.len ∧ (1 = (↑(x + 1) : Int) ∧ nAt l 0 = mnZ l x ∧ True) ∧ True) ∧ ∀ (x : Nat), (x + 1).le l.len → l.len - x < LIM ∧ ((↑(x + 1) : Int) < (l.len : Int) → 0 ≤ (↑(x + 1) : Int) ∧ (↑(x + 1)
: Int) < (l.len : Int) ∧ fits64 ((↑(x + 1) : Int) + 1) ∧ ∃ (y : Nat), (y + 1).le l.len ∧ l.len - y < l.len - x ∧ ((↑(x + 1) : Int) + 1 = (↑(y + 1) : Int) ∧ min (mnZ l x) (nAt l (x + 1)) = mnZ l y ∧ True) ∧ True) ∧ (((↑(x
+ 1) : Int) < (l.len : Int) → False) → mnZ l x = mnZ l (l.len - 1)))) := by intros; kernel_rfl
section
variable {n e : Int} {l : D}
theorem ok_siz {n : Int} {l : D} (h : okS n l) : l.len ≤ 64 ∧ ∀ i, i < l.len → 1 ≤ nAt l i ∧ nAt l i ≤ n := by
 have h1 := fit_sum h.fit (Nat.le_refl _)
 have h2 := h.n2
 refine ⟨by omega, fun i hi => ⟨h.fit.out.1 i hi, ?_⟩⟩
 have h3 := fit_le h.fit hi
 have h4 := fit_sum h.fit (Nat.le_of_lt hi)
 omega
end
theorem errG_all {n : Int} {l : List D} (h : errG n l = 0) : ¬ outP n l ∧ (∀ v : Nat, (v : Int) < n → cntF l v ≤ 1) ∧ ∀ v : Nat, (v : Int) < n → cntF l v ≠ 0 := by
 unfold errG at h
 split at h
 ·cases h
 ·rename_i ho
  split at h
  ·cases h
  ·rename_i h1
   split at h
   ·cases h
   ·rename_i h2
    refine ⟨ho, fun v hv => ?_, fun v hv e => h2 ⟨v, ⟨by omega, hv⟩, e⟩⟩
    by_cases hc : 1 < cntF l v
    ·exact absurd ⟨(v : Int), ⟨by omega, hv⟩, hc⟩ h1
    ·omega
theorem tot_ge {ev : D} {k : Nat} (h : ∀ i, i < k → 1 ≤ (el ev i).len) : ∀ x, x ≤ k → x ≤ totE ev x
 | 0, _ => Nat.zero_le _
 | x + 1, hx => by
  have ih := tot_ge h x (by omega)
  have := h x (by omega)
  show x + 1 ≤ totE ev x + (el ev x).len
  omega
theorem tot_el {ev : D} {j k : Nat} (h : j < k) : (el ev j).len ≤ totE ev k := by
 have h1 : totE ev (j + 1) ≤ totE ev k := tot_mono' ev (by omega)
 have : totE ev (j + 1) = totE ev j + (el ev j).len := rfl
 omega
theorem errE_all {n : Int} {ev : D} (h : errE n .nil ev = 0) : (∀ j, j < ev.len → 1 ≤ (el ev j).len) ∧ errG n (flatL ev ev.len) = 0 := by
 unfold errE at h
 split at h
 ·cases h
 ·rename_i he
  refine ⟨fun j hj => ?_, h⟩
  by_cases h0 : (el ev j).len = 0
  ·exact absurd (.inl ⟨j, hj, h0⟩) he
  ·omega
theorem good_flat {n : Int} {s : D} (h : goodS n s) {i : Nat} (hi : i < s.len) : totE (el s i) (el s i).len ≤ n.toNat := by
 obtain ⟨_, h2⟩ := errE_all (good_err h hi)
 obtain ⟨h3, h4, _⟩ := errG_all h2
 have hn := h.n1
 have e1 := sumC_all (n := n.toNat) (l := flatL (el s i) (el s i).len) (fun a ha => by have := in_of h3 a ha; omega)
 have e2 := sumC_le (l := flatL (el s i) (el s i).len) n.toNat (fun v hv => h4 v (by omega))
 rw [e1, flat_len] at e2
 omega
theorem good_small {n : Int} {s : D} (h : goodS n s) {i : Nat} (hi : i < s.len) : (el s i).len ≤ 64 ∧ ∀ j, j < (el s i).len → (el (el s i) j).len ≤ 64 := by
 have h1 := good_flat h hi
 have hn := h.n1
 have h2 := tot_ge (errE_all (good_err h hi)).1 (el s i).len (Nat.le_refl _)
 refine ⟨by omega, fun j hj => ?_⟩
 have := tot_el (ev := el s i) hj
 omega
theorem good_lim {n : Int} {s : D} (h : goodS n s) : s.len ≤ 64 := by
 have hc := h.chk
 unfold chk at hc
 split at hc
 ·cases hc
 ·split at hc
  ·cases hc
  ·omega
theorem pqS_small {n : Int} {s : D} (h : goodS n s) {q : List D} (hq : sqF n.toNat 0 (fun _ _ => 0) q) : ∀ i, i ≤ s.len → sqF n.toNat (524288 * i) (mtS s i) (pqS q s i)
 | 0, _ => hq.cong (by omega) fun _ _ _ _ => rfl
 | i + 1, hi => by
  have hb := good_small h (show i < s.len by omega)
  exact (pqE_sq (L := 64) (pqS_small h hq i (by omega)) (fun j hj => ⟨hb.2 j hj, (good_tabs h (show i < s.len by omega) hj).2⟩) (el s i).len (Nat.le_refl _)).cong (by omega) fun _ _ _ _ => rfl
theorem mt_sq {n : Int} {s : D} (h : goodS n s) : sqF n.toNat 33554432 (mtS s s.len) (pqS (zrL n.toNat n.toNat) s s.len) := by
 have := good_lim h
 exact (pqS_small h (zr_sq n.toNat) s.len (Nat.le_refl _)).cong (by omega) fun _ _ _ _ => rfl
theorem hfR_sq {m : Nat} {f : Nat → Nat → Int} {x y : Nat} (hx : x < m) (hy : y ≤ m) : hfR (sqD m f) x y = (List.range y).map fun b => .int (f x b) := by
 unfold hfR
 refine List.map_congr_left fun b hb => ?_
 rw [sqD_at f hx]
 show D.int (nAt (D.list (rowF m f x)) b) = _
 unfold nAt
 show D.int (nthD (rowF m f x) b).asInt = _
 rw [rowF_at f x (show b < m by have := List.mem_range.1 hb; omega)]; rfl
theorem hfL_mem {m : Nat} {f : Nat → Nat → Int} {d : D} : ∀ x, x ≤ m → (d ∈ hfL (sqD m f) x ↔ ∃ a b, b < a ∧ a < x ∧ d = .int (f a b))
 | 0, _ => ⟨fun h => (by cases h), fun ⟨a, b, _, h, _⟩ => (by omega)⟩
 | x + 1, hx => by
  have ih := hfL_mem (m := m) (d := d) (f := f) x (by omega)
  show d ∈ hfL (sqD m f) x ++ hfR (sqD m f) x x ↔ _
  rw [List.mem_append, ih, hfR_sq (by omega) (by omega), List.mem_map]
  constructor
  ·rintro (⟨a, b, h1, h2, h3⟩ | ⟨b, h1, h2⟩)
   ·exact ⟨a, b, h1, by omega, h3⟩
   ·exact ⟨x, b, List.mem_range.1 h1, by omega, h2.symm⟩
  ·rintro ⟨a, b, h1, h2, h3⟩
   by_cases e : a = x
   ·subst e; exact .inr ⟨b, List.mem_range.2 h1, h3.symm⟩
   ·exact .inl ⟨a, b, h1, by omega, h3⟩
theorem hfL_len2 (q : List D) : ∀ x, 2 * (hfL q x).length = x * (x - 1)
 | 0 => rfl
 | 1 => rfl
 | x + 2 => by
  have ih := hfL_len2 q (x + 1)
  show 2 * (hfL q (x + 1) ++ hfR q (x + 1) (x + 1)).length = _
  rw [List.length_append, hfR_len, Nat.mul_add, ih]
  show (x + 1) * x + 2 * (x + 1) = (x + 2) * (x + 1)
  rw [Nat.mul_comm (x + 1) x, ← Nat.add_mul]
theorem mt_mem {n : Int} {s : D} (h : goodS n s) {d : D} : d ∈ (mtL n s).asList ↔ ∃ a b, b < a ∧ a < n.toNat ∧ d = .int (mtS s s.len a b) := by
 unfold mtL
 rw [listD_list, (mt_sq h).eq]
 exact hfL_mem n.toNat (Nat.le_refl _)
theorem mt_len (n : Int) (s : D) : 2 * (mtL n s).len = n.toNat * (n.toNat - 1) := by
 unfold mtL
 rw [listD_len]
 exact hfL_len2 _ _
theorem mt_num {n : Int} {s : D} (h : goodS n s) : numL 33554432 (mtL n s) := by
 have hn := h.n1
 have hl := mt_len n s
 have hm : n.toNat * (n.toNat - 1) ≤ 64 * 64 := Nat.mul_le_mul (by omega) (by omega)
 refine ⟨by omega, fun i hi => ?_⟩
 have hmem : nthD (mtL n s).asList i ∈ (mtL n s).asList := nthD_mem hi
 obtain ⟨a, b, h1, h2, h3⟩ := (mt_mem h).1 hmem
 have hr := (mt_sq h).bnd a b (by omega) (by omega)
 unfold nAt
 rw [h3]
 exact hr
theorem sq_rng {a K : Int} (h0 : 0 ≤ a) (h1 : a ≤ K) : 0 ≤ a * a ∧ a * a ≤ K * K := ⟨Int.mul_nonneg h0 h0, Int.mul_le_mul h1 h1 h0 (by omega)⟩
theorem sqSum_rng {l : D} (h : numL 33554432 l) : ∀ x, x ≤ l.len → 0 ≤ sqSum l x ∧ sqSum l x ≤ 1125899906842624 * x
 | 0, _ => ⟨Int.le_refl _, Int.le_refl _⟩
 | x + 1, hx => by
  have ih := sqSum_rng h x (by omega)
  have h1 := h.rng x (by omega)
  have h2 := sq_rng h1.1 h1.2
  show 0 ≤ sqSum l x + nAt l x * nAt l x ∧ sqSum l x + nAt l x * nAt l x ≤ _
  omega
theorem s8m (n : Int) (s : D) (h : goodS n s) : symFun (ctx mt3 mtAnn) 3 11 [.int .i64 n, .dat 22 s] (.int .i64 (mxZ (mtL n s) (mtL n s).len)) := by
 rw [vc8m]
 have hl := (mt_num h).len
 refine ⟨h, ⟨0, Nat.zero_le _, ⟨rfl, rfl, trivial⟩, trivial⟩, fun x hx => ?_⟩
 have hx : x ≤ (mtL n s).len := hx
 refine ⟨limS (by omega), fun hlt => ⟨by omega, hlt, ⟨by omega, by omega⟩, x + 1, by show x + 1 ≤ _; omega, by omega, ⟨by omega, rfl, trivial⟩, trivial⟩, fun hge => ?_⟩
 have hge := not_of hge
 rw [show x = (mtL n s).len by omega]
theorem s31n (l : D) (h1 : l.len ≤ 4096) (h2 : 0 < l.len) : symFun (ctx cc0 mtAnn) 3 39 [.dat 27 l] (.int .i64 (mnZ l (l.len - 1))) := by
 rw [vc31n]
 refine ⟨fun h => by omega, fun _ => ⟨Int.le_refl _, by omega, ⟨0, by show 0 + 1 ≤ _; omega, ⟨rfl, rfl, trivial⟩, trivial⟩, fun x hx => ?_⟩⟩
 have hx : x + 1 ≤ l.len := hx
 refine ⟨limS (by omega), fun hlt => ⟨by omega, hlt, ⟨by omega, by omega⟩, x + 1, by show x + 1 + 1 ≤ _; omega, by omega, ⟨by omega, rfl, trivial⟩, trivial⟩, fun hge => ?_⟩
 have hge := not_of hge
 rw [show x = l.len - 1 by omega]
theorem s12m (n : Int) (s : D) (h : goodS n s) : symFun (ctx mt3 mtAnn) 3 12 [.int .i64 n, .dat 22 s] (.int .i64 (leastZ (mtL n s))) := by
 rw [vc12m]
 have hl := (mt_num h).len
 generalize mtL n s = l at hl ⊢
 refine ⟨h, fun h0 => ?_, fun h0 => ?_⟩
 ·have h0 : l.len = 0 := Int.ofNat.inj h0
  unfold leastZ; rw [if_pos h0]
 ·have h0 : ¬ l.len = 0 := fun e => h0 (congrArg Int.ofNat e)
  refine ⟨⟨hl, by omega⟩, ?_⟩
  unfold leastZ; rw [if_neg h0]
theorem s14m (n : Int) (s : D) (h : goodS n s) : symFun (ctx mt3 mtAnn) 3 13 [.int .i64 n, .dat 22 s] (.int .i64 (sqSum (mtL n s) (mtL n s).len)) := by
 rw [vc14m]
 have hN := mt_num h
 have hl := hN.len
 refine ⟨h, ⟨0, Nat.zero_le _, ⟨rfl, rfl, trivial⟩, trivial⟩, fun x hx => ?_⟩
 have hx : x ≤ (mtL n s).len := hx
 refine ⟨limS (by omega), fun hlt => ?_, fun hge => ?_⟩
 ·have h1 := hN.rng x (by omega)
  have h2 := sq_rng h1.1 h1.2
  have h3 := sqSum_rng hN x hx
  exact ⟨by omega, hlt, ⟨by omega, by omega⟩, ⟨by omega, by omega⟩, ⟨by omega, by omega⟩, x + 1, by show x + 1 ≤ _; omega, by omega, ⟨by omega, rfl, trivial⟩, trivial⟩
 ·have hge := not_of hge
  rw [show x = (mtL n s).len by omega]
end Go.Ev
