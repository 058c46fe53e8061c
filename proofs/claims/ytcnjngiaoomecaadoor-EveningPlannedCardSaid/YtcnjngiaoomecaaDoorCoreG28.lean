/-
  Part of the engine that the claim is proved with: it states nothing of the document by itself.
-/
import Derived.Test.YtcnjngiaoomecaaDoorCoreG27
import Derived.Test.YtcnjngiaoomecaaDoorCoreG26
import Derived.Test.YtcnjngiaoomecaaDoorCoreG25

section
open Go.Proofs
namespace Go.Ev
set_option maxRecDepth 100000
set_option maxHeartbeats 4000000
def innC (n : Int) (M : List D) (sz : D) (x_1 : Nat) : Prop := (((∃ (x_2 : Nat), x_2 = (0 : Nat) ∧ ((0 : Int) = (↑x_2 : Int) ∧ True ∧ True) ∧ ftS M sz x_1 = flS M (ftS M sz x_1) x_2 ∧ True) ∨ ∃ (x_2 :
Nat), ((0 : Nat) < x_2 ∧ x_2 ≤ (nAt sz x_1).toNat) ∧ ((0 : Int) = (↑x_2 : Int) ∧ False ∧ True) ∧ ftS M sz x_1 = flS M (ftS M sz x_1) x_2 ∧ False ∧ True) ∧ (∀ (x_2 : Nat), x_2 = (0 : Nat) → (nAt sz
x_1).toNat - x_2 < LIM ∧ ((↑x_2 : Int) < nAt sz x_1 → (0 : Nat) + n.toNat ≤ M.length ∧ noHole M ∧ (isSliceT (ctxj pw1 pwAnn pwJoin).P (22 : TypeId) = true ∧ sizeIs (ctxj pw1 pwAnn pwJoin).P (22 :
TypeId) (1 : Nat) = true) ∧ (0 : Nat) + n.toNat ≤ (flS M (ftS M sz x_1) x_2).length ∧ nxO (D.list (List.take n.toNat M)) (D.list (List.take n.toNat (flS M (ftS M sz x_1) x_2))) D.nil ∧ (0 : Int) ≤ nxB
(List.take n.toNat M) (List.take n.toNat (flS M (ftS M sz x_1) x_2)) [] (List.take n.toNat M).length ∧ nxB (List.take n.toNat M) (List.take n.toNat (flS M (ftS M sz x_1) x_2)) [] (List.take n.toNat
M).length < (↑n.toNat : Int) ∧ (nxB (List.take n.toNat M) (List.take n.toNat (flS M (ftS M sz x_1) x_2)) [] (List.take n.toNat M).length).toNat < (flS M (ftS M sz x_1) x_2).length ∧ (0 : Nat) + (1 :
Nat) ≤ [D.int (nxB (List.take n.toNat M) (List.take n.toNat (flS M (ftS M sz x_1) x_2)) [] (List.take n.toNat M).length)].length ∧ (1 : Nat) ≤ (16777216 : Nat) ∧ ((-9223372036854775808 : Int) ≤ (↑x_2
: Int) + (1 : Int) ∧ (↑x_2 : Int) + (1 : Int) < (9223372036854775808 : Int)) ∧ ((∃ (y : Nat), y = (0 : Nat) ∧ (nAt sz x_1).toNat - y < (nAt sz x_1).toNat - x_2 ∧ ((↑x_2 : Int) + (1 : Int) = (↑y : Int)
∧ False ∧ True) ∧ (flS M (ftS M sz x_1) x_2).set (nxB (List.take n.toNat M) (List.take n.toNat (flS M (ftS M sz x_1) x_2)) [] (List.take n.toNat M).length).toNat (D.bool (true = true)) = flS M (ftS M
sz x_1) y ∧ True) ∨ ∃ (y : Nat), ((0 : Nat) < y ∧ y ≤ (nAt sz x_1).toNat) ∧ (nAt sz x_1).toNat - y < (nAt sz x_1).toNat - x_2 ∧ ((↑x_2 : Int) + (1 : Int) = (↑y : Int) ∧ ((0 : Nat) = (0 : Nat) ∧ (1 :
Nat) = y ∧ True) ∧ True) ∧ (flS M (ftS M sz x_1) x_2).set (nxB (List.take n.toNat M) (List.take n.toNat (flS M (ftS M sz x_1) x_2)) [] (List.take n.toNat M).length).toNat (D.bool (true = true)) = flS
M (ftS M sz x_1) y ∧ List.take (1 : Nat) [D.int (nxB (List.take n.toNat M) (List.take n.toNat (flS M (ftS M sz x_1) x_2)) [] (List.take n.toNat M).length)] = flG M (ftS M sz x_1) y ∧ True)) ∧ (((↑x_2
: Int) < nAt sz x_1 → False) → ∃ (x_3 : Unit), True ∧ (False ∧ True) ∧ flS M (ftS M sz x_1) x_2 = ftS M sz (x_1 + (1 : Nat)) ∧ False ∧ True)) ∧ ∀ (x_2 : Nat), (0 : Nat) < x_2 ∧ x_2 ≤ (nAt sz
x_1).toNat → (nAt sz x_1).toNat - x_2 < LIM ∧ ((↑x_2 : Int) < nAt sz x_1 → (0 : Nat) + n.toNat ≤ M.length ∧ noHole M ∧ (isSliceT (ctxj pw1 pwAnn pwJoin).P (22 : TypeId) = true ∧ sizeIs (ctxj pw1 pwAnn
pwJoin).P (22 : TypeId) (1 : Nat) = true) ∧ (0 : Nat) + n.toNat ≤ (flS M (ftS M sz x_1) x_2).length ∧ (0 : Nat) + x_2 ≤ (flG M (ftS M sz x_1) x_2).length ∧ nxO (D.list (List.take n.toNat M)) (D.list
(List.take n.toNat (flS M (ftS M sz x_1) x_2))) (D.list (List.take x_2 (flG M (ftS M sz x_1) x_2))) ∧ (0 : Int) ≤ nxB (List.take n.toNat M) (List.take n.toNat (flS M (ftS M sz x_1) x_2)) (List.take
x_2 (flG M (ftS M sz x_1) x_2)) (List.take n.toNat M).length ∧ nxB (List.take n.toNat M) (List.take n.toNat (flS M (ftS M sz x_1) x_2)) (List.take x_2 (flG M (ftS M sz x_1) x_2)) (List.take n.toNat
M).length < (↑n.toNat : Int) ∧ (nxB (List.take n.toNat M) (List.take n.toNat (flS M (ftS M sz x_1) x_2)) (List.take x_2 (flG M (ftS M sz x_1) x_2)) (List.take n.toNat M).length).toNat < (flS M (ftS M
sz x_1) x_2).length ∧ (0 : Nat) + (1 : Nat) ≤ [D.int (nxB (List.take n.toNat M) (List.take n.toNat (flS M (ftS M sz x_1) x_2)) (List.take x_2 (flG M (ftS M sz x_1) x_2)) (List.take n.toNat
M).length)].length ∧ (0 : Nat) + x_2 ≤ (flG M (ftS M sz x_1) x_2).length ∧ x_2 + (1 : Nat) ≤ (16777216 : Nat) ∧ ((-9223372036854775808 : Int) ≤ (↑x_2 : Int) + (1 : Int) ∧ (↑x_2 : Int) + (1 : Int) <
(9223372036854775808 : Int)) ∧ ((∃ (y : Nat), y = (0 : Nat) ∧ (nAt sz x_1).toNat - y < (nAt sz x_1).toNat - x_2 ∧ ((↑x_2 : Int) + (1 : Int) = (↑y : Int) ∧ False ∧ True) ∧ (flS M (ftS M sz x_1)
x_2).set (nxB (List.take n.toNat M) (List.take n.toNat (flS M (ftS M sz x_1) x_2)) (List.take x_2 (flG M (ftS M sz x_1) x_2)) (List.take n.toNat M).length).toNat (D.bool (true = true)) = flS M (ftS M
sz x_1) y ∧ True) ∨ ∃ (y : Nat), ((0 : Nat) < y ∧ y ≤ (nAt sz x_1).toNat) ∧ (nAt sz x_1).toNat - y < (nAt sz x_1).toNat - x_2 ∧ ((↑x_2 : Int) + (1 : Int) = (↑y : Int) ∧ ((0 : Nat) = (0 : Nat) ∧ x_2 +
(1 : Nat) = y ∧ True) ∧ True) ∧ (flS M (ftS M sz x_1) x_2).set (nxB (List.take n.toNat M) (List.take n.toNat (flS M (ftS M sz x_1) x_2)) (List.take x_2 (flG M (ftS M sz x_1) x_2)) (List.take n.toNat
M).length).toNat (D.bool (true = true)) = flS M (ftS M sz x_1) y ∧ List.take x_2 (flG M (ftS M sz x_1) x_2) ++ List.take (1 : Nat) [D.int (nxB (List.take n.toNat M) (List.take n.toNat (flS M (ftS M sz
x_1) x_2)) (List.take x_2 (flG M (ftS M sz x_1) x_2)) (List.take n.toNat M).length)] = flG M (ftS M sz x_1) y ∧ True)) ∧ (((↑x_2 : Int) < nAt sz x_1 → False) → ∃ (x_3 : Unit), True ∧ (((0 : Nat) = (0
: Nat) ∧ x_2 = (nAt sz x_1).toNat ∧ True) ∧ True) ∧ flS M (ftS M sz x_1) x_2 = ftS M sz (x_1 + (1 : Nat)) ∧ flG M (ftS M sz x_1) x_2 = flG M (ftS M sz x_1) (nAt sz x_1).toNat ∧ True))
theorem vc7 : ∀ (n e : Int) (sz : D), symFun (ctxj pw1 pwAnn pwJoin) 8 (7 : FuncId) [V.int IntKind.i64 n, V.dat (22 : TypeId) sz, V.int IntKind.i64 e] (V.tup [V.dat (25 : TypeId) (planD n sz e), V.int IntKind.i64 (planX
n sz e)]) = ((1 ≤ n → (((n ≤ 64 → False) → False) → ((1 ≤ n ∧ n ≤ 64) ∧ sz.len ≤ 16777216) ∧ ((fitP n sz → False) → D.nil = planD n sz e ∧ 90 = planX n sz e ∧ True) ∧ (((fitP n sz → False) → False) → (0 ≤ e → ((e ≤ 64 →
False) → D.nil = planD n sz e ∧ 2 = planX n sz e ∧ True) ∧ (((e ≤ 64 → False) → False) → 0 ≤ n ∧ n ≤ n ∧ n ≤ 16777216 ∧ 24 * n.toNat ≤ 281474976710656 ∧ (∃ (x : Nat), x.le n.toNat ∧ (0 = (x : Int) ∧ True) ∧
(List.replicate n.toNat D.nil = zrL n.toNat x ∧ allNil (List.replicate n.toNat D.nil)) ∧ True) ∧ ∀ (x : Nat), x.le n.toNat → n.toNat - x < LIM ∧ ((x : Int) < n → 0 ≤ n ∧ n ≤ n ∧ n ≤ 16777216 ∧ 8 * n.toNat ≤
281474976710656 ∧ 0 ≤ (x : Int) ∧ (x : Int) < (n.toNat : Int) ∧ x < (zrL n.toNat x).length ∧ True ∧ (0 : Nat) = 0 ∧ n.toNat = (List.replicate n.toNat (D.int 0)).length ∧ n.toNat = n.toNat ∧ fits64 ((x : Int) + 1) ∧ ∃ (y
: Nat), y.le n.toNat ∧ n.toNat - y < n.toNat - x ∧ ((x : Int) + 1 = (y : Int) ∧ True) ∧ (zrL n.toNat x).set x (D.list (List.replicate n.toNat (D.int 0))) = zrL n.toNat y ∧ True) ∧ (((x : Int) < n → False) → 0 ≤ e ∧ e ≤ e
∧ e ≤ 16777216 ∧ 24 * e.toNat ≤ 281474976710656 ∧ (∃ (x_1 : Nat), x_1.le e.toNat ∧ (0 = (x_1 : Int) ∧ True) ∧ (List.replicate e.toNat D.nil = pnL n.toNat sz x_1 ++ List.replicate (e.toNat - x_1) D.nil ∧ allNil
(List.replicate e.toNat D.nil)) ∧ zrL n.toNat x = pmQ n.toNat sz x_1 ∧ True) ∧ ∀ (x : Nat), x.le e.toNat → e.toNat - x < LIM ∧ ((x : Int) < (e.toNat : Int) → 0 ≤ (n.toNat : Int) ∧ (n.toNat : Int) ≤ (n.toNat : Int) ∧
(n.toNat : Int) ≤ 16777216 ∧ 1 * n.toNat ≤ 281474976710656 ∧ (((∃ (x_1 : Nat), x_1 = 0 ∧ (0 = (x_1 : Int) ∧ True ∧ True) ∧ List.replicate n.toNat (D.bool (false = true)) = ftS (pmQ n.toNat sz x) sz x_1 ∧ True) ∨ ∃ (x_1 :
Nat), (0 < x_1 ∧ x_1 ≤ sz.len) ∧ (0 = (x_1 : Int) ∧ False ∧ True) ∧ List.replicate n.toNat (D.bool (false = true)) = ftS (pmQ n.toNat sz x) sz x_1 ∧ False ∧ True) ∧ (∀ (x_1 : Nat), x_1 = 0 → sz.len - x_1 < LIM ∧ ((x_1 :
Int) < (sz.len : Int) → 0 ≤ (x_1 : Int) ∧ (x_1 : Int) < (sz.len : Int) ∧ innC n (pmQ n.toNat sz x) sz x_1 ∧ ∀ (x_2 : Unit), True → 0 + (nAt sz x_1).toNat ≤ (flG (pmQ n.toNat sz x) (ftS (pmQ n.toNat sz x) sz x_1) (nAt sz
x_1).toNat).length ∧ 0 + 1 ≤ [D.list (List.take (nAt sz x_1).toNat (flG (pmQ n.toNat sz x) (ftS (pmQ n.toNat sz x) sz x_1) (nAt sz x_1).toNat))].length ∧ (1 : Nat) ≤ 16777216 ∧ fits64 ((x_1 : Int) + 1) ∧ ((∃ (y : Nat), y
= 0 ∧ sz.len - y < sz.len - x_1 ∧ ((x_1 : Int) + 1 = (y : Int) ∧ False ∧ True) ∧ ftS (pmQ n.toNat sz x) sz (x_1 + 1) = ftS (pmQ n.toNat sz x) sz y ∧ True) ∨ ∃ (y : Nat), (0 < y ∧ y ≤ sz.len) ∧ sz.len - y < sz.len - x_1 ∧
((x_1 : Int) + 1 = (y : Int) ∧ ((0 : Nat) = 0 ∧ 1 = y ∧ True) ∧ True) ∧ ftS (pmQ n.toNat sz x) sz (x_1 + 1) = ftS (pmQ n.toNat sz x) sz y ∧ List.take 1 [D.list (List.take (nAt sz x_1).toNat (flG (pmQ n.toNat sz x) (ftS
(pmQ n.toNat sz x) sz x_1) (nAt sz x_1).toNat))] = ftT (pmQ n.toNat sz x) sz y ∧ True)) ∧ (((x_1 : Int) < (sz.len : Int) → False) → ∃ (x_2 : Unit), True ∧ (False ∧ True) ∧ ftS (pmQ n.toNat sz x) sz x_1 = ftS (pmQ n.toNat
sz x) sz sz.len ∧ False ∧ True)) ∧ ∀ (x_1 : Nat), 0 < x_1 ∧ x_1 ≤ sz.len → sz.len - x_1 < LIM ∧ ((x_1 : Int) < (sz.len : Int) → 0 ≤ (x_1 : Int) ∧ (x_1 : Int) < (sz.len : Int) ∧ innC n (pmQ n.toNat sz x) sz x_1 ∧ ∀ (x_2 :
Unit), True → 0 + (nAt sz x_1).toNat ≤ (flG (pmQ n.toNat sz x) (ftS (pmQ n.toNat sz x) sz x_1) (nAt sz x_1).toNat).length ∧ 0 + 1 ≤ [D.list (List.take (nAt sz x_1).toNat (flG (pmQ n.toNat sz x) (ftS (pmQ n.toNat sz x) sz
x_1) (nAt sz x_1).toNat))].length ∧ 0 + x_1 ≤ (ftT (pmQ n.toNat sz x) sz x_1).length ∧ x_1 + 1 ≤ 16777216 ∧ fits64 ((x_1 : Int) + 1) ∧ ((∃ (y : Nat), y = 0 ∧ sz.len - y < sz.len - x_1 ∧ ((x_1 : Int) + 1 = (y : Int) ∧
False ∧ True) ∧ ftS (pmQ n.toNat sz x) sz (x_1 + 1) = ftS (pmQ n.toNat sz x) sz y ∧ True) ∨ ∃ (y : Nat), (0 < y ∧ y ≤ sz.len) ∧ sz.len - y < sz.len - x_1 ∧ ((x_1 : Int) + 1 = (y : Int) ∧ ((0 : Nat) = 0 ∧ x_1 + 1 = y ∧
True) ∧ True) ∧ ftS (pmQ n.toNat sz x) sz (x_1 + 1) = ftS (pmQ n.toNat sz x) sz y ∧ List.take x_1 (ftT (pmQ n.toNat sz x) sz x_1) ++ List.take 1 [D.list (List.take (nAt sz x_1).toNat (flG (pmQ n.toNat sz x) (ftS (pmQ
n.toNat sz x) sz x_1) (nAt sz x_1).toNat))] = ftT (pmQ n.toNat sz x) sz y ∧ True)) ∧ (((x_1 : Int) < (sz.len : Int) → False) → ∃ (x_2 : Unit), True ∧ (((0 : Nat) = 0 ∧ x_1 = sz.len ∧ True) ∧ True) ∧ ftS (pmQ n.toNat sz
x) sz x_1 = ftS (pmQ n.toNat sz x) sz sz.len ∧ ftT (pmQ n.toNat sz x) sz x_1 = ftT (pmQ n.toNat sz x) sz sz.len ∧ True)) ∧ ∀ (x_1 : Unit), True → 0 ≤ (x : Int) ∧ (x : Int) < (e.toNat : Int) ∧ x < (pnL n.toNat sz x ++
List.replicate (e.toNat - x) D.nil).length ∧ True ∧ (0 : Nat) = 0 ∧ sz.len = (ftT (pmQ n.toNat sz x) sz sz.len).length ∧ True ∧ 0 ≤ (x : Int) ∧ (x : Int) < (e.toNat : Int) ∧ x < ((pnL n.toNat sz x ++ List.replicate
(e.toNat - x) D.nil).set x (D.list (ftT (pmQ n.toNat sz x) sz sz.len))).length ∧ (nthD ((pnL n.toNat sz x ++ List.replicate (e.toNat - x) D.nil).set x (D.list (ftT (pmQ n.toNat sz x) sz sz.len))) x = D.nil → (∃ (x_2 :
Nat), x_2.le sz.len ∧ (0 = (x_2 : Int) ∧ True) ∧ pmQ n.toNat sz x = pqE (pmQ n.toNat sz x) (D.list (ftT (pmQ n.toNat sz x) sz sz.len)) x_2 ∧ True) ∧ ∀ (x_2 : Nat), x_2.le sz.len → sz.len - x_2 < LIM ∧ ((x_2 : Int) < 0 →
False ∧ ∀ (x_3 : D), x_3 = nthD (ftT (pmQ n.toNat sz x) sz sz.len) x_2 → (∃ (x_4 : Nat), x_4.le x_3.len ∧ (0 = (x_4 : Int) ∧ True) ∧ pqE (pmQ n.toNat sz x) (D.list (ftT (pmQ n.toNat sz x) sz sz.len)) x_2 = pqN (pqE (pmQ
n.toNat sz x) (D.list (ftT (pmQ n.toNat sz x) sz sz.len)) x_2) x_3 x_4 ∧ True) ∧ ∀ (x_4 : Nat), x_4.le x_3.len → x_3.len - x_4 < LIM ∧ ((x_4 : Int) < (x_3.len : Int) → 0 ≤ (x_4 : Int) ∧ (x_4 : Int) < (x_3.len : Int) ∧ (0
: Int) ≤ 0 ∧ 0 ≤ (x_4 : Int) ∧ (x_4 : Int) ≤ (x_3.len : Int) ∧ (∃ (x_5 : Nat), x_5.le x_4 ∧ (0 = (x_5 : Int) ∧ True) ∧ pqN (pqE (pmQ n.toNat sz x) (D.list (ftT (pmQ n.toNat sz x) sz sz.len)) x_2) x_3 x_4 = (pqI (pqN (pqE
(pmQ n.toNat sz x) (D.list (ftT (pmQ n.toNat sz x) sz sz.len)) x_2) x_3 x_4) x_3 x_4 x_5) ∧ True) ∧ ∀ (x_5 : Nat), x_5.le x_4 → x_4 - x_5 < LIM ∧ ((x_5 : Int) < (↑(x_3.sub 0 x_4).len : Int) → 0 ≤ (x_5 : Int) ∧ (x_5 :
Int) < (↑(x_3.sub 0 x_4).len : Int) ∧ wrC n.toNat (pqI (pqN (pqE (pmQ n.toNat sz x) (D.list (ftT (pmQ n.toNat sz x) sz sz.len)) x_2) x_3 x_4) x_3 x_4 x_5) (nAt (x_3.sub 0 x_4) x_5) (nAt x_3 x_4) (wrC n.toNat (incZ (pqI
(pqN (pqE (pmQ n.toNat sz x) (D.list (ftT (pmQ n.toNat sz x) sz sz.len)) x_2) x_3 x_4) x_3 x_4 x_5) (nAt (x_3.sub 0 x_4) x_5) (nAt x_3 x_4)) (nAt x_3 x_4) (nAt (x_3.sub 0 x_4) x_5) (fits64 ((x_5 : Int) + 1) ∧ ∃ (y :
Nat), y.le x_4 ∧ x_4 - y < x_4 - x_5 ∧ ((x_5 : Int) + 1 = (y : Int) ∧ True) ∧ (incZ (incZ (pqI (pqN (pqE (pmQ n.toNat sz x) (D.list (ftT (pmQ n.toNat sz x) sz sz.len)) x_2) x_3 x_4) x_3 x_4 x_5) (nAt (x_3.sub 0 x_4) x_5)
(nAt x_3 x_4)) (nAt x_3 x_4) (nAt (x_3.sub 0 x_4) x_5)) = pqI (pqN (pqE (pmQ n.toNat sz x) (D.list (ftT (pmQ n.toNat sz x) sz sz.len)) x_2) x_3 x_4) x_3 x_4 y ∧ True))) ∧ (((x_5 : Int) < (↑(x_3.sub 0 x_4).len : Int) →
False) → fits64 ((x_4 : Int) + 1) ∧ ∃ (y : Nat), y.le x_3.len ∧ x_3.len - y < x_3.len - x_4 ∧ ((x_4 : Int) + 1 = (y : Int) ∧ True) ∧ (pqI (pqN (pqE (pmQ n.toNat sz x) (D.list (ftT (pmQ n.toNat sz x) sz sz.len)) x_2) x_3
x_4) x_3 x_4 x_5) = pqN (pqE (pmQ n.toNat sz x) (D.list (ftT (pmQ n.toNat sz x) sz sz.len)) x_2) x_3 y ∧ True)) ∧ (((x_4 : Int) < (x_3.len : Int) → False) → fits64 ((x_2 : Int) + 1) ∧ ∃ (y : Nat), y.le sz.len ∧ sz.len -
y < sz.len - x_2 ∧ ((x_2 : Int) + 1 = (y : Int) ∧ True) ∧ pqN (pqE (pmQ n.toNat sz x) (D.list (ftT (pmQ n.toNat sz x) sz sz.len)) x_2) x_3 x_4 = pqE (pmQ n.toNat sz x) (D.list (ftT (pmQ n.toNat sz x) sz sz.len)) y ∧
True)) ∧ (((x_2 : Int) < 0 → False) → fits64 ((x : Int) + 1) ∧ ∃ (y : Nat), y.le e.toNat ∧ e.toNat - y < e.toNat - x ∧ ((x : Int) + 1 = (y : Int) ∧ True) ∧ (pnL n.toNat sz x ++ List.replicate (e.toNat - x) D.nil).set x
(D.list (ftT (pmQ n.toNat sz x) sz sz.len)) = pnL n.toNat sz y ++ List.replicate (e.toNat - y) D.nil ∧ pqE (pmQ n.toNat sz x) (D.list (ftT (pmQ n.toNat sz x) sz sz.len)) x_2 = pmQ n.toNat sz y ∧ True)) ∧ (∀ (r : List D),
nthD ((pnL n.toNat sz x ++ List.replicate (e.toNat - x) D.nil).set x (D.list (ftT (pmQ n.toNat sz x) sz sz.len))) x = D.list r → (∃ (x_2 : Nat), x_2.le sz.len ∧ (0 = (x_2 : Int) ∧ True) ∧ pmQ n.toNat sz x = pqE (pmQ
n.toNat sz x) (D.list (ftT (pmQ n.toNat sz x) sz sz.len)) x_2 ∧ True) ∧ ∀ (x_2 : Nat), x_2.le sz.len → sz.len - x_2 < LIM ∧ ((x_2 : Int) < (r.length : Int) → (0 ≤ (x_2 : Int) ∧ (x_2 : Int) < (r.length : Int) ∧ x < ((pnL
n.toNat sz x ++ List.replicate (e.toNat - x) D.nil).set x (D.list (ftT (pmQ n.toNat sz x) sz sz.len))).length ∧ (x_2 : Int) < (↑(nthD ((pnL n.toNat sz x ++ List.replicate (e.toNat - x) D.nil).set x (D.list (ftT (pmQ
n.toNat sz x) sz sz.len))) x).len : Int) ∧ x < ((pnL n.toNat sz x ++ List.replicate (e.toNat - x) D.nil).set x (D.list (ftT (pmQ n.toNat sz x) sz sz.len))).length ∧ x_2 < (nthD ((pnL n.toNat sz x ++ List.replicate
(e.toNat - x) D.nil).set x (D.list (ftT (pmQ n.toNat sz x) sz sz.len))) x).len ∧ ∃ (x_3 : D), x_3 = nthD (ftT (pmQ n.toNat sz x) sz sz.len) x_2 ∧ (el (nthD ((pnL n.toNat sz x ++ List.replicate (e.toNat - x) D.nil).set x
(D.list (ftT (pmQ n.toNat sz x) sz sz.len))) x) x_2 = x_3 ∧ True) ∧ True) ∧ ∀ (x_3 : D), x_3 = nthD (ftT (pmQ n.toNat sz x) sz sz.len) x_2 → (∃ (x_4 : Nat), x_4.le x_3.len ∧ (0 = (x_4 : Int) ∧ True) ∧ pqE (pmQ n.toNat sz
x) (D.list (ftT (pmQ n.toNat sz x) sz sz.len)) x_2 = pqN (pqE (pmQ n.toNat sz x) (D.list (ftT (pmQ n.toNat sz x) sz sz.len)) x_2) x_3 x_4 ∧ True) ∧ ∀ (x_4 : Nat), x_4.le x_3.len → x_3.len - x_4 < LIM ∧ ((x_4 : Int) <
(x_3.len : Int) → 0 ≤ (x_4 : Int) ∧ (x_4 : Int) < (x_3.len : Int) ∧ (0 : Int) ≤ 0 ∧ 0 ≤ (x_4 : Int) ∧ (x_4 : Int) ≤ (x_3.len : Int) ∧ (∃ (x_5 : Nat), x_5.le x_4 ∧ (0 = (x_5 : Int) ∧ True) ∧ pqN (pqE (pmQ n.toNat sz x)
(D.list (ftT (pmQ n.toNat sz x) sz sz.len)) x_2) x_3 x_4 = (pqI (pqN (pqE (pmQ n.toNat sz x) (D.list (ftT (pmQ n.toNat sz x) sz sz.len)) x_2) x_3 x_4) x_3 x_4 x_5) ∧ True) ∧ ∀ (x_5 : Nat), x_5.le x_4 → x_4 - x_5 < LIM ∧
((x_5 : Int) < (↑(x_3.sub 0 x_4).len : Int) → 0 ≤ (x_5 : Int) ∧ (x_5 : Int) < (↑(x_3.sub 0 x_4).len : Int) ∧ wrC n.toNat (pqI (pqN (pqE (pmQ n.toNat sz x) (D.list (ftT (pmQ n.toNat sz x) sz sz.len)) x_2) x_3 x_4) x_3 x_4
x_5) (nAt (x_3.sub 0 x_4) x_5) (nAt x_3 x_4) (wrC n.toNat (incZ (pqI (pqN (pqE (pmQ n.toNat sz x) (D.list (ftT (pmQ n.toNat sz x) sz sz.len)) x_2) x_3 x_4) x_3 x_4 x_5) (nAt (x_3.sub 0 x_4) x_5) (nAt x_3 x_4)) (nAt x_3
x_4) (nAt (x_3.sub 0 x_4) x_5) (fits64 ((x_5 : Int) + 1) ∧ ∃ (y : Nat), y.le x_4 ∧ x_4 - y < x_4 - x_5 ∧ ((x_5 : Int) + 1 = (y : Int) ∧ True) ∧ (incZ (incZ (pqI (pqN (pqE (pmQ n.toNat sz x) (D.list (ftT (pmQ n.toNat sz
x) sz sz.len)) x_2) x_3 x_4) x_3 x_4 x_5) (nAt (x_3.sub 0 x_4) x_5) (nAt x_3 x_4)) (nAt x_3 x_4) (nAt (x_3.sub 0 x_4) x_5)) = pqI (pqN (pqE (pmQ n.toNat sz x) (D.list (ftT (pmQ n.toNat sz x) sz sz.len)) x_2) x_3 x_4) x_3
x_4 y ∧ True))) ∧ (((x_5 : Int) < (↑(x_3.sub 0 x_4).len : Int) → False) → fits64 ((x_4 : Int) + 1) ∧ ∃ (y : Nat), y.le x_3.len ∧ x_3.len - y < x_3.len - x_4 ∧ ((x_4 : Int) + 1 = (y : Int) ∧ True) ∧ (pqI (pqN (pqE (pmQ
n.toNat sz x) (D.list (ftT (pmQ n.toNat sz x) sz sz.len)) x_2) x_3 x_4) x_3 x_4 x_5) = pqN (pqE (pmQ n.toNat sz x) (D.list (ftT (pmQ n.toNat sz x) sz sz.len)) x_2) x_3 y ∧ True)) ∧ (((x_4 : Int) < (x_3.len : Int) →
False) → fits64 ((x_2 : Int) + 1) ∧ ∃ (y : Nat), y.le sz.len ∧ sz.len - y < sz.len - x_2 ∧ ((x_2 : Int) + 1 = (y : Int) ∧ True) ∧ pqN (pqE (pmQ n.toNat sz x) (D.list (ftT (pmQ n.toNat sz x) sz sz.len)) x_2) x_3 x_4 = pqE
(pmQ n.toNat sz x) (D.list (ftT (pmQ n.toNat sz x) sz sz.len)) y ∧ True)) ∧ (((x_2 : Int) < (r.length : Int) → False) → fits64 ((x : Int) + 1) ∧ ∃ (y : Nat), y.le e.toNat ∧ e.toNat - y < e.toNat - x ∧ ((x : Int) + 1 = (y
: Int) ∧ True) ∧ (pnL n.toNat sz x ++ List.replicate (e.toNat - x) D.nil).set x (D.list (ftT (pmQ n.toNat sz x) sz sz.len)) = pnL n.toNat sz y ++ List.replicate (e.toNat - y) D.nil ∧ pqE (pmQ n.toNat sz x) (D.list (ftT
(pmQ n.toNat sz x) sz sz.len)) x_2 = pmQ n.toNat sz y ∧ True)) ∧ ∀ (n_1 : Int), nthD ((pnL n.toNat sz x ++ List.replicate (e.toNat - x) D.nil).set x (D.list (ftT (pmQ n.toNat sz x) sz sz.len))) x = D.int n_1 → False) ∧
(((x : Int) < (e.toNat : Int) → False) → (0 + e.toNat ≤ (pnL n.toNat sz x ++ List.replicate (e.toNat - x) D.nil).length ∧ noHole (pnL n.toNat sz x ++ List.replicate (e.toNat - x) D.nil) ∧ (isSliceT (ctxj pw1 pwAnn
pwJoin).P (41 : TypeId) = true ∧ sizeIs (ctxj pw1 pwAnn pwJoin).P (41 : TypeId) 1 = true) ∧ D.list (List.take e.toNat (pnL n.toNat sz x ++ List.replicate (e.toNat - x) D.nil)) = planD n sz e) ∧ 0 = planX n sz e ∧
True)))) ∧ ((0 ≤ e → False) → D.nil = planD n sz e ∧ 2 = planX n sz e ∧ True))) ∧ ((n ≤ 64 → False) → D.nil = planD n sz e ∧ 90 = planX n sz e ∧ True)) ∧ ((1 ≤ n → False) → D.nil = planD n sz e ∧ 90 = planX n sz e ∧
True)) := by intros; kernel_rfl
theorem sl22 : isSliceT (ctxj pw1 pwAnn pwJoin).P (22 : TypeId) = true ∧ sizeIs (ctxj pw1 pwAnn pwJoin).P (22 : TypeId) (1 : Nat) = true := by constructor <;> kernel_rfl
theorem sl41 : isSliceT (ctxj pw1 pwAnn pwJoin).P (41 : TypeId) = true ∧ sizeIs (ctxj pw1 pwAnn pwJoin).P (41 : TypeId) (1 : Nat) = true := by constructor <;> kernel_rfl
theorem tk {l : List D} {k : Nat} (h : l.length = k) : List.take k l = l := List.take_of_length_le (by omega)
structure fiP (n : Nat) (M : List D) (sz : D) : Prop where
 n64 : n ≤ 64
 fit : fitP (n : Nat) sz
 len : M.length = n
 sq : ∃ f, sqF n 12800000000 f M
theorem fi_nx {n : Nat} {M : List D} {sz : D} (h : fiP n M sz) {j x : Nat} (hj : j < sz.len) (hx : (x : Int) ≤ nAt sz j) :
  (flS M (ftS M sz j) x).length = n ∧ (flG M (ftS M sz j) x).length = x ∧ nxO (.list M) (.list (flS M (ftS M sz j) x)) (listD (flG M (ftS M sz j) x)) := by
 have hev := ft_ok h.fit h.len j (by omega)
 have hl := fit_le h.fit hj
 have ht := hev.tot
 have hp := (fit_sum h.fit (Nat.le_of_lt hj)).1
 obtain ⟨h1, h2⟩ := fl_ok hev.st h.len x (by omega)
 obtain ⟨f, hf⟩ := h.sq
 have hn := h.n64
 refine ⟨h1.len, h2, ⟨by show M.length ≤ 64; rw [h.len]; exact hn, by show (flS M (ftS M sz j) x).length = M.length; rw [h1.len, h.len], by rw [listD_len, h2]; omega, fun k hk => ?_, fun a ha => ?_, fun a b ha hb => ?_⟩⟩
 ·rw [listD_len] at hk
  have hm : nthD (flG M (ftS M sz j) x) k ∈ flG M (ftS M sz j) x := nthD_mem hk
  obtain ⟨v, hv, e⟩ := h1.rng _ (List.mem_append_right _ hm)
  have e2 : nAt (listD (flG M (ftS M sz j) x)) k = (v : Nat) := by unfold nAt; rw [listD_list, e]; rfl
  rw [e2]
  show 0 ≤ (v : Int) ∧ (v : Int) < (M.length : Int)
  rw [h.len]; omega
 ·have ha : a < n := by rw [← h.len]; exact ha
  show (nthD M a).len = M.length
  rw [h.len, hf.eq, sqD_at _ ha]; exact rowF_len _ _ _
 ·have ha : a < n := by rw [← h.len]; exact ha
  have hb : b < n := by rw [← h.len]; exact hb
  have e : nAt (el (.list M) a) b = f a b := by
   show (nthD (nthD M a).asList b).asInt = _
   rw [hf.eq, sqD_at _ ha]
   show (nthD (rowF n f a) b).asInt = _
   rw [rowF_at _ _ hb]; rfl
  rw [e]
  have := hf.bnd a b ha hb
  omega
theorem fi_w {n : Nat} {M : List D} {sz : D} (h : fiP n M sz) {j x : Nat} (hj : j < sz.len) (hx : (x : Int) < nAt sz j) :
  ∃ w : Nat, w < n ∧ nxB M (flS M (ftS M sz j) x) (flG M (ftS M sz j) x) M.length = (w : Nat) := by
 have hev := ft_ok h.fit h.len j (by omega)
 have hl := fit_le h.fit hj
 have ht := hev.tot
 have hp := (fit_sum h.fit (Nat.le_of_lt hj)).1
 exact fl_nx hev.st h.len x (by omega)
theorem one_pos {n : Int} {sz : D} (h : fitP n sz) {j : Nat} (hj : j < sz.len) : 1 ≤ nAt sz j := h.out.1 j hj
theorem fit_pos {n : Int} {sz : D} (h1 : 1 ≤ n) (h : fitP n sz) : 0 < sz.len := by
 rcases Nat.eq_zero_or_pos sz.len with h0 | h0
 ·have := h.out.2
  rw [h0] at this
  have : (0 : Int) = n := this
  omega
 ·exact h0
theorem listD_cons_of {l : List D} (h : 0 < l.length) : listD l = .list l := by cases l with | nil => exact absurd h (Nat.lt_irrefl 0) | cons a l => rfl
theorem sPl (n e : Int) (sz : D) (hz : sz.len ≤ 16777216) : symFun (ctxj pw1 pwAnn pwJoin) 8 7 [.int .i64 n, .dat 22 sz, .int .i64 e] (.tup [.dat 25 (planD n sz e), .int .i64 (planX n sz e)]) := by
 have x90 : ¬ ((1 ≤ n ∧ n ≤ 64) ∧ fitP n sz) → D.nil = planD n sz e ∧ (90 : Int) = planX n sz e ∧ True := fun h => by
  unfold planD planX
  rw [if_neg (fun k => h k.1), if_pos h]; exact ⟨rfl, rfl, trivial⟩
 have x2 : ((1 ≤ n ∧ n ≤ 64) ∧ fitP n sz) → ¬ (0 ≤ e ∧ e ≤ 64) → D.nil = planD n sz e ∧ (2 : Int) = planX n sz e ∧ True := fun h h2 => by
  unfold planD planX
  rw [if_neg (fun k => h2 k.2), if_neg (fun k => k h), if_pos h2]; exact ⟨rfl, rfl, trivial⟩
 rw [vc7]
 refine ⟨fun h1 => ⟨fun h64 => ?_, fun h64 => x90 fun k => h64 k.1.2⟩, fun h1 => x90 fun k => h1 k.1.1⟩
 have h64 := Classical.not_not.1 h64
 refine ⟨⟨⟨h1, h64⟩, hz⟩, fun hf => x90 fun k => hf k.2, fun hf => ?_⟩
 have hf := Classical.not_not.1 hf
 have hok : (1 ≤ n ∧ n ≤ 64) ∧ fitP n sz := ⟨⟨h1, h64⟩, hf⟩
 refine ⟨fun he0 => ⟨fun he => x2 hok fun k => he k.2, fun he => ?_⟩, fun he0 => x2 hok fun k => he0 k.1⟩
 have he := Classical.not_not.1 he
 have hN : ((n.toNat : Nat) : Int) = n := toN h1
 have hE : ((e.toNat : Nat) : Int) = e := by omega
 refine ⟨by omega, Int.le_refl _, by omega, by omega, ⟨0, Nat.zero_le _, ⟨rfl, trivial⟩, ⟨zr_zero _, allNil_rep _⟩, trivial⟩, fun x (hx : x ≤ n.toNat) => ⟨limS (by omega), fun hlt => ?_, fun hge => ?_⟩⟩
 ·exact ⟨by omega, Int.le_refl _, by omega, by omega, by omega, by omega, by rw [zr_len _ _ hx]; omega, trivial, rfl, by rw [List.length_replicate], rfl, ⟨by omega, by omega⟩, x + 1, (by omega : x + 1 ≤ n.toNat), by omega, ⟨by omega, trivial⟩, zr_next (by omega), trivial⟩
 have hge := not_of hge
 have hxn : x = n.toNat := by omega
 subst hxn
 refine ⟨he0, Int.le_refl _, by omega, by omega, ⟨0, Nat.zero_le _, ⟨rfl, trivial⟩, ⟨rfl, allNil_rep _⟩, rfl, trivial⟩, fun x (hx : x ≤ e.toNat) => ⟨limS (by omega), fun hlt => ?_, fun hge => ?_⟩⟩
 ·have hxe : x < e.toNat := by omega
  have hfi : fiP n.toNat (pmQ n.toNat sz x) sz := ⟨by omega, by rw [hN]; exact hf, pmQ_len _ _ _, ⟨_, pm_sq h1 h64 hf (by omega)⟩⟩
  have hsq := pm_sq (e := x) h1 h64 hf (by omega)
  have hnh : noHole (pmQ n.toNat sz x) := by rw [hsq.eq]; exact sq_noHole _ _
  have hML := pmQ_len n.toNat sz x
  have hMt : List.take n.toNat (pmQ n.toNat sz x) = pmQ n.toNat sz x := tk hML
  have hs0 := fit_pos h1 hf
  have hsn : sz.len ≤ 64 := by have := (fit_sum hf (Nat.le_refl sz.len)).1; have := (fit_sum hf (Nat.le_refl sz.len)).2; omega
  have hev := fun j (hj : j ≤ sz.len) => ft_ok hfi.fit hfi.len j hj
  have hkn : ∀ j, j < sz.len → nAt sz j ≤ n := fun j hj => by have := fit_le hf hj; have := (fit_sum hf (Nat.le_of_lt hj)).1; omega
  -- one guest more
  have guest : ∀ j x2 : Nat, j < sz.len → (x2 : Int) < nAt sz j →
    (0 : Nat) + n.toNat ≤ (pmQ n.toNat sz x).length ∧ (0 : Nat) + n.toNat ≤ (flS (pmQ n.toNat sz x) (ftS (pmQ n.toNat sz x) sz j) x2).length ∧
    List.take n.toNat (flS (pmQ n.toNat sz x) (ftS (pmQ n.toNat sz x) sz j) x2) = flS (pmQ n.toNat sz x) (ftS (pmQ n.toNat sz x) sz j) x2 ∧
    List.take x2 (flG (pmQ n.toNat sz x) (ftS (pmQ n.toNat sz x) sz j) x2) = flG (pmQ n.toNat sz x) (ftS (pmQ n.toNat sz x) sz j) x2 ∧
    (flG (pmQ n.toNat sz x) (ftS (pmQ n.toNat sz x) sz j) x2).length = x2 ∧
    nxO (.list (pmQ n.toNat sz x)) (.list (flS (pmQ n.toNat sz x) (ftS (pmQ n.toNat sz x) sz j) x2)) (listD (flG (pmQ n.toNat sz x) (ftS (pmQ n.toNat sz x) sz j) x2)) ∧
    (0 ≤ nxB (pmQ n.toNat sz x) (flS (pmQ n.toNat sz x) (ftS (pmQ n.toNat sz x) sz j) x2) (flG (pmQ n.toNat sz x) (ftS (pmQ n.toNat sz x) sz j) x2) (pmQ n.toNat sz x).length ∧
     nxB (pmQ n.toNat sz x) (flS (pmQ n.toNat sz x) (ftS (pmQ n.toNat sz x) sz j) x2) (flG (pmQ n.toNat sz x) (ftS (pmQ n.toNat sz x) sz j) x2) (pmQ n.toNat sz x).length < (n.toNat : Int) ∧
     (nxB (pmQ n.toNat sz x) (flS (pmQ n.toNat sz x) (ftS (pmQ n.toNat sz x) sz j) x2) (flG (pmQ n.toNat sz x) (ftS (pmQ n.toNat sz x) sz j) x2) (pmQ n.toNat sz x).length).toNat < (flS (pmQ n.toNat sz x) (ftS (pmQ n.toNat sz x) sz j) x2).length) := fun j x2 hj hx2 => by
   obtain ⟨a1, a2, a3⟩ := fi_nx hfi (x := x2) hj (by omega)
   obtain ⟨w, hw, ew⟩ := fi_w hfi hj hx2
   refine ⟨by omega, by omega, tk a1, tk a2, a2, a3, ?_⟩
   rw [ew]; exact ⟨by omega, by omega, by omega⟩
  have inner : ∀ j, j < sz.len → innC n (pmQ n.toNat sz x) sz j := fun j hj => by
   have hk1 := one_pos hf hj
   have hkn1 := hkn j hj
   refine ⟨.inl ⟨0, rfl, ⟨rfl, trivial, trivial⟩, rfl, trivial⟩, fun x2 h0 => ⟨limS (by omega), fun hl2 => ?_, fun hl2 => (hl2 (by omega)).elim⟩, fun x2 ⟨hp2, hx2⟩ => ⟨limS (by omega), fun hl2 => ?_, fun hl2 => ?_⟩⟩
   ·subst h0
    obtain ⟨a1, a2, a3, a4, a5, a6, a7⟩ := guest j 0 hj hl2
    rw [hMt, a3]
    exact ⟨a1, hnh, sl22, a2, a6, a7.1, a7.2.1, a7.2.2, Nat.le_refl _, by decide, ⟨by decide, by decide⟩, .inr ⟨1, ⟨by decide, by omega⟩, by omega, ⟨rfl, ⟨rfl, rfl, trivial⟩, trivial⟩, rfl, rfl, trivial⟩⟩
   ·obtain ⟨a1, a2, a3, a4, a5, a6, a7⟩ := guest j x2 hj hl2
    rw [hMt, a3, a4]
    have a6 : nxO (.list (pmQ n.toNat sz x)) (.list (flS (pmQ n.toNat sz x) (ftS (pmQ n.toNat sz x) sz j) x2)) (.list (flG (pmQ n.toNat sz x) (ftS (pmQ n.toNat sz x) sz j) x2)) := by
     rw [← listD_cons_of (l := flG (pmQ n.toNat sz x) (ftS (pmQ n.toNat sz x) sz j) x2) (by rw [a5]; exact hp2)]; exact a6
    exact ⟨a1, hnh, sl22, a2, by omega, a6, a7.1, a7.2.1, a7.2.2, Nat.le_refl _, by omega, by omega, ⟨by omega, by omega⟩, .inr ⟨x2 + 1, ⟨by omega, by omega⟩, by omega, ⟨by omega, ⟨rfl, rfl, trivial⟩, trivial⟩, rfl, rfl, trivial⟩⟩
   ·have := not_of hl2
    have e : x2 = (nAt sz j).toNat := by omega
    subst e
    exact ⟨(), trivial, ⟨⟨rfl, rfl, trivial⟩, trivial⟩, rfl, rfl, trivial⟩
  have gl : ∀ j, j < sz.len → (flG (pmQ n.toNat sz x) (ftS (pmQ n.toNat sz x) sz j) (nAt sz j).toNat).length = (nAt sz j).toNat := fun j hj => by
   have := one_pos hf hj
   exact (fi_nx hfi (x := (nAt sz j).toNat) hj (by omega)).2.1
  refine ⟨by omega, Int.le_refl _, by omega, by omega, ⟨.inl ⟨0, rfl, ⟨rfl, trivial, trivial⟩, ?_, trivial⟩, fun j h0 => ⟨limS (by omega), fun hj => ⟨by omega, hj, inner j (by omega), fun _ _ => ?_⟩, fun hj => (hj (by omega)).elim⟩, fun j ⟨hp, hj0⟩ => ⟨limS (by omega), fun hj => ⟨by omega, hj, inner j (by omega), fun _ _ => ?_⟩, fun hj => ?_⟩⟩, fun _ _ => ?_⟩
  ·show _ = List.replicate _ _; rw [hML]
  ·subst h0
   have hg := gl 0 hs0
   rw [tk hg]
   exact ⟨by omega, Nat.le_refl _, by decide, ⟨by decide, by decide⟩, .inr ⟨1, ⟨by decide, by omega⟩, by omega, ⟨rfl, ⟨rfl, rfl, trivial⟩, trivial⟩, rfl, rfl, trivial⟩⟩
  ·have hg := gl j (by omega)
   have ht := (hev j (by omega)).len
   rw [tk hg, tk ht]
   exact ⟨by omega, Nat.le_refl _, by omega, by omega, ⟨by omega, by omega⟩, .inr ⟨j + 1, ⟨by omega, by omega⟩, by omega, ⟨by omega, ⟨rfl, rfl, trivial⟩, trivial⟩, rfl, rfl, trivial⟩⟩
  ·have := not_of hj
   have e : j = sz.len := by omega
   subst e
   exact ⟨(), trivial, ⟨⟨rfl, rfl, trivial⟩, trivial⟩, rfl, rfl, trivial⟩
  ·have hTl : (ftT (pmQ n.toNat sz x) sz sz.len).length = sz.len := (hev sz.len (Nat.le_refl _)).len
   have hLl : (pnL n.toNat sz x ++ List.replicate (e.toNat - x) D.nil).length = e.toNat := by rw [List.length_append, pnL_len, List.length_replicate]; omega
   have hLx : nthD ((pnL n.toNat sz x ++ List.replicate (e.toNat - x) D.nil).set x (.list (ftT (pmQ n.toNat sz x) sz sz.len))) x = .list (ftT (pmQ n.toNat sz x) sz sz.len) := by
    rw [nthD_set _ _ _ _ (by rw [hLl]; exact hxe), if_pos rfl]
   have hst := (hev sz.len (Nat.le_refl _)).st
   have htb : ∀ j, j < sz.len → (el (.list (ftT (pmQ n.toNat sz x) sz sz.len)) j).len ≤ 64 ∧ ∀ k, k < (el (.list (ftT (pmQ n.toNat sz x) sz sz.len)) j).len → 0 ≤ nAt (el (.list (ftT (pmQ n.toNat sz x) sz sz.len)) j) k ∧ nAt (el (.list (ftT (pmQ n.toNat sz x) sz sz.len)) j) k < (n.toNat : Int) := fun j hj => by
    obtain ⟨l, h3, h4⟩ := (hev sz.len (Nat.le_refl _)).tab j hj
    have e1 : el (.list (ftT (pmQ n.toNat sz x) sz sz.len)) j = .list l := h3
    have := hkn j hj
    rw [e1]
    refine ⟨by show l.length ≤ 64; omega, fun k hk => ?_⟩
    have hk : k < l.length := hk
    have hm : nthD l k ∈ flt (ftT (pmQ n.toNat sz x) sz sz.len) := List.mem_flatten.2 ⟨l, List.mem_map.2 ⟨.list l, by rw [← h3]; exact nthD_mem (by rw [hTl]; exact hj), rfl⟩, nthD_mem hk⟩
    obtain ⟨v, hv, ev⟩ := hst.rng _ hm
    have e2 : nAt (.list l) k = (v : Nat) := by show (nthD l k).asInt = _; rw [ev]; rfl
    rw [e2]; omega
   rw [hLx, hTl]
   have hset : ∀ y, y = x + 1 → (pnL n.toNat sz x ++ List.replicate (e.toNat - x) D.nil).set x (.list (ftT (pmQ n.toNat sz x) sz sz.len)) = pnL n.toNat sz y ++ List.replicate (e.toNat - y) D.nil := fun y hy => by
    subst hy
    rw [pnL_succ, List.set_append_right _ _ (by rw [pnL_len]; exact Nat.le_refl _), pnL_len, Nat.sub_self]
    obtain ⟨k, hk⟩ : ∃ k, e.toNat - x = k + 1 := ⟨e.toNat - x - 1, by omega⟩
    rw [hk, show e.toNat - (x + 1) = k by omega, List.append_assoc]; rfl
   have hpm : pqE (pmQ n.toNat sz x) (.list (ftT (pmQ n.toNat sz x) sz sz.len)) sz.len = pmQ n.toNat sz (x + 1) := by rw [pm_step, hTl]
   refine ⟨by omega, hlt, by omega, trivial, rfl, rfl, trivial, by omega, hlt, by rw [List.length_set]; omega, fun h => (by cases h), fun r hr => ?_, fun _ h => by cases h⟩
   cases hr
   refine ⟨⟨0, Nat.zero_le _, ⟨rfl, trivial⟩, rfl, trivial⟩, fun j (hj : j ≤ sz.len) => ⟨limS (by omega), fun hlt3 => ?_, fun hge3 => ?_⟩⟩
   ·have hj2 : j < sz.len := by omega
    have hj3 : j < (D.list (ftT (pmQ n.toNat sz x) sz sz.len)).len := by show j < (ftT _ _ _).length; omega
    have hEq := pqE_sq (ev := .list (ftT (pmQ n.toNat sz x) sz sz.len)) (L := 64) hsq (fun j hj => htb j (by rw [← hTl]; exact hj)) j (Nat.le_of_lt hj3)
    refine ⟨⟨by omega, hlt3, by rw [List.length_set]; omega, by show (j : Int) < ((ftT (pmQ n.toNat sz x) sz sz.len).length : Int); omega, by rw [List.length_set]; omega, hj3, _, rfl, ⟨rfl, trivial⟩, trivial⟩, fun t ht => ?_⟩
    have ht : t = el (.list (ftT (pmQ n.toNat sz x) sz sz.len)) j := ht
    obtain ⟨htl, htr⟩ := htb j hj2
    rw [← ht] at htl htr
    refine ⟨⟨0, Nat.zero_le _, ⟨rfl, trivial⟩, rfl, trivial⟩, fun z (hz2 : z ≤ t.len) => ⟨limS (by omega), fun hlt4 => ?_, fun hge4 => ?_⟩⟩
    ·have hNq := pqN_sq (L := 64) hEq htr htl z hz2
     have hz3 : z < t.len := by omega
     have hsl := sub_len (t := t) hz2
     refine ⟨by omega, hlt4, Int.le_refl _, by omega, by omega, ⟨0, Nat.zero_le _, ⟨rfl, trivial⟩, rfl, trivial⟩, fun w (hw : w ≤ z) => ?_⟩
     have hIq := pqI_sq hNq htr hz3 w hw
     refine ⟨limS (by omega), fun hlt5 => ?_, fun hge5 => ?_⟩
     ·have hw2 : w < z := by omega
      have ea := sub_at (t := t) hw2
      have r1 := htr w (by omega)
      have r2 := htr z hz3
      rw [ea]
      exact ⟨by omega, hlt5, wr_ok hIq (by omega) r1 r2 (wr_ok (incZ_sq hIq r1 r2) (by omega) r2 r1 ⟨⟨by omega, by omega⟩, w + 1, by show w + 1 ≤ _; omega, by omega, ⟨by omega, trivial⟩, rfl, trivial⟩)⟩
     ·have hge5 := not_of hge5
      have ew : w = z := by omega
      subst ew
      exact ⟨⟨by omega, by omega⟩, w + 1, by show w + 1 ≤ _; omega, by omega, ⟨by omega, trivial⟩, rfl, trivial⟩
    ·have hge4 := not_of hge4
     have ez : z = t.len := by omega
     subst ez
     refine ⟨⟨by omega, by omega⟩, j + 1, by show j + 1 ≤ _; omega, by omega, ⟨by omega, trivial⟩, ?_, trivial⟩
     show _ = pqN (pqE _ _ j) (el (.list (ftT (pmQ n.toNat sz x) sz sz.len)) j) (el (.list (ftT (pmQ n.toNat sz x) sz sz.len)) j).len
     rw [← ht]
   ·have hge3 := not_of hge3
    have ej : j = sz.len := by omega
    subst ej
    exact ⟨⟨by omega, by omega⟩, x + 1, by show x + 1 ≤ _; omega, by omega, ⟨by omega, trivial⟩, hset _ rfl, hpm, trivial⟩
 ·have hge := not_of hge
  have ex : x = e.toNat := by omega
  subst ex
  have hLl := pnL_len n.toNat sz e.toNat
  have hnh : noHole (pnL n.toNat sz e.toNat) := ⟨fun m hm => by
   obtain ⟨i, hi, h⟩ := mem_nthD hm
   rw [pnL_at (by rw [← hLl]; exact hi)] at h; cases h⟩
  have hd : planD n sz e = .list (pnL n.toNat sz e.toNat) := by unfold planD; rw [if_pos ⟨hok, he0, he⟩]
  have hx0 : planX n sz e = 0 := by unfold planX; rw [if_neg (fun k => k hok), if_neg (fun k => k ⟨he0, he⟩)]
  rw [hd, hx0, Nat.sub_self]
  have e0 : pnL n.toNat sz e.toNat ++ List.replicate 0 D.nil = pnL n.toNat sz e.toNat := List.append_nil _
  rw [e0, tk hLl]
  exact ⟨⟨by omega, hnh, sl41, rfl⟩, rfl, trivial⟩
end Go.Ev

end

section
open Go.Proofs
namespace Go.Ev
set_option maxRecDepth 100000
set_option maxHeartbeats 4000000
structure eqN (a b : D) : Prop where
 out : a.len = b.len ∧ ∀ i, i < a.len → nAt a i = nAt b i
structure eqNN (a b : D) : Prop where
 out : a.len = b.len ∧ ∀ i, i < a.len → eqN (el a i) (el b i)
structure eqS3 (a b : D) : Prop where
 out : a.len = b.len ∧ ∀ i, i < a.len → eqNN (el a i) (el b i)
noncomputable def con67 : Con := fun | [.dat 22 a, .dat 22 b] => some (a.len ≤ 16777216, .prop (eqN a b)) | _ => none
noncomputable def con47 : Con := fun | [.dat 41 a, .dat 41 b] => some (smE a, .prop (eqNN a b)) | _ => none
noncomputable def emAnn : FuncId → Nat → Option Ann
 | 54, 4 => some { τ := Nat, slots := fun _ _ x => [(5, .int .i64 x)], blks := fun _ _ _ => [], inv := fun S _ x => x ≤ (slD S 0).len ∧ ∀ i, i < x → nAt (slD S 0) i = nAt (slD S 1) i, meas := fun S _ x => (slD S 0).len - x }
 | 36, 4 => some { τ := Nat, slots := fun _ _ x => [(5, .int .i64 x)], blks := fun _ _ _ => [], inv := fun S _ x => x ≤ (slD S 0).len ∧ ∀ i, i < x → eqN (el (slD S 0) i) (el (slD S 1) i), meas := fun S _ x => (slD S 0).len - x }
 | 34, 4 => some { τ := Nat, slots := fun _ _ x => [(17, .int .i64 x)], blks := fun _ _ _ => [], inv := fun S _ x => x ≤ (slD S 0).len ∧ ∀ i, i < x → eqNN (el (slD S 0) i) (el (slD S 1) i), meas := fun S _ x => (slD S 0).len - x }
 | 12, 6 => some { τ := Nat, slots := fun _ _ x => [(32, .int .i64 x)], blks := fun _ _ _ => [], inv := fun S _ x => x ≤ (slD S 2).len ∧ scanK (slI S 0) (slD S 1) (slD S 2) ((slD S 2).len - x) x = scanK (slI S 0) (slD S 1) (slD S 2) (slD S 2).len 0, meas := fun S _ x => (slD S 2).len - x }
 | 31, 3 => some { τ := Nat, slots := fun S _ x => [(6, .int .i64 x), (5, .int .i64 (cntF (flatL (slD S 0) x) (slI S 1)))], blks := fun _ _ _ => [], inv := fun S _ x => x ≤ (slD S 0).len, meas := fun S _ x => (slD S 0).len - x }
 | 31, 6 => some { τ := Nat, slots := fun S _ x => [(7, .int .i64 x), (5, .int .i64 (slI S 5 + cntF ((el (slD S 0) (slI S 6).toNat).asList.take x) (slI S 1)))], blks := fun _ _ _ => [], inv := fun S _ x => x ≤ (el (slD S 0) (slI S 6).toNat).len, meas := fun S _ x => (el (slD S 0) (slI S 6).toNat).len - x }
 | _, _ => none
noncomputable def ck1 : FuncId → Option Con
 | 54 => some con67
 | _ => none
noncomputable def ck2 : FuncId → Option Con
 | 36 => some con47
 | _ => none
theorem vc67 : ∀ (a b : D), symFun (ctx cc0 emAnn) 3 (54 : FuncId) [V.dat (22 : TypeId) a, V.dat (22 : TypeId) b] (V.prop (eqN a b)) = ((((a.len : Int) = (b.len : Int) → False) → (false = true ↔ eqN a b)) ∧ ((((a.len :
Int) = (b.len : Int) → False) → False) → (∃ (x : Nat), (x ≤ a.len ∧ ∀ (i : Nat), i < x → nAt a i = nAt b i) ∧ (0 = (x : Int) ∧ True) ∧ True) ∧ ∀ (x : Nat), (x ≤ a.len ∧ ∀ (i : Nat), i < x → nAt a i = nAt b i) → a.len - x
< LIM ∧ ((x : Int) < (a.len : Int) → 0 ≤ (x : Int) ∧ (x : Int) < (a.len : Int) ∧ 0 ≤ (x : Int) ∧ (x : Int) < (b.len : Int) ∧ ((nAt a x = nAt b x → False) → (false = true ↔ eqN a b)) ∧ (((nAt a x = nAt b x → False) →
False) → fits64 ((x : Int) + 1) ∧ ∃ (y : Nat), (y ≤ a.len ∧ ∀ (i : Nat), i < y → nAt a i = nAt b i) ∧ a.len - y < a.len - x ∧ ((x : Int) + 1 = (y : Int) ∧ True) ∧ True)) ∧ (((x : Int) < (a.len : Int) → False) → (true =
true ↔ eqN a b)))) := by intros; kernel_rfl
theorem vc47 : ∀ (a b : D), symFun (ctx ck1 emAnn) 3 (36 : FuncId) [V.dat (41 : TypeId) a, V.dat (41 : TypeId) b] (V.prop (eqNN a b)) = ((((a.len : Int) = (b.len : Int) → False) → (false = true ↔ eqNN a b)) ∧ ((((a.len :
Int) = (b.len : Int) → False) → False) → (∃ (x : Nat), (x ≤ a.len ∧ ∀ (i : Nat), i < x → eqN (el a i) (el b i)) ∧ (0 = (x : Int) ∧ True) ∧ True) ∧ ∀ (x : Nat), (x ≤ a.len ∧ ∀ (i : Nat), i < x → eqN (el a i) (el b i)) →
a.len - x < LIM ∧ ((x : Int) < (a.len : Int) → 0 ≤ (x : Int) ∧ (x : Int) < (a.len : Int) ∧ 0 ≤ (x : Int) ∧ (x : Int) < (b.len : Int) ∧ (el a x).len ≤ 16777216 ∧ ((eqN (el a x) (el b x) → False) → (false = true ↔ eqNN a
b)) ∧ (((eqN (el a x) (el b x) → False) → False) → fits64 ((x : Int) + 1) ∧ ∃ (y : Nat), (y ≤ a.len ∧ ∀ (i : Nat), i < y → eqN (el a i) (el b i)) ∧ a.len - y < a.len - x ∧ ((x : Int) + 1 = (y : Int) ∧ True) ∧ True)) ∧
(((x : Int) < (a.len : Int) → False) → (true = true ↔ eqNN a b)))) := by intros; kernel_rfl
theorem vc24 : ∀ (a b : D), symFun (ctx ck2 emAnn) 5 (9 : FuncId) [V.dat (25 : TypeId) a, V.dat (25 : TypeId) b] (V.prop (eqS3 a b)) = ((((a.len : Int) = (b.len : Int) → False) → (false = true ↔ eqS3 a b)) ∧ ((((a.len :
Int) = (b.len : Int) → False) → False) → (∃ (x : Nat), (x ≤ a.len ∧ ∀ (i : Nat), i < x → eqNN (el a i) (el b i)) ∧ (0 = (x : Int) ∧ True) ∧ True) ∧ ∀ (x : Nat), (x ≤ a.len ∧ ∀ (i : Nat), i < x → eqNN (el a i) (el b i)) →
a.len - x < LIM ∧ ((x : Int) < (a.len : Int) → 0 ≤ (x : Int) ∧ (x : Int) < (a.len : Int) ∧ 0 ≤ (x : Int) ∧ (x : Int) < (b.len : Int) ∧ smE (el a x) ∧ ((eqNN (el a x) (el b x) → False) → (false = true ↔ eqS3 a b)) ∧
(((eqNN (el a x) (el b x) → False) → False) → fits64 ((x : Int) + 1) ∧ ∃ (y : Nat), (y ≤ a.len ∧ ∀ (i : Nat), i < y → eqNN (el a i) (el b i)) ∧ a.len - y < a.len - x ∧ ((x : Int) + 1 = (y : Int) ∧ True) ∧ True)) ∧ (((x :
Int) < (a.len : Int) → False) → (true = true ↔ eqS3 a b)))) := by intros; kernel_rfl
theorem s67 (a b : D) (ha : a.len ≤ 16777216) : symFun (ctx cc0 emAnn) 3 54 [.dat 22 a, .dat 22 b] (.prop (eqN a b)) := by
 rw [vc67]
 refine ⟨fun h => no_of fun h' => h (by have := h'.out.1; omega), fun h => ?_⟩
 have he := Classical.not_not.1 h
 refine ⟨⟨0, ⟨Nat.zero_le _, fun i hi => absurd hi (Nat.not_lt_zero _)⟩, ⟨rfl, trivial⟩, trivial⟩, fun x hx => ⟨?_, fun hlt => ⟨by omega, by omega, by omega, by omega, fun hn => no_of fun h' => hn (h'.out.2 x (by omega)), fun hn => ⟨⟨by omega, by omega⟩, x + 1, ⟨by omega, fun i hi => ?_⟩, by omega, ⟨by omega, trivial⟩, trivial⟩⟩, fun hge => ?_⟩⟩
 ·unfold LIM; omega
 ·rcases Nat.lt_or_ge i x with h' | h'
  ·exact hx.2 i h'
  ·rw [show i = x by omega]; exact Classical.not_not.1 hn
 ·have hge := not_of hge
  exact iff_of_true rfl ⟨by omega, fun i hi => hx.2 i (by omega)⟩
theorem s47 (a b : D) (ha : smE a) : symFun (ctx ck1 emAnn) 3 36 [.dat 41 a, .dat 41 b] (.prop (eqNN a b)) := by
 rw [vc47]
 have hl := ha.out.1
 refine ⟨fun h => no_of fun h' => h (by have := h'.out.1; omega), fun h => ?_⟩
 have he := Classical.not_not.1 h
 refine ⟨⟨0, ⟨Nat.zero_le _, fun i hi => absurd hi (Nat.not_lt_zero _)⟩, ⟨rfl, trivial⟩, trivial⟩, fun x hx => ⟨?_, fun hlt => ⟨by omega, by omega, by omega, by omega, by have := ha.out.2 x (by omega); omega, fun hn => no_of fun h' => hn (h'.out.2 x (by omega)), fun hn => ⟨⟨by omega, by omega⟩, x + 1, ⟨by omega, fun i hi => ?_⟩, by omega, ⟨by omega, trivial⟩, trivial⟩⟩, fun hge => ?_⟩⟩
 ·unfold LIM; omega
 ·rcases Nat.lt_or_ge i x with h' | h'
  ·exact hx.2 i h'
  ·rw [show i = x by omega]; exact Classical.not_not.1 hn
 ·have hge := not_of hge
  exact iff_of_true rfl ⟨by omega, fun i hi => hx.2 i (by omega)⟩
theorem s24 (a b : D) (ha : bigP a) : symFun (ctx ck2 emAnn) 5 9 [.dat 25 a, .dat 25 b] (.prop (eqS3 a b)) := by
 rw [vc24]
 have hl := ha.out.1
 refine ⟨fun h => no_of fun h' => h (by have := h'.out.1; omega), fun h => ?_⟩
 have he := Classical.not_not.1 h
 refine ⟨⟨0, ⟨Nat.zero_le _, fun i hi => absurd hi (Nat.not_lt_zero _)⟩, ⟨rfl, trivial⟩, trivial⟩, fun x hx => ⟨?_, fun hlt => ⟨by omega, by omega, by omega, by omega, ha.out.2 x (by omega), fun hn => no_of fun h' => hn (h'.out.2 x (by omega)), fun hn => ⟨⟨by omega, by omega⟩, x + 1, ⟨by omega, fun i hi => ?_⟩, by omega, ⟨by omega, trivial⟩, trivial⟩⟩, fun hge => ?_⟩⟩
 ·unfold LIM; omega
 ·rcases Nat.lt_or_ge i x with h' | h'
  ·exact hx.2 i h'
  ·rw [show i = x by omega]; exact Classical.not_not.1 hn
 ·have hge := not_of hge
  exact iff_of_true rfl ⟨by omega, fun i hi => hx.2 i (by omega)⟩
end Go.Ev

end

section
open Go.Proofs
namespace Go.Ev
structure sortQ (l : D) : Prop where
 out : ∀ i, i + 1 < l.len → nAt l i ≤ nAt l (i + 1)
noncomputable def con38l : Con := fun | [.int .i64 a, .int .i64 b] => some (True, .prop (a < b)) | _ => none
noncomputable def con13s : Con := fun | [.dat 22 l] => some (l.len ≤ 16777216, .prop (sortQ l)) | _ => none
noncomputable def soAnn : FuncId → Nat → Option Ann
 | 13, 2 => some { τ := Int, slots := fun _ _ x => [(3, .int .i64 x)], blks := fun _ _ _ => [], inv := fun S _ x => -1 ≤ x ∧ x ≤ (slD S 0).len - 1 ∧ ∀ i : Nat, x ≤ i → i + 1 < (slD S 0).len → nAt (slD S 0) i ≤ nAt (slD S 0) (i + 1), meas := fun _ _ x => x.toNat }
 | _, _ => none
noncomputable def so1 : FuncId → Option Con
 | 38 => some con38l
 | _ => none
noncomputable def con24e : Con := fun | [.dat 25 a, .dat 25 b] => some (bigP a, .prop (eqS3 a b)) | _ => none
noncomputable def con4w : Con := fun | [.dat 34 c, .int .u8 m, .int .u8 f] => some (u8L c ∧ (0 ≤ m ∧ m < 256) ∧ 0 ≤ f ∧ f < 256, .prop True) | _ => none
noncomputable def pd1 : FuncId → Option Con
 | 7 => some conPl
 | 9 => some con24e
 | 11 => some con21z
 | 12 => some con5
 | 13 => some con13s
 | 14 => some con33
 | 15 => some con8m
 | 16 => some con15b
 | _ => none
end Go.Ev

end

section
open Go.Proofs
namespace Go.Ev
set_option maxRecDepth 100000
set_option maxHeartbeats 4000000
def m21 (m : Int) : Int := IntKind.i64.wrap (m.tmod (21 : Int))
theorem vc38 : ∀ (a b : Int), symFun (ctx cc0 noAnn) 4 (38 : FuncId) [V.int IntKind.i64 a, V.int IntKind.i64 b] (V.prop (a < b)) = (((a = a → False) → ((((b = b → False) → False) → False) → (a < b ↔ a < b)) ∧ (((b = b →
False) → False) → (true = true ↔ a < b))) ∧ (((a = a → False) → False) → (a < b ↔ a < b))) := by intros; kernel_rfl
theorem vc13s : ∀ (l : D), symFun (ctx so1 soAnn) 4 (13 : FuncId) [V.dat (22 : TypeId) l] (V.prop (sortQ l)) = (fits64 ((l.len : Int) - 1) ∧ (∃ (x : Int), ((-1) ≤ x ∧ x ≤ (l.len : Int) - 1 ∧ ∀ (i : Nat), x ≤ (i : Int) →
i + 1 < l.len → nAt l i ≤ nAt l (i + 1)) ∧ ((l.len : Int) - 1 = x ∧ True) ∧ True) ∧ ∀ (x : Int), ((-1) ≤ x ∧ x ≤ (l.len : Int) - 1 ∧ ∀ (i : Nat), x ≤ (i : Int) → i + 1 < l.len → nAt l i ≤ nAt l (i + 1)) → x.toNat < LIM ∧
(0 < x → 0 ≤ x ∧ x < (l.len : Int) ∧ fits64 (x - 1) ∧ 0 ≤ x - 1 ∧ x - 1 < (l.len : Int) ∧ True ∧ (nAt l x.toNat < nAt l (x - 1).toNat → (false = true ↔ sortQ l)) ∧ ((nAt l x.toNat < nAt l (x - 1).toNat → False) → fits64
(x - 1) ∧ ∃ (y : Int), ((-1) ≤ y ∧ y ≤ (l.len : Int) - 1 ∧ ∀ (i : Nat), y ≤ (i : Int) → i + 1 < l.len → nAt l i ≤ nAt l (i + 1)) ∧ y.toNat < x.toNat ∧ (x - 1 = y ∧ True) ∧ True)) ∧ ((0 < x → False) → (true = true ↔ sortQ
l))) := by intros; kernel_rfl
theorem vc4w : ∀ (c : D) (m f : Int), symFun (ctx pd1 noAnn) 4 (4 : FuncId) [V.dat (34 : TypeId) c, V.int IntKind.u8 m, V.int IntKind.u8 f] (V.prop True) = (u8L c ∧ ((21 : Int) = 0 → False) ∧ (szD c).len ≤ 16777216 ∧
((szD c).len ≤ 1000 ∧ bigP (planD (nD c) (szD c) (m21 m))) ∧ (((planX (nD c) (szD c) (m21 m) = 0 → False) → False) → ((((chk (nD c) (szD c) (planD (nD c) (szD c) (m21 m))).fst = 0 → False) → False) → ((((chk (nD c) (szD
c) (planD (nD c) (szD c) (m21 m))).snd = 0 → False) → False) → (((↑(planD (nD c) (szD c) (m21 m)).len : Int) = m21 m → False) → (false = true ↔ True)) ∧ ((((↑(planD (nD c) (szD c) (m21 m)).len : Int) = m21 m → False) →
False) → ((21 : Int) = 0 → False) ∧ (szD c).len ≤ 16777216 ∧ (((planX (nD c) (szD c) (min (m21 f) (m21 m)) = 0 → False) → False) → (((↑(planD (nD c) (szD c) (m21 m)).len : Int) < (↑(planD (nD c) (szD c) (min (m21 f) (m21
m))).len : Int) → False) → (0 : Int) ≤ 0 ∧ 0 ≤ (↑(planD (nD c) (szD c) (min (m21 f) (m21 m))).len : Int) ∧ (↑(planD (nD c) (szD c) (min (m21 f) (m21 m))).len : Int) ≤ (↑(planD (nD c) (szD c) (m21 m)).len : Int) ∧ bigP
(planD (nD c) (szD c) (min (m21 f) (m21 m))) ∧ ((eqS3 (planD (nD c) (szD c) (min (m21 f) (m21 m))) ((planD (nD c) (szD c) (m21 m)).sub 0 (planD (nD c) (szD c) (min (m21 f) (m21 m))).len) → False) → (false = true ↔ True))
∧ (((eqS3 (planD (nD c) (szD c) (min (m21 f) (m21 m))) ((planD (nD c) (szD c) (m21 m)).sub 0 (planD (nD c) (szD c) (min (m21 f) (m21 m))).len) → False) → False) → (0 < m21 m → (0 : Int) ≤ 0 ∧ 0 < (↑(planD (nD c) (szD c)
(m21 m)).len : Int) ∧ smE (el (planD (nD c) (szD c) (m21 m)) 0) ∧ (listD (flatL (el (planD (nD c) (szD c) (m21 m)) 0) (el (planD (nD c) (szD c) (m21 m)) 0).len)).len ≤ 16777216 ∧ ((sortQ (listD (flatL (el (planD (nD c)
(szD c) (m21 m)) 0) (el (planD (nD c) (szD c) (m21 m)) 0).len)) → False) → (false = true ↔ True)) ∧ (((sortQ (listD (flatL (el (planD (nD c) (szD c) (m21 m)) 0) (el (planD (nD c) (szD c) (m21 m)) 0).len)) → False) →
False) → goodS (nD c) (planD (nD c) (szD c) (m21 m)) ∧ (szD c).len ≤ 16777216 ∧ (lmZ (nD c) (szD c) (m21 m) ≤ mxZ (mtL (nD c) (planD (nD c) (szD c) (m21 m))) (mtL (nD c) (planD (nD c) (szD c) (m21 m))).len → (true = true
↔ True)) ∧ ((lmZ (nD c) (szD c) (m21 m) ≤ mxZ (mtL (nD c) (planD (nD c) (szD c) (m21 m))) (mtL (nD c) (planD (nD c) (szD c) (m21 m))).len → False) → (false = true ↔ True)))) ∧ ((0 < m21 m → False) → goodS (nD c) (planD
(nD c) (szD c) (m21 m)) ∧ (szD c).len ≤ 16777216 ∧ (lmZ (nD c) (szD c) (m21 m) ≤ mxZ (mtL (nD c) (planD (nD c) (szD c) (m21 m))) (mtL (nD c) (planD (nD c) (szD c) (m21 m))).len → (true = true ↔ True)) ∧ ((lmZ (nD c) (szD
c) (m21 m) ≤ mxZ (mtL (nD c) (planD (nD c) (szD c) (m21 m))) (mtL (nD c) (planD (nD c) (szD c) (m21 m))).len → False) → (false = true ↔ True))))) ∧ ((↑(planD (nD c) (szD c) (m21 m)).len : Int) < (↑(planD (nD c) (szD c)
(min (m21 f) (m21 m))).len : Int) → (false = true ↔ True))) ∧ ((planX (nD c) (szD c) (min (m21 f) (m21 m)) = 0 → False) → (false = true ↔ True)))) ∧ (((chk (nD c) (szD c) (planD (nD c) (szD c) (m21 m))).snd = 0 → False)
→ (false = true ↔ True))) ∧ (((chk (nD c) (szD c) (planD (nD c) (szD c) (m21 m))).fst = 0 → False) → (false = true ↔ True))) ∧ ((planX (nD c) (szD c) (m21 m) = 0 → False) → (false = true ↔ True))) := by intros; kernel_rfl
theorem s38l (a b : Int) : symFun (ctx cc0 noAnn) 4 38 [.int .i64 a, .int .i64 b] (.prop (a < b)) := by
 rw [vc38]
 exact ⟨fun h => (h rfl).elim, fun _ => Iff.rfl⟩
theorem s13s (l : D) (hl : l.len ≤ 16777216) : symFun (ctx so1 soAnn) 4 13 [.dat 22 l] (.prop (sortQ l)) := by
 rw [vc13s]
 refine ⟨⟨by omega, by omega⟩, ⟨(l.len : Int) - 1, ⟨by omega, Int.le_refl _, fun i h1 h2 => by omega⟩, ⟨rfl, trivial⟩, trivial⟩, fun x ⟨h1, h2, h3⟩ => ⟨limS (by omega), fun hp => ⟨by omega, by omega, ⟨by omega, by omega⟩, by omega, by omega, trivial, fun hlt => ?_, fun hge => ?_⟩, fun hp => ?_⟩⟩
 ·refine ⟨fun h => (by cases h), fun h => ?_⟩
  have := h.out (x - 1).toNat (by omega)
  rw [show (x - 1).toNat + 1 = x.toNat by omega] at this
  omega
 ·have hge := not_of hge
  refine ⟨⟨by omega, by omega⟩, x - 1, ⟨by omega, by omega, fun i hi hl2 => ?_⟩, by omega, ⟨rfl, trivial⟩, trivial⟩
  by_cases e : x ≤ (i : Int)
  ·exact h3 i e hl2
  ·have : i = (x - 1).toNat := by omega
   subst this
   rw [show (x - 1).toNat + 1 = x.toNat by omega]
   omega
 ·have := not_of hp
  exact ⟨fun _ => ⟨fun i hi => h3 i (by omega) hi⟩, fun _ => rfl⟩
structure zqP (q : List D) : Prop where
 out : ∀ x y, nAt (nthD q x) y = 0
theorem zq_zr (n : Nat) : zqP (zrL n n) := ⟨fun x y => by
 rcases Nat.lt_or_ge x n with h | h
 ·rw [(zr_sq n).eq, sqD_at _ h]
  show (nthD (rowF n (fun _ _ => 0) x) y).asInt = 0
  rcases Nat.lt_or_ge y n with k | k
  ·rw [rowF_at _ _ k]; rfl
  ·unfold nthD; rw [List.getElem?_eq_none (by rw [rowF_len]; exact k)]; rfl
 ·have : nthD (zrL n n) x = .nil := by unfold nthD; rw [List.getElem?_eq_none (by rw [zr_len _ _ (Nat.le_refl _)]; exact h)]; rfl
  rw [this]; rfl⟩
theorem zq_mo {q : List D} (h : zqP q) (g : Nat) (T : List D) : ∀ k, moP (nthD q g).asList T k = 0 ∧ suP (nthD q g).asList T k = 0
 | 0 => ⟨rfl, rfl⟩
 | k + 1 => by
  obtain ⟨h1, h2⟩ := zq_mo h g T k
  have e : nAt (.list (nthD q g).asList) (nthD T k).asInt.toNat = 0 := h.out g _
  show max (moP _ T k) _ = 0 ∧ suP _ T k + _ = 0
  rw [h1, h2, e]; exact ⟨rfl, rfl⟩
theorem zq_nx {q : List D} (h : zqP q) (st T : List D) : ∀ g, nxL q st T g = 0 ∧ nxS q st T g = 0 ∧ (((∀ v, v < g → (nthD st v).asProp) ∧ nxB q st T g = -1) ∨ ∃ w : Nat, w < g ∧ nxB q st T g = (w : Nat) ∧ ¬ (nthD st w).asProp ∧ ∀ v, v < w → (nthD st v).asProp)
 | 0 => ⟨rfl, rfl, .inl ⟨fun _ h => absurd h (Nat.not_lt_zero _), rfl⟩⟩
 | g + 1 => by
  obtain ⟨h1, h2, h3⟩ := zq_nx h st T g
  obtain ⟨z1, z2⟩ := zq_mo h g T T.length
  by_cases hs : (nthD st g).asProp
  ·obtain ⟨a, b, c⟩ := nx_a (q := q) (T := T) hs
   rw [← a, ← b, ← c]
   refine ⟨h1, h2, ?_⟩
   rcases h3 with ⟨h4, h5⟩ | ⟨w, h4, h5, h6⟩
   ·exact .inl ⟨fun v hv => by rcases Nat.lt_or_ge v g with k | k; exact h4 v k; rw [show v = g by omega]; exact hs, h5⟩
   ·exact .inr ⟨w, by omega, h5, h6⟩
  ·rcases h3 with ⟨h4, h5⟩ | ⟨w, h4, h5, h6⟩
   ·obtain ⟨a, b, c⟩ := nx_b (q := q) (T := T) hs ⟨.inl (by rw [h5]; decide)⟩
    rw [← a, ← b, ← c]
    exact ⟨z1, z2, .inr ⟨g, by omega, rfl, hs, h4⟩⟩
   ·obtain ⟨a, b, c⟩ := nx_c (q := q) (T := T) hs (fun ⟨k⟩ => by rw [z1, z2, h1, h2, h5] at k; omega)
    rw [← a, ← b, ← c]
    exact ⟨h1, h2, .inr ⟨w, by omega, h5, h6⟩⟩
theorem cnt_idP (p v : Nat) : 0 < cntF (idL p) v ↔ v < p := by
 rw [cnt_id]
 by_cases h : v < p
 ·rw [if_pos (by omega)]; exact ⟨fun _ => h, fun _ => by decide⟩
 ·rw [if_neg (by omega)]; exact ⟨fun k => absurd k (by decide), fun k => absurd k h⟩
theorem idL_succ (p : Nat) : idL (p + 1) = idL p ++ [.int (p : Nat)] := by unfold idL; rw [List.range_succ, List.map_append]; rfl
theorem idL_len (p : Nat) : (idL p).length = p := by unfold idL; rw [List.length_map, List.length_range]
theorem fl_id {n p : Nat} {q st : List D} (hz : zqP q) (h : stP n st (idL p)) (hq : q.length = n) : ∀ x, p + x ≤ n → idL p ++ flG q st x = idL (p + x)
 | 0, _ => List.append_nil _
 | x + 1, hx => by
  have ih := fl_id hz h hq x (by omega)
  have hs := (fl_ok h hq x (by rw [idL_len]; omega)).1
  rw [ih] at hs
  have e2 : flG q st (x + 1) = flG q st x ++ [.int (nxB q (flS q st x) (flG q st x) q.length)] := rfl
  have hw : nxB q (flS q st x) (flG q st x) q.length = ((p + x : Nat) : Int) := by
   rcases (zq_nx hz (flS q st x) (flG q st x) q.length).2.2 with ⟨h1, _⟩ | ⟨w, h1, h2, h3, h4⟩
   ·have := (cnt_idP (p + x) (p + x)).1 ((hs.iff (p + x) (by omega)).1 (h1 (p + x) (by omega)))
    omega
   ·rw [h2]
    have a1 : ¬ w < p + x := fun k => h3 ((hs.iff w (by omega)).2 ((cnt_idP _ _).2 k))
    have a2 : ¬ p + x < w := fun k => by
     have := (cnt_idP (p + x) (p + x)).1 ((hs.iff (p + x) (by omega)).1 (h4 (p + x) k))
     omega
    omega
  rw [e2, hw, ← List.append_assoc, ih]
  exact (idL_succ (p + x)).symm
theorem ft_id {n : Nat} {q : List D} {sz : D} (hz : zqP q) (hf : fitP (n : Nat) sz) (hq : q.length = n) : ∀ j, j ≤ sz.len → flt (ftT q sz j) = idL (sumZ sz j).toNat
 | 0, _ => rfl
 | j + 1, hj => by
  have ih := ft_id hz hf hq j (by omega)
  have h := ft_ok hf hq j (by omega)
  have hp := hf.out.1 j (by omega)
  have hl := fit_le hf (x := j) (by omega)
  have hs0 := (fit_sum hf (x := j) (by omega)).1
  have hst := h.st
  rw [ih] at hst
  have e2 : ftT q sz (j + 1) = ftT q sz j ++ [.list (flG q (ftS q sz j) (nAt sz j).toNat)] := rfl
  have e3 : sumZ sz (j + 1) = sumZ sz j + nAt sz j := rfl
  rw [e2, flt_app, ih, fl_id hz hst hq _ (by omega), e3, show (sumZ sz j + nAt sz j).toNat = (sumZ sz j).toNat + (nAt sz j).toNat by omega]
theorem first_sorted {n : Int} {sz : D} {e : Nat} (h1 : 1 ≤ n) (hf : fitP n sz) (he : 0 < e) : sortQ (listD (flatL (el (.list (pnL n.toNat sz e)) 0) (el (.list (pnL n.toNat sz e)) 0).len)) := by
 have hN : ((n.toNat : Nat) : Int) = n := toN h1
 rw [pl_el he]
 have e0 : pmQ n.toNat sz 0 = zrL n.toNat n.toNat := rfl
 rw [e0, flat_map _ _ (Nat.le_refl _)]
 have h2 := ft_id (zq_zr n.toNat) (by rw [hN]; exact hf) (zr_len _ _ (Nat.le_refl _)) sz.len (Nat.le_refl _)
 have h3 : ((List.take (D.list (ftT (zrL n.toNat n.toNat) sz sz.len)).len (D.list (ftT (zrL n.toNat n.toNat) sz sz.len)).asList).map D.asList).flatten = flt (ftT (zrL n.toNat n.toNat) sz sz.len) := by
  show ((List.take (ftT _ sz sz.len).length (ftT _ sz sz.len)).map D.asList).flatten = _
  rw [List.take_length]; rfl
 rw [h3, h2]
 generalize (sumZ sz sz.len).toNat = m
 have at1 : ∀ i, i < m → nAt (listD (idL m)) i = (i : Nat) := fun i hi => by
  unfold nAt; rw [listD_list]; unfold idL nthD
  rw [List.getElem?_map, List.getElem?_range hi]; rfl
 refine ⟨fun i hi => ?_⟩
 rw [listD_len, idL_len] at hi
 rw [at1 i (by omega), at1 (i + 1) hi]; omega
theorem pn_take (n : Nat) (sz : D) : ∀ e k, k ≤ e → (pnL n sz e).take k = pnL n sz k
 | 0, k, h => by rw [show k = 0 by omega]; rfl
 | e + 1, k, h => by
  rcases Nat.lt_or_ge k (e + 1) with j | j
  ·rw [pnL_succ, List.take_append_of_le_length (by rw [pnL_len]; omega), pn_take n sz e k (by omega)]
  ·rw [show k = e + 1 by omega]; exact List.take_of_length_le (by rw [pnL_len]; exact Nat.le_refl _)
theorem eqS3_rfl (a : D) : eqS3 a a := ⟨⟨rfl, fun _ _ => ⟨⟨rfl, fun _ _ => ⟨⟨rfl, fun _ _ => rfl⟩⟩⟩⟩⟩⟩
theorem m21_rng {m : Int} (h0 : 0 ≤ m) (h1 : m < 256) : 0 ≤ m21 m ∧ m21 m ≤ 20 := by
 have h2 : m.tmod 21 = m % 21 := Int.tmod_eq_emod_of_nonneg h0
 unfold m21
 rw [h2, wrapI (by omega) (by omega)]
 omega
theorem sl4w (c : D) (m f : Int) (hc : u8L c) (hm0 : 0 ≤ m) (hm1 : m < 256) (hf0 : 0 ≤ f) (hf1 : f < 256) : symFun (ctx pd1 noAnn) 4 4 [.dat 34 c, .int .u8 m, .int .u8 f] (.prop True) := by
 rw [vc4w]
 have hz := sz_p hc
 have hn := hz.n1
 have hl := hz.l1
 have hE := m21_rng hm0 hm1
 have hF := m21_rng hf0 hf1
 generalize m21 m = E at hE ⊢
 have hK : 0 ≤ min (m21 f) E ∧ min (m21 f) E ≤ E := by omega
 generalize min (m21 f) E = K at hK ⊢
 have hfit : fitP (nD c) (szD c) := ⟨fun i hi => (hz.at1 i hi).1, by rw [← off_sum, hz.all]⟩
 have pd : ∀ e, 0 ≤ e → e ≤ 20 → planD (nD c) (szD c) e = .list (pnL (nD c).toNat (szD c) e.toNat) ∧ planX (nD c) (szD c) e = 0 := fun e h0 h1 => by
  unfold planD planX
  rw [if_pos ⟨⟨⟨by omega, by omega⟩, hfit⟩, by omega, by omega⟩, if_neg (fun k => k ⟨⟨by omega, by omega⟩, hfit⟩), if_neg (fun k => k ⟨by omega, by omega⟩)]
  exact ⟨rfl, rfl⟩
 have pg : ∀ e : Int, 0 ≤ e → e ≤ 20 → pigF (nD c) (szD c) (.list (pnL (nD c).toNat (szD c) e.toNat)) := fun e h0 h1 => pl_pig (by omega) (by omega) hfit (by omega)
 rw [(pd E hE.1 hE.2).1, (pd E hE.1 hE.2).2, (pd K hK.1 (by omega)).1, (pd K hK.1 (by omega)).2]
 have gE := pg E hE.1 hE.2
 have gK := pg K hK.1 (by omega)
 have lE : (D.list (pnL (nD c).toNat (szD c) E.toNat)).len = E.toNat := pnL_len _ _ _
 have lK : (D.list (pnL (nD c).toNat (szD c) K.toNat)).len = K.toNat := pnL_len _ _ _
 rw [gE.chk1, lE, lK]
 have tt : (true = true ↔ True) := ⟨fun _ => trivial, fun _ => rfl⟩
 have fin : goodS (nD c) (.list (pnL (nD c).toNat (szD c) E.toNat)) ∧ (szD c).len ≤ 16777216 ∧ (lmZ (nD c) (szD c) E ≤ mxZ (mtL (nD c) (.list (pnL (nD c).toNat (szD c) E.toNat))) (mtL (nD c) (.list (pnL (nD c).toNat (szD c) E.toNat))).len → (true = true ↔ True)) ∧ ((lmZ (nD c) (szD c) E ≤ mxZ (mtL (nD c) (.list (pnL (nD c).toNat (szD c) E.toNat))) (mtL (nD c) (.list (pnL (nD c).toNat (szD c) E.toNat))).len → False) → (false = true ↔ True)) := ⟨gE.good, by omega, fun _ => tt, fun h => by
  have := pig_b1 gE
  rw [lE, show ((E.toNat : Nat) : Int) = E by omega] at this
  exact (h (by omega)).elim⟩
 have hsub : (D.list (pnL (nD c).toNat (szD c) E.toNat)).sub 0 K.toNat = .list (pnL (nD c).toNat (szD c) K.toNat) := by
  show D.list ((List.drop 0 (pnL _ _ E.toNat)).take K.toNat) = _
  rw [List.drop_zero, pn_take _ _ _ _ (by omega)]
 rw [hsub]
 refine ⟨hc, by decide, by omega, ⟨by omega, gE.good.big⟩, fun _ => ⟨fun _ => ⟨fun _ => ⟨fun h => (h (by omega)).elim, fun _ => ⟨by decide, by omega, fun _ => ⟨fun _ => ⟨Int.le_refl _, by omega, by omega, gK.good.big, fun h => (h (eqS3_rfl _)).elim, fun _ => ⟨fun h0 => ⟨Int.le_refl _, by omega, gE.good.big.out.2 0 (by omega), ?_, fun h => (h (first_sorted (by omega) hfit (by omega))).elim, fun _ => fin⟩, fun _ => fin⟩⟩, fun h => by omega⟩, fun h => (h rfl).elim⟩⟩, fun h => (h rfl).elim⟩, fun h => (h rfl).elim⟩, fun h => (h rfl).elim⟩
 have hsm := (gE.good.big.out.2 0 (by omega)).out
 have := tot_le (ev := el (.list (pnL (nD c).toNat (szD c) E.toNat)) 0) (k := (el (.list (pnL (nD c).toNat (szD c) E.toNat)) 0).len) (fun i hi => hsm.2 i hi) _ (Nat.le_refl _)
 rw [listD_len, flat_len]
 have := hsm.1
 omega
end Go.Ev

end
