/-
  Part of the engine that the claim is proved with: it states nothing of the document by itself.
-/
import Derived.Test.YtfplgbngodmbiaaGreatDoorCoreG31
import Derived.Test.YtfplgbngodmbiaaGreatDoorCoreG27

section
open Go.Proofs
namespace Go.Ev
set_option maxRecDepth 100000
set_option maxHeartbeats 4000000
theorem vc36 : ∀ (l : D) (t : Int), symFun (ctx seat3 metAnn) 4 (36 : FuncId) [V.dat (22 : TypeId) l, V.int IntKind.i64 t] (V.dat (48 : TypeId) (blocksD l t)) = ((0 ≤ t → (t < (l.len : Int) → smallD l ∧ ((okHall l →
False) → D.nil = blocksD l t) ∧ (((okHall l → False) → False) → (0 ≤ t ∧ t ≤ (l.len : Int) ∧ seatedD l) ∧ 0 ≤ t ∧ t < (l.len : Int) ∧ (sizeT' (el l t.toNat) = 0 → False) ∧ 0 ≤ sizeT' (el l t.toNat) ∧ sizeT' (el l
t.toNat) ≤ sizeT' (el l t.toNat) ∧ sizeT' (el l t.toNat) ≤ 16777216 ∧ (ctx seat3 metAnn).P.types[4].bytes * (sizeT' (el l t.toNat)).toNat ≤ 281474976710656 ∧ ((∃ (x : Nat), (x ≤ (sizeT' (el l t.toNat)).toNat ∧ blkX (el l
t.toNat) (sumZ l t.toNat) x = []) ∧ (0 = (x : Int) ∧ True ∧ True) ∧ List.replicate (sizeT' (el l t.toNat)).toNat (D.bool (false = true)) = placedX (el l t.toNat) x 0 ∧ True) ∨ ∃ (x : Nat), (x ≤ (sizeT' (el l
t.toNat)).toNat ∧ (blkX (el l t.toNat) (sumZ l t.toNat) x = [] → False)) ∧ (0 = (x : Int) ∧ False ∧ True) ∧ List.replicate (sizeT' (el l t.toNat)).toNat (D.bool (false = true)) = placedX (el l t.toNat) x 0 ∧ False ∧
True) ∧ (∀ (x : Nat), x ≤ (sizeT' (el l t.toNat)).toNat ∧ blkX (el l t.toNat) (sumZ l t.toNat) x = [] → (sizeT' (el l t.toNat)).toNat - x < LIM ∧ ((x : Int) < (↑(sizeT' (el l t.toNat)).toNat : Int) → 0 ≤ (x : Int) ∧ (x :
Int) < (↑(sizeT' (el l t.toNat)).toNat : Int) ∧ x < (placedX (el l t.toNat) x 0).length ∧ ((nthD (placedX (el l t.toNat) x 0) x).asProp → ((-9223372036854775808) ≤ (x : Int) + 1 ∧ (x : Int) + 1 < 9223372036854775808) ∧
((∃ (y : Nat), (y ≤ (sizeT' (el l t.toNat)).toNat ∧ blkX (el l t.toNat) (sumZ l t.toNat) y = []) ∧ (sizeT' (el l t.toNat)).toNat - y < (sizeT' (el l t.toNat)).toNat - x ∧ ((x : Int) + 1 = (y : Int) ∧ True ∧ True) ∧
placedX (el l t.toNat) x 0 = placedX (el l t.toNat) y 0 ∧ True) ∨ ∃ (y : Nat), (y ≤ (sizeT' (el l t.toNat)).toNat ∧ (blkX (el l t.toNat) (sumZ l t.toNat) y = [] → False)) ∧ (sizeT' (el l t.toNat)).toNat - y < (sizeT' (el
l t.toNat)).toNat - x ∧ ((x : Int) + 1 = (y : Int) ∧ False ∧ True) ∧ placedX (el l t.toNat) x 0 = placedX (el l t.toNat) y 0 ∧ False ∧ True)) ∧ (((nthD (placedX (el l t.toNat) x 0) x).asProp → False) → 0 ≤ t ∧ t < (l.len
: Int) ∧ inTab (tShape (el l t.toNat)) (tA (el l t.toNat)) (tB (el l t.toNat)) (x : Int) ∧ ((∃ (x_1 : Nat), (x_1 ≤ (distRow (sizeT' (el l t.toNat)).toNat (tShape (el l t.toNat)) (tA (el l t.toNat)) (tB (el l t.toNat)) (x
: Int)).length ∧ blkM (el l t.toNat) (sumZ l t.toNat) x x_1 = []) ∧ (0 = (x_1 : Int) ∧ True ∧ True) ∧ placedX (el l t.toNat) x 0 = placedX (el l t.toNat) x x_1 ∧ True) ∨ ∃ (x_1 : Nat), (x_1 ≤ (distRow (sizeT' (el l
t.toNat)).toNat (tShape (el l t.toNat)) (tA (el l t.toNat)) (tB (el l t.toNat)) (x : Int)).length ∧ (blkM (el l t.toNat) (sumZ l t.toNat) x x_1 = [] → False)) ∧ (0 = (x_1 : Int) ∧ False ∧ True) ∧ placedX (el l t.toNat) x
0 = placedX (el l t.toNat) x x_1 ∧ False ∧ True) ∧ (∀ (x_1 : Nat), x_1 ≤ (distRow (sizeT' (el l t.toNat)).toNat (tShape (el l t.toNat)) (tA (el l t.toNat)) (tB (el l t.toNat)) (x : Int)).length ∧ blkM (el l t.toNat)
(sumZ l t.toNat) x x_1 = [] → (distRow (sizeT' (el l t.toNat)).toNat (tShape (el l t.toNat)) (tA (el l t.toNat)) (tB (el l t.toNat)) (x : Int)).length - x_1 < LIM ∧ ((x_1 : Int) < (↑(distRow (sizeT' (el l t.toNat)).toNat
(tShape (el l t.toNat)) (tA (el l t.toNat)) (tB (el l t.toNat)) (x : Int)).length : Int) → 0 ≤ (x_1 : Int) ∧ (x_1 : Int) < (↑(distRow (sizeT' (el l t.toNat)).toNat (tShape (el l t.toNat)) (tA (el l t.toNat)) (tB (el l
t.toNat)) (x : Int)).length : Int) ∧ (0 ≤ (nthD (distRow (sizeT' (el l t.toNat)).toNat (tShape (el l t.toNat)) (tA (el l t.toNat)) (tB (el l t.toNat)) (x : Int)) x_1).asInt → 0 ≤ (x_1 : Int) ∧ (x_1 : Int) < (↑(sizeT' (el
l t.toNat)).toNat : Int) ∧ x_1 < (placedX (el l t.toNat) x x_1).length ∧ ((-9223372036854775808) ≤ sumZ l t.toNat + (x_1 : Int) ∧ sumZ l t.toNat + (x_1 : Int) < 9223372036854775808) ∧ 0 + 1 ≤ [D.int (sumZ l t.toNat +
(x_1 : Int))].length ∧ (1 : Nat) ≤ 16777216 ∧ ((-9223372036854775808) ≤ (x_1 : Int) + 1 ∧ (x_1 : Int) + 1 < 9223372036854775808) ∧ ((∃ (y : Nat), (y ≤ (distRow (sizeT' (el l t.toNat)).toNat (tShape (el l t.toNat)) (tA
(el l t.toNat)) (tB (el l t.toNat)) (x : Int)).length ∧ blkM (el l t.toNat) (sumZ l t.toNat) x y = []) ∧ (distRow (sizeT' (el l t.toNat)).toNat (tShape (el l t.toNat)) (tA (el l t.toNat)) (tB (el l t.toNat)) (x :
Int)).length - y < (distRow (sizeT' (el l t.toNat)).toNat (tShape (el l t.toNat)) (tA (el l t.toNat)) (tB (el l t.toNat)) (x : Int)).length - x_1 ∧ ((x_1 : Int) + 1 = (y : Int) ∧ False ∧ True) ∧ (placedX (el l t.toNat) x
x_1).set x_1 (D.bool (true = true)) = placedX (el l t.toNat) x y ∧ True) ∨ ∃ (y : Nat), (y ≤ (distRow (sizeT' (el l t.toNat)).toNat (tShape (el l t.toNat)) (tA (el l t.toNat)) (tB (el l t.toNat)) (x : Int)).length ∧
(blkM (el l t.toNat) (sumZ l t.toNat) x y = [] → False)) ∧ (distRow (sizeT' (el l t.toNat)).toNat (tShape (el l t.toNat)) (tA (el l t.toNat)) (tB (el l t.toNat)) (x : Int)).length - y < (distRow (sizeT' (el l
t.toNat)).toNat (tShape (el l t.toNat)) (tA (el l t.toNat)) (tB (el l t.toNat)) (x : Int)).length - x_1 ∧ ((x_1 : Int) + 1 = (y : Int) ∧ ((0 : Nat) = 0 ∧ 1 = (blkM (el l t.toNat) (sumZ l t.toNat) x y).length ∧ True) ∧
True) ∧ (placedX (el l t.toNat) x x_1).set x_1 (D.bool (true = true)) = placedX (el l t.toNat) x y ∧ List.take 1 [D.int (sumZ l t.toNat + (x_1 : Int))] = blkM (el l t.toNat) (sumZ l t.toNat) x y ∧ True)) ∧ ((0 ≤ (nthD
(distRow (sizeT' (el l t.toNat)).toNat (tShape (el l t.toNat)) (tA (el l t.toNat)) (tB (el l t.toNat)) (x : Int)) x_1).asInt → False) → ((-9223372036854775808) ≤ (x_1 : Int) + 1 ∧ (x_1 : Int) + 1 < 9223372036854775808) ∧
((∃ (y : Nat), (y ≤ (distRow (sizeT' (el l t.toNat)).toNat (tShape (el l t.toNat)) (tA (el l t.toNat)) (tB (el l t.toNat)) (x : Int)).length ∧ blkM (el l t.toNat) (sumZ l t.toNat) x y = []) ∧ (distRow (sizeT' (el l
t.toNat)).toNat (tShape (el l t.toNat)) (tA (el l t.toNat)) (tB (el l t.toNat)) (x : Int)).length - y < (distRow (sizeT' (el l t.toNat)).toNat (tShape (el l t.toNat)) (tA (el l t.toNat)) (tB (el l t.toNat)) (x :
Int)).length - x_1 ∧ ((x_1 : Int) + 1 = (y : Int) ∧ True ∧ True) ∧ placedX (el l t.toNat) x x_1 = placedX (el l t.toNat) x y ∧ True) ∨ ∃ (y : Nat), (y ≤ (distRow (sizeT' (el l t.toNat)).toNat (tShape (el l t.toNat)) (tA
(el l t.toNat)) (tB (el l t.toNat)) (x : Int)).length ∧ (blkM (el l t.toNat) (sumZ l t.toNat) x y = [] → False)) ∧ (distRow (sizeT' (el l t.toNat)).toNat (tShape (el l t.toNat)) (tA (el l t.toNat)) (tB (el l t.toNat)) (x
: Int)).length - y < (distRow (sizeT' (el l t.toNat)).toNat (tShape (el l t.toNat)) (tA (el l t.toNat)) (tB (el l t.toNat)) (x : Int)).length - x_1 ∧ ((x_1 : Int) + 1 = (y : Int) ∧ False ∧ True) ∧ placedX (el l t.toNat)
x x_1 = placedX (el l t.toNat) x y ∧ False ∧ True))) ∧ (((x_1 : Int) < (↑(distRow (sizeT' (el l t.toNat)).toNat (tShape (el l t.toNat)) (tA (el l t.toNat)) (tB (el l t.toNat)) (x : Int)).length : Int) → False) → 0 + 1 ≤
[D.nil].length ∧ (1 : Nat) ≤ 16777216 ∧ ((-9223372036854775808) ≤ (x : Int) + 1 ∧ (x : Int) + 1 < 9223372036854775808) ∧ ((∃ (y : Nat), (y ≤ (sizeT' (el l t.toNat)).toNat ∧ blkX (el l t.toNat) (sumZ l t.toNat) y = []) ∧
(sizeT' (el l t.toNat)).toNat - y < (sizeT' (el l t.toNat)).toNat - x ∧ ((x : Int) + 1 = (y : Int) ∧ False ∧ True) ∧ placedX (el l t.toNat) x x_1 = placedX (el l t.toNat) y 0 ∧ True) ∨ ∃ (y : Nat), (y ≤ (sizeT' (el l
t.toNat)).toNat ∧ (blkX (el l t.toNat) (sumZ l t.toNat) y = [] → False)) ∧ (sizeT' (el l t.toNat)).toNat - y < (sizeT' (el l t.toNat)).toNat - x ∧ ((x : Int) + 1 = (y : Int) ∧ ((0 : Nat) = 0 ∧ 1 = (blkX (el l t.toNat)
(sumZ l t.toNat) y).length ∧ True) ∧ True) ∧ placedX (el l t.toNat) x x_1 = placedX (el l t.toNat) y 0 ∧ List.take 1 [D.nil] = blkX (el l t.toNat) (sumZ l t.toNat) y ∧ True))) ∧ ∀ (x_1 : Nat), x_1 ≤ (distRow (sizeT' (el
l t.toNat)).toNat (tShape (el l t.toNat)) (tA (el l t.toNat)) (tB (el l t.toNat)) (x : Int)).length ∧ (blkM (el l t.toNat) (sumZ l t.toNat) x x_1 = [] → False) → (distRow (sizeT' (el l t.toNat)).toNat (tShape (el l
t.toNat)) (tA (el l t.toNat)) (tB (el l t.toNat)) (x : Int)).length - x_1 < LIM ∧ ((x_1 : Int) < (↑(distRow (sizeT' (el l t.toNat)).toNat (tShape (el l t.toNat)) (tA (el l t.toNat)) (tB (el l t.toNat)) (x : Int)).length
: Int) → 0 ≤ (x_1 : Int) ∧ (x_1 : Int) < (↑(distRow (sizeT' (el l t.toNat)).toNat (tShape (el l t.toNat)) (tA (el l t.toNat)) (tB (el l t.toNat)) (x : Int)).length : Int) ∧ (0 ≤ (nthD (distRow (sizeT' (el l
t.toNat)).toNat (tShape (el l t.toNat)) (tA (el l t.toNat)) (tB (el l t.toNat)) (x : Int)) x_1).asInt → 0 ≤ (x_1 : Int) ∧ (x_1 : Int) < (↑(sizeT' (el l t.toNat)).toNat : Int) ∧ x_1 < (placedX (el l t.toNat) x x_1).length
∧ ((-9223372036854775808) ≤ sumZ l t.toNat + (x_1 : Int) ∧ sumZ l t.toNat + (x_1 : Int) < 9223372036854775808) ∧ 0 + 1 ≤ [D.int (sumZ l t.toNat + (x_1 : Int))].length ∧ 0 + (blkM (el l t.toNat) (sumZ l t.toNat) x
x_1).length ≤ (blkM (el l t.toNat) (sumZ l t.toNat) x x_1).length ∧ (blkM (el l t.toNat) (sumZ l t.toNat) x x_1).length + 1 ≤ 16777216 ∧ ((-9223372036854775808) ≤ (x_1 : Int) + 1 ∧ (x_1 : Int) + 1 < 9223372036854775808)
∧ ((∃ (y : Nat), (y ≤ (distRow (sizeT' (el l t.toNat)).toNat (tShape (el l t.toNat)) (tA (el l t.toNat)) (tB (el l t.toNat)) (x : Int)).length ∧ blkM (el l t.toNat) (sumZ l t.toNat) x y = []) ∧ (distRow (sizeT' (el l
t.toNat)).toNat (tShape (el l t.toNat)) (tA (el l t.toNat)) (tB (el l t.toNat)) (x : Int)).length - y < (distRow (sizeT' (el l t.toNat)).toNat (tShape (el l t.toNat)) (tA (el l t.toNat)) (tB (el l t.toNat)) (x :
Int)).length - x_1 ∧ ((x_1 : Int) + 1 = (y : Int) ∧ False ∧ True) ∧ (placedX (el l t.toNat) x x_1).set x_1 (D.bool (true = true)) = placedX (el l t.toNat) x y ∧ True) ∨ ∃ (y : Nat), (y ≤ (distRow (sizeT' (el l
t.toNat)).toNat (tShape (el l t.toNat)) (tA (el l t.toNat)) (tB (el l t.toNat)) (x : Int)).length ∧ (blkM (el l t.toNat) (sumZ l t.toNat) x y = [] → False)) ∧ (distRow (sizeT' (el l t.toNat)).toNat (tShape (el l
t.toNat)) (tA (el l t.toNat)) (tB (el l t.toNat)) (x : Int)).length - y < (distRow (sizeT' (el l t.toNat)).toNat (tShape (el l t.toNat)) (tA (el l t.toNat)) (tB (el l t.toNat)) (x : Int)).length - x_1 ∧ ((x_1 : Int) + 1
= (y : Int) ∧ ((0 : Nat) = 0 ∧ (blkM (el l t.toNat) (sumZ l t.toNat) x x_1).length + 1 = (blkM (el l t.toNat) (sumZ l t.toNat) x y).length ∧ True) ∧ True) ∧ (placedX (el l t.toNat) x x_1).set x_1 (D.bool (true = true)) =
placedX (el l t.toNat) x y ∧ List.take (blkM (el l t.toNat) (sumZ l t.toNat) x x_1).length (blkM (el l t.toNat) (sumZ l t.toNat) x x_1) ++ List.take 1 [D.int (sumZ l t.toNat + (x_1 : Int))] = blkM (el l t.toNat) (sumZ l
t.toNat) x y ∧ True)) ∧ ((0 ≤ (nthD (distRow (sizeT' (el l t.toNat)).toNat (tShape (el l t.toNat)) (tA (el l t.toNat)) (tB (el l t.toNat)) (x : Int)) x_1).asInt → False) → ((-9223372036854775808) ≤ (x_1 : Int) + 1 ∧ (x_1
: Int) + 1 < 9223372036854775808) ∧ ((∃ (y : Nat), (y ≤ (distRow (sizeT' (el l t.toNat)).toNat (tShape (el l t.toNat)) (tA (el l t.toNat)) (tB (el l t.toNat)) (x : Int)).length ∧ blkM (el l t.toNat) (sumZ l t.toNat) x y
= []) ∧ (distRow (sizeT' (el l t.toNat)).toNat (tShape (el l t.toNat)) (tA (el l t.toNat)) (tB (el l t.toNat)) (x : Int)).length - y < (distRow (sizeT' (el l t.toNat)).toNat (tShape (el l t.toNat)) (tA (el l t.toNat))
(tB (el l t.toNat)) (x : Int)).length - x_1 ∧ ((x_1 : Int) + 1 = (y : Int) ∧ False ∧ True) ∧ placedX (el l t.toNat) x x_1 = placedX (el l t.toNat) x y ∧ True) ∨ ∃ (y : Nat), (y ≤ (distRow (sizeT' (el l t.toNat)).toNat
(tShape (el l t.toNat)) (tA (el l t.toNat)) (tB (el l t.toNat)) (x : Int)).length ∧ (blkM (el l t.toNat) (sumZ l t.toNat) x y = [] → False)) ∧ (distRow (sizeT' (el l t.toNat)).toNat (tShape (el l t.toNat)) (tA (el l
t.toNat)) (tB (el l t.toNat)) (x : Int)).length - y < (distRow (sizeT' (el l t.toNat)).toNat (tShape (el l t.toNat)) (tA (el l t.toNat)) (tB (el l t.toNat)) (x : Int)).length - x_1 ∧ ((x_1 : Int) + 1 = (y : Int) ∧ ((0 :
Nat) = 0 ∧ (blkM (el l t.toNat) (sumZ l t.toNat) x x_1).length = (blkM (el l t.toNat) (sumZ l t.toNat) x y).length ∧ True) ∧ True) ∧ placedX (el l t.toNat) x x_1 = placedX (el l t.toNat) x y ∧ blkM (el l t.toNat) (sumZ l
t.toNat) x x_1 = blkM (el l t.toNat) (sumZ l t.toNat) x y ∧ True))) ∧ (((x_1 : Int) < (↑(distRow (sizeT' (el l t.toNat)).toNat (tShape (el l t.toNat)) (tA (el l t.toNat)) (tB (el l t.toNat)) (x : Int)).length : Int) →
False) → 0 + (blkM (el l t.toNat) (sumZ l t.toNat) x x_1).length ≤ (blkM (el l t.toNat) (sumZ l t.toNat) x x_1).length ∧ 0 + 1 ≤ [D.list (List.take (blkM (el l t.toNat) (sumZ l t.toNat) x x_1).length (blkM (el l t.toNat)
(sumZ l t.toNat) x x_1))].length ∧ (1 : Nat) ≤ 16777216 ∧ ((-9223372036854775808) ≤ (x : Int) + 1 ∧ (x : Int) + 1 < 9223372036854775808) ∧ ((∃ (y : Nat), (y ≤ (sizeT' (el l t.toNat)).toNat ∧ blkX (el l t.toNat) (sumZ l
t.toNat) y = []) ∧ (sizeT' (el l t.toNat)).toNat - y < (sizeT' (el l t.toNat)).toNat - x ∧ ((x : Int) + 1 = (y : Int) ∧ False ∧ True) ∧ placedX (el l t.toNat) x x_1 = placedX (el l t.toNat) y 0 ∧ True) ∨ ∃ (y : Nat), (y
≤ (sizeT' (el l t.toNat)).toNat ∧ (blkX (el l t.toNat) (sumZ l t.toNat) y = [] → False)) ∧ (sizeT' (el l t.toNat)).toNat - y < (sizeT' (el l t.toNat)).toNat - x ∧ ((x : Int) + 1 = (y : Int) ∧ ((0 : Nat) = 0 ∧ 1 = (blkX
(el l t.toNat) (sumZ l t.toNat) y).length ∧ True) ∧ True) ∧ placedX (el l t.toNat) x x_1 = placedX (el l t.toNat) y 0 ∧ List.take 1 [D.list (List.take (blkM (el l t.toNat) (sumZ l t.toNat) x x_1).length (blkM (el l
t.toNat) (sumZ l t.toNat) x x_1))] = blkX (el l t.toNat) (sumZ l t.toNat) y ∧ True)))) ∧ (((x : Int) < (↑(sizeT' (el l t.toNat)).toNat : Int) → False) → D.nil = blocksD l t)) ∧ ∀ (x : Nat), x ≤ (sizeT' (el l
t.toNat)).toNat ∧ (blkX (el l t.toNat) (sumZ l t.toNat) x = [] → False) → (sizeT' (el l t.toNat)).toNat - x < LIM ∧ ((x : Int) < (↑(sizeT' (el l t.toNat)).toNat : Int) → 0 ≤ (x : Int) ∧ (x : Int) < (↑(sizeT' (el l
t.toNat)).toNat : Int) ∧ x < (placedX (el l t.toNat) x 0).length ∧ ((nthD (placedX (el l t.toNat) x 0) x).asProp → ((-9223372036854775808) ≤ (x : Int) + 1 ∧ (x : Int) + 1 < 9223372036854775808) ∧ ((∃ (y : Nat), (y ≤
(sizeT' (el l t.toNat)).toNat ∧ blkX (el l t.toNat) (sumZ l t.toNat) y = []) ∧ (sizeT' (el l t.toNat)).toNat - y < (sizeT' (el l t.toNat)).toNat - x ∧ ((x : Int) + 1 = (y : Int) ∧ False ∧ True) ∧ placedX (el l t.toNat) x
0 = placedX (el l t.toNat) y 0 ∧ True) ∨ ∃ (y : Nat), (y ≤ (sizeT' (el l t.toNat)).toNat ∧ (blkX (el l t.toNat) (sumZ l t.toNat) y = [] → False)) ∧ (sizeT' (el l t.toNat)).toNat - y < (sizeT' (el l t.toNat)).toNat - x ∧
((x : Int) + 1 = (y : Int) ∧ ((0 : Nat) = 0 ∧ (blkX (el l t.toNat) (sumZ l t.toNat) x).length = (blkX (el l t.toNat) (sumZ l t.toNat) y).length ∧ True) ∧ True) ∧ placedX (el l t.toNat) x 0 = placedX (el l t.toNat) y 0 ∧
blkX (el l t.toNat) (sumZ l t.toNat) x = blkX (el l t.toNat) (sumZ l t.toNat) y ∧ True)) ∧ (((nthD (placedX (el l t.toNat) x 0) x).asProp → False) → 0 ≤ t ∧ t < (l.len : Int) ∧ inTab (tShape (el l t.toNat)) (tA (el l
t.toNat)) (tB (el l t.toNat)) (x : Int) ∧ ((∃ (x_1 : Nat), (x_1 ≤ (distRow (sizeT' (el l t.toNat)).toNat (tShape (el l t.toNat)) (tA (el l t.toNat)) (tB (el l t.toNat)) (x : Int)).length ∧ blkM (el l t.toNat) (sumZ l
t.toNat) x x_1 = []) ∧ (0 = (x_1 : Int) ∧ True ∧ True) ∧ placedX (el l t.toNat) x 0 = placedX (el l t.toNat) x x_1 ∧ True) ∨ ∃ (x_1 : Nat), (x_1 ≤ (distRow (sizeT' (el l t.toNat)).toNat (tShape (el l t.toNat)) (tA (el l
t.toNat)) (tB (el l t.toNat)) (x : Int)).length ∧ (blkM (el l t.toNat) (sumZ l t.toNat) x x_1 = [] → False)) ∧ (0 = (x_1 : Int) ∧ False ∧ True) ∧ placedX (el l t.toNat) x 0 = placedX (el l t.toNat) x x_1 ∧ False ∧ True)
∧ (∀ (x_1 : Nat), x_1 ≤ (distRow (sizeT' (el l t.toNat)).toNat (tShape (el l t.toNat)) (tA (el l t.toNat)) (tB (el l t.toNat)) (x : Int)).length ∧ blkM (el l t.toNat) (sumZ l t.toNat) x x_1 = [] → (distRow (sizeT' (el l
t.toNat)).toNat (tShape (el l t.toNat)) (tA (el l t.toNat)) (tB (el l t.toNat)) (x : Int)).length - x_1 < LIM ∧ ((x_1 : Int) < (↑(distRow (sizeT' (el l t.toNat)).toNat (tShape (el l t.toNat)) (tA (el l t.toNat)) (tB (el
l t.toNat)) (x : Int)).length : Int) → 0 ≤ (x_1 : Int) ∧ (x_1 : Int) < (↑(distRow (sizeT' (el l t.toNat)).toNat (tShape (el l t.toNat)) (tA (el l t.toNat)) (tB (el l t.toNat)) (x : Int)).length : Int) ∧ (0 ≤ (nthD
(distRow (sizeT' (el l t.toNat)).toNat (tShape (el l t.toNat)) (tA (el l t.toNat)) (tB (el l t.toNat)) (x : Int)) x_1).asInt → 0 ≤ (x_1 : Int) ∧ (x_1 : Int) < (↑(sizeT' (el l t.toNat)).toNat : Int) ∧ x_1 < (placedX (el l
t.toNat) x x_1).length ∧ ((-9223372036854775808) ≤ sumZ l t.toNat + (x_1 : Int) ∧ sumZ l t.toNat + (x_1 : Int) < 9223372036854775808) ∧ 0 + 1 ≤ [D.int (sumZ l t.toNat + (x_1 : Int))].length ∧ (1 : Nat) ≤ 16777216 ∧
((-9223372036854775808) ≤ (x_1 : Int) + 1 ∧ (x_1 : Int) + 1 < 9223372036854775808) ∧ ((∃ (y : Nat), (y ≤ (distRow (sizeT' (el l t.toNat)).toNat (tShape (el l t.toNat)) (tA (el l t.toNat)) (tB (el l t.toNat)) (x :
Int)).length ∧ blkM (el l t.toNat) (sumZ l t.toNat) x y = []) ∧ (distRow (sizeT' (el l t.toNat)).toNat (tShape (el l t.toNat)) (tA (el l t.toNat)) (tB (el l t.toNat)) (x : Int)).length - y < (distRow (sizeT' (el l
t.toNat)).toNat (tShape (el l t.toNat)) (tA (el l t.toNat)) (tB (el l t.toNat)) (x : Int)).length - x_1 ∧ ((x_1 : Int) + 1 = (y : Int) ∧ False ∧ True) ∧ (placedX (el l t.toNat) x x_1).set x_1 (D.bool (true = true)) =
placedX (el l t.toNat) x y ∧ True) ∨ ∃ (y : Nat), (y ≤ (distRow (sizeT' (el l t.toNat)).toNat (tShape (el l t.toNat)) (tA (el l t.toNat)) (tB (el l t.toNat)) (x : Int)).length ∧ (blkM (el l t.toNat) (sumZ l t.toNat) x y
= [] → False)) ∧ (distRow (sizeT' (el l t.toNat)).toNat (tShape (el l t.toNat)) (tA (el l t.toNat)) (tB (el l t.toNat)) (x : Int)).length - y < (distRow (sizeT' (el l t.toNat)).toNat (tShape (el l t.toNat)) (tA (el l
t.toNat)) (tB (el l t.toNat)) (x : Int)).length - x_1 ∧ ((x_1 : Int) + 1 = (y : Int) ∧ ((0 : Nat) = 0 ∧ 1 = (blkM (el l t.toNat) (sumZ l t.toNat) x y).length ∧ True) ∧ True) ∧ (placedX (el l t.toNat) x x_1).set x_1
(D.bool (true = true)) = placedX (el l t.toNat) x y ∧ List.take 1 [D.int (sumZ l t.toNat + (x_1 : Int))] = blkM (el l t.toNat) (sumZ l t.toNat) x y ∧ True)) ∧ ((0 ≤ (nthD (distRow (sizeT' (el l t.toNat)).toNat (tShape
(el l t.toNat)) (tA (el l t.toNat)) (tB (el l t.toNat)) (x : Int)) x_1).asInt → False) → ((-9223372036854775808) ≤ (x_1 : Int) + 1 ∧ (x_1 : Int) + 1 < 9223372036854775808) ∧ ((∃ (y : Nat), (y ≤ (distRow (sizeT' (el l
t.toNat)).toNat (tShape (el l t.toNat)) (tA (el l t.toNat)) (tB (el l t.toNat)) (x : Int)).length ∧ blkM (el l t.toNat) (sumZ l t.toNat) x y = []) ∧ (distRow (sizeT' (el l t.toNat)).toNat (tShape (el l t.toNat)) (tA (el
l t.toNat)) (tB (el l t.toNat)) (x : Int)).length - y < (distRow (sizeT' (el l t.toNat)).toNat (tShape (el l t.toNat)) (tA (el l t.toNat)) (tB (el l t.toNat)) (x : Int)).length - x_1 ∧ ((x_1 : Int) + 1 = (y : Int) ∧ True
∧ True) ∧ placedX (el l t.toNat) x x_1 = placedX (el l t.toNat) x y ∧ True) ∨ ∃ (y : Nat), (y ≤ (distRow (sizeT' (el l t.toNat)).toNat (tShape (el l t.toNat)) (tA (el l t.toNat)) (tB (el l t.toNat)) (x : Int)).length ∧
(blkM (el l t.toNat) (sumZ l t.toNat) x y = [] → False)) ∧ (distRow (sizeT' (el l t.toNat)).toNat (tShape (el l t.toNat)) (tA (el l t.toNat)) (tB (el l t.toNat)) (x : Int)).length - y < (distRow (sizeT' (el l
t.toNat)).toNat (tShape (el l t.toNat)) (tA (el l t.toNat)) (tB (el l t.toNat)) (x : Int)).length - x_1 ∧ ((x_1 : Int) + 1 = (y : Int) ∧ False ∧ True) ∧ placedX (el l t.toNat) x x_1 = placedX (el l t.toNat) x y ∧ False ∧
True))) ∧ (((x_1 : Int) < (↑(distRow (sizeT' (el l t.toNat)).toNat (tShape (el l t.toNat)) (tA (el l t.toNat)) (tB (el l t.toNat)) (x : Int)).length : Int) → False) → 0 + 1 ≤ [D.nil].length ∧ 0 + (blkX (el l t.toNat)
(sumZ l t.toNat) x).length ≤ (blkX (el l t.toNat) (sumZ l t.toNat) x).length ∧ (blkX (el l t.toNat) (sumZ l t.toNat) x).length + 1 ≤ 16777216 ∧ ((-9223372036854775808) ≤ (x : Int) + 1 ∧ (x : Int) + 1 <
9223372036854775808) ∧ ((∃ (y : Nat), (y ≤ (sizeT' (el l t.toNat)).toNat ∧ blkX (el l t.toNat) (sumZ l t.toNat) y = []) ∧ (sizeT' (el l t.toNat)).toNat - y < (sizeT' (el l t.toNat)).toNat - x ∧ ((x : Int) + 1 = (y : Int)
∧ False ∧ True) ∧ placedX (el l t.toNat) x x_1 = placedX (el l t.toNat) y 0 ∧ True) ∨ ∃ (y : Nat), (y ≤ (sizeT' (el l t.toNat)).toNat ∧ (blkX (el l t.toNat) (sumZ l t.toNat) y = [] → False)) ∧ (sizeT' (el l
t.toNat)).toNat - y < (sizeT' (el l t.toNat)).toNat - x ∧ ((x : Int) + 1 = (y : Int) ∧ ((0 : Nat) = 0 ∧ (blkX (el l t.toNat) (sumZ l t.toNat) x).length + 1 = (blkX (el l t.toNat) (sumZ l t.toNat) y).length ∧ True) ∧
True) ∧ placedX (el l t.toNat) x x_1 = placedX (el l t.toNat) y 0 ∧ List.take (blkX (el l t.toNat) (sumZ l t.toNat) x).length (blkX (el l t.toNat) (sumZ l t.toNat) x) ++ List.take 1 [D.nil] = blkX (el l t.toNat) (sumZ l
t.toNat) y ∧ True))) ∧ ∀ (x_1 : Nat), x_1 ≤ (distRow (sizeT' (el l t.toNat)).toNat (tShape (el l t.toNat)) (tA (el l t.toNat)) (tB (el l t.toNat)) (x : Int)).length ∧ (blkM (el l t.toNat) (sumZ l t.toNat) x x_1 = [] →
False) → (distRow (sizeT' (el l t.toNat)).toNat (tShape (el l t.toNat)) (tA (el l t.toNat)) (tB (el l t.toNat)) (x : Int)).length - x_1 < LIM ∧ ((x_1 : Int) < (↑(distRow (sizeT' (el l t.toNat)).toNat (tShape (el l
t.toNat)) (tA (el l t.toNat)) (tB (el l t.toNat)) (x : Int)).length : Int) → 0 ≤ (x_1 : Int) ∧ (x_1 : Int) < (↑(distRow (sizeT' (el l t.toNat)).toNat (tShape (el l t.toNat)) (tA (el l t.toNat)) (tB (el l t.toNat)) (x :
Int)).length : Int) ∧ (0 ≤ (nthD (distRow (sizeT' (el l t.toNat)).toNat (tShape (el l t.toNat)) (tA (el l t.toNat)) (tB (el l t.toNat)) (x : Int)) x_1).asInt → 0 ≤ (x_1 : Int) ∧ (x_1 : Int) < (↑(sizeT' (el l
t.toNat)).toNat : Int) ∧ x_1 < (placedX (el l t.toNat) x x_1).length ∧ ((-9223372036854775808) ≤ sumZ l t.toNat + (x_1 : Int) ∧ sumZ l t.toNat + (x_1 : Int) < 9223372036854775808) ∧ 0 + 1 ≤ [D.int (sumZ l t.toNat + (x_1
: Int))].length ∧ 0 + (blkM (el l t.toNat) (sumZ l t.toNat) x x_1).length ≤ (blkM (el l t.toNat) (sumZ l t.toNat) x x_1).length ∧ (blkM (el l t.toNat) (sumZ l t.toNat) x x_1).length + 1 ≤ 16777216 ∧
((-9223372036854775808) ≤ (x_1 : Int) + 1 ∧ (x_1 : Int) + 1 < 9223372036854775808) ∧ ((∃ (y : Nat), (y ≤ (distRow (sizeT' (el l t.toNat)).toNat (tShape (el l t.toNat)) (tA (el l t.toNat)) (tB (el l t.toNat)) (x :
Int)).length ∧ blkM (el l t.toNat) (sumZ l t.toNat) x y = []) ∧ (distRow (sizeT' (el l t.toNat)).toNat (tShape (el l t.toNat)) (tA (el l t.toNat)) (tB (el l t.toNat)) (x : Int)).length - y < (distRow (sizeT' (el l
t.toNat)).toNat (tShape (el l t.toNat)) (tA (el l t.toNat)) (tB (el l t.toNat)) (x : Int)).length - x_1 ∧ ((x_1 : Int) + 1 = (y : Int) ∧ False ∧ True) ∧ (placedX (el l t.toNat) x x_1).set x_1 (D.bool (true = true)) =
placedX (el l t.toNat) x y ∧ True) ∨ ∃ (y : Nat), (y ≤ (distRow (sizeT' (el l t.toNat)).toNat (tShape (el l t.toNat)) (tA (el l t.toNat)) (tB (el l t.toNat)) (x : Int)).length ∧ (blkM (el l t.toNat) (sumZ l t.toNat) x y
= [] → False)) ∧ (distRow (sizeT' (el l t.toNat)).toNat (tShape (el l t.toNat)) (tA (el l t.toNat)) (tB (el l t.toNat)) (x : Int)).length - y < (distRow (sizeT' (el l t.toNat)).toNat (tShape (el l t.toNat)) (tA (el l
t.toNat)) (tB (el l t.toNat)) (x : Int)).length - x_1 ∧ ((x_1 : Int) + 1 = (y : Int) ∧ ((0 : Nat) = 0 ∧ (blkM (el l t.toNat) (sumZ l t.toNat) x x_1).length + 1 = (blkM (el l t.toNat) (sumZ l t.toNat) x y).length ∧ True)
∧ True) ∧ (placedX (el l t.toNat) x x_1).set x_1 (D.bool (true = true)) = placedX (el l t.toNat) x y ∧ List.take (blkM (el l t.toNat) (sumZ l t.toNat) x x_1).length (blkM (el l t.toNat) (sumZ l t.toNat) x x_1) ++
List.take 1 [D.int (sumZ l t.toNat + (x_1 : Int))] = blkM (el l t.toNat) (sumZ l t.toNat) x y ∧ True)) ∧ ((0 ≤ (nthD (distRow (sizeT' (el l t.toNat)).toNat (tShape (el l t.toNat)) (tA (el l t.toNat)) (tB (el l t.toNat))
(x : Int)) x_1).asInt → False) → ((-9223372036854775808) ≤ (x_1 : Int) + 1 ∧ (x_1 : Int) + 1 < 9223372036854775808) ∧ ((∃ (y : Nat), (y ≤ (distRow (sizeT' (el l t.toNat)).toNat (tShape (el l t.toNat)) (tA (el l t.toNat))
(tB (el l t.toNat)) (x : Int)).length ∧ blkM (el l t.toNat) (sumZ l t.toNat) x y = []) ∧ (distRow (sizeT' (el l t.toNat)).toNat (tShape (el l t.toNat)) (tA (el l t.toNat)) (tB (el l t.toNat)) (x : Int)).length - y <
(distRow (sizeT' (el l t.toNat)).toNat (tShape (el l t.toNat)) (tA (el l t.toNat)) (tB (el l t.toNat)) (x : Int)).length - x_1 ∧ ((x_1 : Int) + 1 = (y : Int) ∧ False ∧ True) ∧ placedX (el l t.toNat) x x_1 = placedX (el l
t.toNat) x y ∧ True) ∨ ∃ (y : Nat), (y ≤ (distRow (sizeT' (el l t.toNat)).toNat (tShape (el l t.toNat)) (tA (el l t.toNat)) (tB (el l t.toNat)) (x : Int)).length ∧ (blkM (el l t.toNat) (sumZ l t.toNat) x y = [] → False))
∧ (distRow (sizeT' (el l t.toNat)).toNat (tShape (el l t.toNat)) (tA (el l t.toNat)) (tB (el l t.toNat)) (x : Int)).length - y < (distRow (sizeT' (el l t.toNat)).toNat (tShape (el l t.toNat)) (tA (el l t.toNat)) (tB (el
l t.toNat)) (x : Int)).length - x_1 ∧ ((x_1 : Int) + 1 = (y : Int) ∧ ((0 : Nat) = 0 ∧ (blkM (el l t.toNat) (sumZ l t.toNat) x x_1).length = (blkM (el l t.toNat) (sumZ l t.toNat) x y).length ∧ True) ∧ True) ∧ placedX (el
l t.toNat) x x_1 = placedX (el l t.toNat) x y ∧ blkM (el l t.toNat) (sumZ l t.toNat) x x_1 = blkM (el l t.toNat) (sumZ l t.toNat) x y ∧ True))) ∧ (((x_1 : Int) < (↑(distRow (sizeT' (el l t.toNat)).toNat (tShape (el l
t.toNat)) (tA (el l t.toNat)) (tB (el l t.toNat)) (x : Int)).length : Int) → False) → 0 + (blkM (el l t.toNat) (sumZ l t.toNat) x x_1).length ≤ (blkM (el l t.toNat) (sumZ l t.toNat) x x_1).length ∧ 0 + 1 ≤ [D.list
(List.take (blkM (el l t.toNat) (sumZ l t.toNat) x x_1).length (blkM (el l t.toNat) (sumZ l t.toNat) x x_1))].length ∧ 0 + (blkX (el l t.toNat) (sumZ l t.toNat) x).length ≤ (blkX (el l t.toNat) (sumZ l t.toNat) x).length
∧ (blkX (el l t.toNat) (sumZ l t.toNat) x).length + 1 ≤ 16777216 ∧ ((-9223372036854775808) ≤ (x : Int) + 1 ∧ (x : Int) + 1 < 9223372036854775808) ∧ ((∃ (y : Nat), (y ≤ (sizeT' (el l t.toNat)).toNat ∧ blkX (el l t.toNat)
(sumZ l t.toNat) y = []) ∧ (sizeT' (el l t.toNat)).toNat - y < (sizeT' (el l t.toNat)).toNat - x ∧ ((x : Int) + 1 = (y : Int) ∧ False ∧ True) ∧ placedX (el l t.toNat) x x_1 = placedX (el l t.toNat) y 0 ∧ True) ∨ ∃ (y :
Nat), (y ≤ (sizeT' (el l t.toNat)).toNat ∧ (blkX (el l t.toNat) (sumZ l t.toNat) y = [] → False)) ∧ (sizeT' (el l t.toNat)).toNat - y < (sizeT' (el l t.toNat)).toNat - x ∧ ((x : Int) + 1 = (y : Int) ∧ ((0 : Nat) = 0 ∧
(blkX (el l t.toNat) (sumZ l t.toNat) x).length + 1 = (blkX (el l t.toNat) (sumZ l t.toNat) y).length ∧ True) ∧ True) ∧ placedX (el l t.toNat) x x_1 = placedX (el l t.toNat) y 0 ∧ List.take (blkX (el l t.toNat) (sumZ l
t.toNat) x).length (blkX (el l t.toNat) (sumZ l t.toNat) x) ++ List.take 1 [D.list (List.take (blkM (el l t.toNat) (sumZ l t.toNat) x x_1).length (blkM (el l t.toNat) (sumZ l t.toNat) x x_1))] = blkX (el l t.toNat) (sumZ
l t.toNat) y ∧ True)))) ∧ (((x : Int) < (↑(sizeT' (el l t.toNat)).toNat : Int) → False) → 0 + (blkX (el l t.toNat) (sumZ l t.toNat) x).length ≤ (blkX (el l t.toNat) (sumZ l t.toNat) x).length ∧ D.list (List.take (blkX
(el l t.toNat) (sumZ l t.toNat) x).length (blkX (el l t.toNat) (sumZ l t.toNat) x)) = blocksD l t))) ∧ ((t < (l.len : Int) → False) → D.nil = blocksD l t)) ∧ ((0 ≤ t → False) → D.nil = blocksD l t)) := by intros; kernel_rfl
theorem sum_small {l : D} (hs : l.len ≤ 100) : ∀ n, n ≤ 100 → 0 ≤ sumZ l n ∧ sumZ l n ≤ 24 * (n : Int)
 | 0, _ => ⟨Int.le_refl 0, Int.le_refl _⟩
 | n + 1, h => by
  have ih := sum_small hs n (by omega)
  have hz := size_range (el l n)
  show 0 ≤ sumZ l n + sizeT' (el l n) ∧ sumZ l n + sizeT' (el l n) ≤ 24 * ((n + 1 : Nat) : Int)
  omega
theorem seated_ok {l : D} (hs : smallD l) (h : okHall l) : seatedD l ∧ l.len ≤ 16 := by
 have hb := h.out
 unfold badZ at hb
 split at hb
 ·cases hb
 ·rename_i hl
  refine ⟨⟨by omega, fun i hi => ?_⟩, by omega⟩
  have key : ∀ f i, (scanZ l f i).2 = 0 → ∀ j, i ≤ j → j < i + f → err1 l j = 0 := by
   intro f
   induction f with
   | zero => intro i _ j h1 h2; omega
   | succ f ih =>
    intro i h j h1 h2
    unfold scanZ at h
    split at h
    ·rename_i he; exact absurd h he
    ·rename_i he
     by_cases e : j = i
     ·subst e; exact Classical.not_not.1 he
     ·exact ih (i + 1) h j (by omega) (by omega)
  have he := key l.len 0 hb i (by omega) (by omega)
  intro hz
  unfold err1 at he
  split at he
  ·rename_i h1; exact h1 he
  ·rename_i h1
   have h1 : errT (el l i) = 0 := Classical.not_not.1 h1
   unfold errT errZ at h1
   split at h1
   ·cases h1
   ·split at h1
    ·cases h1
    ·rename_i h2; exact h2 hz
theorem s36 (l : D) (t : Int) (hs : smallD l) : symFun (ctx seat3 metAnn) 4 36 [.dat 22 l, .int .i64 t] (.dat 48 (blocksD l t)) := by
 rw [vc36]
 have hno : ¬ hasT l t → D.nil = blocksD l t := fun h => by unfold blocksD; rw [if_neg h]
 refine ⟨fun h0 => ⟨fun h1 => ⟨hs, fun h2 => hno fun h => h2 h.out.2.2, fun h2 => ?_⟩, fun h1 => hno fun h => h1 h.out.2.1⟩, fun h0 => hno fun h => h0 h.out.1⟩
 have hok : okHall l := Classical.not_not.1 h2
 have hT : hasT l t := ⟨h0, h1, hok⟩
 obtain ⟨hse, hl16⟩ := seated_ok hs hok
 have hz := hse.out.2 t.toNat (by omega)
 have hr := size_range (el l t.toNat)
 have hbd : blocksD l t = .list (blkX (el l t.toNat) (sumZ l t.toNat) (dN (el l t.toNat))) := by unfold blocksD; rw [if_pos hT]
 have hF := sum_small hse.out.1 t.toNat (by omega)
 rw [hbd]
 have hbytes : (ctx seat3 metAnn).P.types[4].bytes = 1 := by kernel_rfl
 rw [hbytes]
 have hin : ∀ x : Nat, (x : Int) < ((sizeT' (el l t.toNat)).toNat : Int) → inTab (tShape (el l t.toNat)) (tA (el l t.toNat)) (tB (el l t.toNat)) x := fun x hx => ⟨hz, by omega, by show (x : Int) < sizeT' (el l t.toNat); omega⟩
 have hdl : ∀ x : Int, (distRow (sizeT' (el l t.toNat)).toNat (tShape (el l t.toNat)) (tA (el l t.toNat)) (tB (el l t.toNat)) x).length = (sizeT' (el l t.toNat)).toNat := fun x => len_dist _ _ _ _ _
 have hdn : ∀ (x y : Nat), y < (sizeT' (el l t.toNat)).toNat → ((0 : Int) ≤ (nthD (distRow (sizeT' (el l t.toNat)).toNat (tShape (el l t.toNat)) (tA (el l t.toNat)) (tB (el l t.toNat)) (x : Int)) y).asInt ↔ reachP (tShape (el l t.toNat)) (tA (el l t.toNat)) (tB (el l t.toNat)) (sizeT' (el l t.toNat)).toNat x y) := fun x y hy => by
  unfold distRow; rw [nth_rowN _ hy, Int.toNat_natCast]; exact ⟨fun h => ⟨h⟩, fun h => h.out⟩
 have hX : ∀ x, blkX (el l t.toNat) (sumZ l t.toNat) x = blkL (tShape (el l t.toNat)) (tA (el l t.toNat)) (tB (el l t.toNat)) (sumZ l t.toNat) (sizeT' (el l t.toNat)).toNat x := fun _ => rfl
 have hM : ∀ x y, blkM (el l t.toNat) (sumZ l t.toNat) x y = blkMem (tShape (el l t.toNat)) (tA (el l t.toNat)) (tB (el l t.toNat)) (sumZ l t.toNat) (sizeT' (el l t.toNat)).toNat x y := fun _ _ => rfl
 have hP : ∀ x y, placedX (el l t.toNat) x y = placedL (tShape (el l t.toNat)) (tA (el l t.toNat)) (tB (el l t.toNat)) (sizeT' (el l t.toNat)).toNat x y := fun _ _ => rfl
 have hD : dN (el l t.toNat) = (sizeT' (el l t.toNat)).toNat := rfl
 simp only [hX, hM, hP, hD, hdl, imp_false]
 refine ⟨⟨by omega, by omega, hse⟩, h0, h1, hz, by omega, by omega, by omega, by omega, ?_⟩
 generalize tShape (el l t.toNat) = sh at *
 generalize tA (el l t.toNat) = a at *
 generalize tB (el l t.toNat) = b at *
 generalize sumZ l t.toNat = F at *
 obtain ⟨n, hn⟩ : ∃ n, (sizeT' (el l t.toNat)).toNat = n := ⟨_, rfl⟩
 rw [hn] at hdn hdl hin ⊢
 have h24 : n ≤ 24 := by omega
 have hn0 : 0 < n := by omega
 have hFr : 0 ≤ F ∧ F ≤ 2400 := by omega
 clear hX hM hP hD hbd hno
 have hpl : ∀ x y, (placedL sh a b n x y).length = n := fun x y => pl_len x y
 have hpn : ∀ x : Nat, x < n → ((nthD (placedL sh a b n x 0) x).asProp ↔ placedP sh a b n x x) := fun x hx => by
  rw [pl_nth hx]
  exact ⟨fun h => (show placed2 sh a b n x 0 x from h).out.elim id (fun g => absurd g.1 (Nat.not_lt_zero _)), fun h => (show placed2 sh a b n x 0 x from ⟨.inl h⟩)⟩
 have hL : ∀ m : Nat, m ≤ 64 → m < LIM := fun m h => by unfold LIM; omega
 refine ⟨.inl ⟨0, ⟨Nat.zero_le _, rfl⟩, ⟨rfl, trivial, trivial⟩, pl_zero, trivial⟩, fun x hx => ?_, fun x hx => ?_⟩
 ·obtain ⟨hx1, hx2⟩ := hx
  refine ⟨hL _ (by omega), fun hlt => ?_, fun hge => ?_⟩
  ·have hxn : x < n := by omega
   refine ⟨by omega, hlt, by rw [hpl]; exact hxn, fun hp => ?_, fun hp => ?_⟩
   ·have hp := (hpn x hxn).1 hp
    exact ⟨by omega, .inl ⟨x + 1, ⟨by omega, by rw [bl_skip hp]; exact hx2⟩, by omega, ⟨by omega, trivial, trivial⟩, pl_skip hxn hp, trivial⟩⟩
   ·have hp : ¬ placedP sh a b n x x := fun h => hp ((hpn x hxn).2 h)
    refine ⟨h0, h1, hin x hlt, .inl ⟨0, ⟨Nat.zero_le _, rfl⟩, ⟨rfl, trivial, trivial⟩, rfl, trivial⟩, fun y hy => ⟨hL _ (by omega), fun hly => ?_, fun hgy => ?_⟩, fun y hy => ⟨hL _ (by omega), fun hly => ?_, fun hgy => ?_⟩⟩
    ·have hyn : y < n := by omega
     rw [hdn x y hyn]
     refine ⟨by omega, hly, fun hr => ⟨by omega, by omega, by rw [hpl]; exact hyn, by omega, by simp, by omega, by omega, .inr ⟨y + 1, ⟨by omega, ?_⟩, by omega, ⟨by omega, ⟨trivial, ?_, trivial⟩, trivial⟩, pl_set hyn hr, ?_, trivial⟩⟩, fun hr => ⟨by omega, .inl ⟨y + 1, ⟨by omega, by rw [bm_far hr]; exact hy.2⟩, by omega, ⟨by omega, trivial, trivial⟩, pl_far hr, trivial⟩⟩⟩
     all_goals rw [bm_near hr, hy.2]; simp
    ·have : y = n := by omega
     subst this
     exact absurd hy.2 (bm_self hxn)
    ·have hyn : y < n := by omega
     have hbl := bm_len (sh := sh) (a := a) (b := b) (first := F) (n := n) x y
     rw [hdn x y hyn]
     refine ⟨by omega, hly, fun hr => ⟨by omega, by omega, by rw [hpl]; exact hyn, by omega, by simp, by omega, by omega, by omega, .inr ⟨y + 1, ⟨by omega, ?_⟩, by omega, ⟨by omega, ⟨trivial, ?_, trivial⟩, trivial⟩, pl_set hyn hr, ?_, trivial⟩⟩, fun hr => ⟨by omega, .inr ⟨y + 1, ⟨by omega, by rw [bm_far hr]; exact hy.2⟩, by omega, ⟨by omega, ⟨trivial, by rw [bm_far hr], trivial⟩, trivial⟩, pl_far hr, by rw [bm_far hr], trivial⟩⟩⟩
     all_goals rw [bm_near hr]; simp
    ·have : y = n := by omega
     subst this
     refine ⟨by omega, by simp, by omega, by omega, .inr ⟨x + 1, ⟨by omega, ?_⟩, by omega, ⟨by omega, ⟨trivial, ?_, trivial⟩, trivial⟩, pl_row, ?_, trivial⟩⟩
     all_goals rw [bl_lead hp, hx2]; simp
  ·-- no block at all: not so, since there is a seat
   have : x = n := by omega
   subst this
   exfalso
   have h0' : ¬ placedP sh a b x 0 0 := fun h => by obtain ⟨k, hk, _⟩ := h.out; omega
   have : (D.list (blkMem sh a b F x 0 x)) ∈ blkL sh a b F x x := by
    unfold blkL
    exact List.mem_map.2 ⟨0, List.mem_filter.2 ⟨List.mem_range.2 hn0, by simp [h0']⟩, rfl⟩
   rw [hx2] at this; cases this
 ·obtain ⟨hx1, hx2⟩ := hx
  have hxl := bl_len (sh := sh) (a := a) (b := b) (first := F) (n := n) x
  refine ⟨hL _ (by omega), fun hlt => ?_, fun hge => ?_⟩
  ·have hxn : x < n := by omega
   refine ⟨by omega, hlt, by rw [hpl]; exact hxn, fun hp => ?_, fun hp => ?_⟩
   ·have hp := (hpn x hxn).1 hp
    exact ⟨by omega, .inr ⟨x + 1, ⟨by omega, by rw [bl_skip hp]; exact hx2⟩, by omega, ⟨by omega, ⟨trivial, by rw [bl_skip hp], trivial⟩, trivial⟩, pl_skip hxn hp, by rw [bl_skip hp], trivial⟩⟩
   ·have hp : ¬ placedP sh a b n x x := fun h => hp ((hpn x hxn).2 h)
    refine ⟨h0, h1, hin x hlt, .inl ⟨0, ⟨Nat.zero_le _, rfl⟩, ⟨rfl, trivial, trivial⟩, rfl, trivial⟩, fun y hy => ⟨hL _ (by omega), fun hly => ?_, fun hgy => ?_⟩, fun y hy => ⟨hL _ (by omega), fun hly => ?_, fun hgy => ?_⟩⟩
    ·have hyn : y < n := by omega
     rw [hdn x y hyn]
     refine ⟨by omega, hly, fun hr => ⟨by omega, by omega, by rw [hpl]; exact hyn, by omega, by simp, by omega, by omega, .inr ⟨y + 1, ⟨by omega, ?_⟩, by omega, ⟨by omega, ⟨trivial, ?_, trivial⟩, trivial⟩, pl_set hyn hr, ?_, trivial⟩⟩, fun hr => ⟨by omega, .inl ⟨y + 1, ⟨by omega, by rw [bm_far hr]; exact hy.2⟩, by omega, ⟨by omega, trivial, trivial⟩, pl_far hr, trivial⟩⟩⟩
     all_goals rw [bm_near hr, hy.2]; simp
    ·have : y = n := by omega
     subst this
     exact absurd hy.2 (bm_self hxn)
    ·have hyn : y < n := by omega
     have hbl := bm_len (sh := sh) (a := a) (b := b) (first := F) (n := n) x y
     rw [hdn x y hyn]
     refine ⟨by omega, hly, fun hr => ⟨by omega, by omega, by rw [hpl]; exact hyn, by omega, by simp, by omega, by omega, by omega, .inr ⟨y + 1, ⟨by omega, ?_⟩, by omega, ⟨by omega, ⟨trivial, ?_, trivial⟩, trivial⟩, pl_set hyn hr, ?_, trivial⟩⟩, fun hr => ⟨by omega, .inr ⟨y + 1, ⟨by omega, by rw [bm_far hr]; exact hy.2⟩, by omega, ⟨by omega, ⟨trivial, by rw [bm_far hr], trivial⟩, trivial⟩, pl_far hr, by rw [bm_far hr], trivial⟩⟩⟩
     all_goals rw [bm_near hr]; simp
    ·have : y = n := by omega
     subst this
     refine ⟨by omega, by simp, by omega, by omega, by omega, .inr ⟨x + 1, ⟨by omega, ?_⟩, by omega, ⟨by omega, ⟨trivial, ?_, trivial⟩, trivial⟩, pl_row, ?_, trivial⟩⟩
     all_goals rw [bl_lead hp]; simp
  ·have : x = n := by omega
   subst this
   exact ⟨by omega, by rw [List.take_length]⟩
end Go.Ev

end

section
open Go.Proofs
namespace Go.Ev
set_option maxRecDepth 100000
set_option maxHeartbeats 4000000
theorem vc226 : ∀ (nm : List UInt8) (sh a b : Int) (o : D) (x y k : Int), symFun (ctx num2 rfAnn) 4 (226 : FuncId) [V.agg [V.str nm, V.int IntKind.u8 sh, V.int IntKind.i64 a, V.int IntKind.i64 b, V.dat (29 : TypeId) o,
V.int IntKind.i64 x, V.int IntKind.i64 y], V.int IntKind.i64 k] (V.int IntKind.i64 (nextZ a k)) = (((-9223372036854775808) ≤ k + 1 ∧ k + 1 < 9223372036854775808) ∧ (k + 1 = a → 0 = nextZ a k) ∧ ((k + 1 = a → False) →
((-9223372036854775808) ≤ k + 1 ∧ k + 1 < 9223372036854775808) ∧ k + 1 = nextZ a k)) := by intros; kernel_rfl
theorem vc227 : ∀ (nm : List UInt8) (sh a b : Int) (o : D) (x y k : Int), symFun (ctx num2 rfAnn) 4 (227 : FuncId) [V.agg [V.str nm, V.int IntKind.u8 sh, V.int IntKind.i64 a, V.int IntKind.i64 b, V.dat (29 : TypeId) o,
V.int IntKind.i64 x, V.int IntKind.i64 y], V.int IntKind.i64 k] (V.prop (aisleP b k)) = ((b = 0 → (false = true ↔ aisleP b k)) ∧ ((b = 0 → False) → (∃ (x : Nat), (x ≤ a.toNat ∧ ∀ (i : Nat), i < x → b * ((i : Int) + 1) =
k → False) ∧ (b = b * ((x : Int) + 1) ∧ True) ∧ True) ∧ ∀ (x : Nat), (x ≤ a.toNat ∧ ∀ (i : Nat), i < x → b * ((i : Int) + 1) = k → False) → a.toNat + 1 - x < LIM ∧ (b * ((x : Int) + 1) < a → (b * ((x : Int) + 1) = k →
(true = true ↔ aisleP b k)) ∧ ((b * ((x : Int) + 1) = k → False) → ((-9223372036854775808) ≤ b * ((x : Int) + 1) + b ∧ b * ((x : Int) + 1) + b < 9223372036854775808) ∧ ∃ (y : Nat), (y ≤ a.toNat ∧ ∀ (i : Nat), i < y → b *
((i : Int) + 1) = k → False) ∧ a.toNat + 1 - y < a.toNat + 1 - x ∧ (b * ((x : Int) + 1) + b = b * ((y : Int) + 1) ∧ True) ∧ True)) ∧ ((b * ((x : Int) + 1) < a → False) → (false = true ↔ aisleP b k)))) := by intros; kernel_rfl
theorem vc133 : ∀ (nm : List UInt8) (sh a b : Int) (o : D) (x y k : Int), symFun (ctx num2 rfAnn) 4 (133 : FuncId) [V.agg [V.str nm, V.int IntKind.u8 sh, V.int IntKind.i64 a, V.int IntKind.i64 b, V.dat (29 : TypeId) o,
V.int IntKind.i64 x, V.int IntKind.i64 y], V.int IntKind.i64 k] (V.prop (isIn o k)) = ((∃ (x : Nat), (x ≤ o.len ∧ notIn o k x) ∧ (0 = (x : Int) ∧ True) ∧ True) ∧ ∀ (x : Nat), x ≤ o.len ∧ notIn o k x → o.len - x < LIM ∧
((x : Int) < (o.len : Int) → 0 ≤ (x : Int) ∧ (x : Int) < (o.len : Int) ∧ ((el o x).asInt = k → (true = true ↔ isIn o k)) ∧ (((el o x).asInt = k → False) → ((-9223372036854775808) ≤ (x : Int) + 1 ∧ (x : Int) + 1 <
9223372036854775808) ∧ ∃ (y : Nat), (y ≤ o.len ∧ notIn o k y) ∧ o.len - y < o.len - x ∧ ((x : Int) + 1 = (y : Int) ∧ True) ∧ True)) ∧ (((x : Int) < (o.len : Int) → False) → (false = true ↔ isIn o k))) := by intros; kernel_rfl
theorem vc166 : ∀ (nm : List UInt8) (sh a b : Int) (o : D) (x y k : Int), symFun (ctx num2 rfAnn) 4 (166 : FuncId) [V.agg [V.str nm, V.int IntKind.u8 sh, V.int IntKind.i64 a, V.int IntKind.i64 b, V.dat (29 : TypeId) o,
V.int IntKind.i64 x, V.int IntKind.i64 y], V.int IntKind.i64 k] (V.agg [V.int IntKind.i64 (spX a b k), V.int IntKind.i64 (spY a b k)]) = ((k < a → k = spX a b k ∧ 0 = spY a b k ∧ True) ∧ ((k < a → False) →
((-9223372036854775808) ≤ k - a ∧ k - a < 9223372036854775808) ∧ (0 < b → (k - a = 0 → a = spX a b k ∧ 1 = spY a b k ∧ True) ∧ ((k - a = 0 → False) → ((-9223372036854775808) ≤ k - a - 1 ∧ k - a - 1 < 9223372036854775808)
∧ (k - a - 1 < a → ((-9223372036854775808) ≤ a - 1 ∧ a - 1 < 9223372036854775808) ∧ ((-9223372036854775808) ≤ a - 1 - (k - a - 1) ∧ a - 1 - (k - a - 1) < 9223372036854775808) ∧ a - 1 - (k - a - 1) = spX a b k ∧ 2 = spY a
b k ∧ True) ∧ ((k - a - 1 < a → False) → (-1) = spX a b k ∧ 1 = spY a b k ∧ True))) ∧ ((0 < b → False) → (k - a < a → ((-9223372036854775808) ≤ a - 1 ∧ a - 1 < 9223372036854775808) ∧ ((-9223372036854775808) ≤ a - 1 - (k
- a) ∧ a - 1 - (k - a) < 9223372036854775808) ∧ a - 1 - (k - a) = spX a b k ∧ 2 = spY a b k ∧ True) ∧ ((k - a < a → False) → (-1) = spX a b k ∧ 1 = spY a b k ∧ True)))) := by intros; kernel_rfl
theorem s226 (nm : List UInt8) (sh a b : Int) (o : D) (x y k : Int) (hk : inTab sh a b k) (h1 : sh = 1) : symFun (ctx num2 rfAnn) 4 226 [.agg [.str nm, .int .u8 sh, .int .i64 a, .int .i64 b, .dat 29 o, .int .i64 x, .int .i64 y], .int .i64 k] (.int .i64 (nextZ a k)) := by
 have hs := size_cases hk.out.1
 have hk := hk.out.2
 rw [vc226]; simp only [imp_false]
 unfold nextZ
 refine ⟨by omega, fun h => by rw [if_pos h], fun h => ⟨by omega, by rw [if_neg h]⟩⟩
theorem mul_le_of (b : Int) (x i : Nat) (hb : 1 ≤ b) (h : x ≤ i) : b * (x + 1) ≤ b * (i + 1) := Int.mul_le_mul_of_nonneg_left (by omega) (by omega)
theorem aisle_tmod {b k : Int} (hb : 1 ≤ b) (hk : 0 < k) (h : k.tmod b = 0) : ∃ i : Nat, k = b * (i + 1) := by
 have h1 := Int.mul_tdiv_add_tmod k b
 rw [h, Int.add_zero] at h1
 have h2 : 0 < k.tdiv b := by
  rcases Int.lt_or_le 0 (k.tdiv b) with h | h
  ·exact h
  ·have := Int.mul_le_mul_of_nonneg_left h (show 0 ≤ b by omega)
   omega
 refine ⟨(k.tdiv b - 1).toNat, ?_⟩
 rw [show (((k.tdiv b - 1).toNat : Int) + 1) = k.tdiv b by omega]; omega
theorem s227 (nm : List UInt8) (sh a b : Int) (o : D) (x y k : Int) (hk : inTab sh a b k) (h4 : sh = 4) : symFun (ctx num2 rfAnn) 4 227 [.agg [.str nm, .int .u8 sh, .int .i64 a, .int .i64 b, .dat 29 o, .int .i64 x, .int .i64 y], .int .i64 k] (.prop (aisleP b k)) := by
 have hs := size_cases hk.out.1
 have hk := hk.out.2
 rw [vc227]; simp only [imp_false]
 refine ⟨fun h => ⟨fun h' => (by cases h'), fun h' => absurd h h'.out.1⟩, fun hb => ⟨⟨0, ⟨Nat.zero_le _, fun i h => absurd h (Nat.not_lt_zero _)⟩, ⟨by simp, trivial⟩, trivial⟩, fun z hz => ?_⟩⟩
 obtain ⟨hz1, hz2⟩ := hz
 have hb1 : 1 ≤ b := by omega
 have hbz : (z : Int) + 1 ≤ b * (z + 1) := by
  have := Int.mul_le_mul_of_nonneg_right hb1 (show (0 : Int) ≤ z + 1 by omega)
  omega
 refine ⟨by unfold LIM; omega, fun hlt => ⟨fun he => ⟨fun _ => ⟨hb, by omega, ?_⟩, fun _ => trivial⟩, fun hne => ⟨by omega, z + 1, ⟨by omega, fun i hi => ?_⟩, by omega, ⟨?_, trivial⟩, trivial⟩⟩, fun hge => ⟨fun h' => (by cases h'), fun h' => ?_⟩⟩
 ·rw [← he]; exact Int.mul_tmod_right _ _
 ·rcases Nat.lt_succ_iff_lt_or_eq.1 hi with h | h
  ·exact hz2 i h
  ·subst h; exact hne
 ·rw [show (((z + 1 : Nat) : Int) + 1) = ((z : Int) + 1) + 1 by omega, Int.mul_add b ((z : Int) + 1) 1, Int.mul_one]
 ·exfalso
  obtain ⟨i, hi⟩ := aisle_tmod hb1 h'.out.2.1 h'.out.2.2
  rcases Nat.lt_or_ge i z with h | h
  ·exact hz2 i h hi.symm
  ·have := mul_le_of b z i hb1 h; omega
theorem s133 (nm : List UInt8) (sh a b : Int) (o : D) (x y k : Int) (ho : o.len ≤ 100) : symFun (ctx num2 rfAnn) 4 133 [.agg [.str nm, .int .u8 sh, .int .i64 a, .int .i64 b, .dat 29 o, .int .i64 x, .int .i64 y], .int .i64 k] (.prop (isIn o k)) := by
 rw [vc133]; simp only [imp_false]
 refine ⟨⟨0, ⟨Nat.zero_le _, ⟨fun j h => absurd h (Nat.not_lt_zero _)⟩⟩, ⟨rfl, trivial⟩, trivial⟩, fun z ⟨hz1, hz2⟩ => ⟨by unfold LIM; omega, fun hlt => ⟨by omega, hlt, fun he => ⟨fun _ => ⟨z, by omega, he⟩, fun _ => trivial⟩, fun hne => ⟨by omega, z + 1, ⟨by omega, ⟨fun j hj => ?_⟩⟩, by omega, ⟨rfl, trivial⟩, trivial⟩⟩, fun hge => ⟨fun h => (by cases h), fun h => ?_⟩⟩⟩
 ·rcases Nat.lt_succ_iff_lt_or_eq.1 hj with h | h
  ·exact hz2.out j h
  ·subst h; exact hne
 ·obtain ⟨j, hj, he⟩ := h.out
  exact absurd he (hz2.out j (by omega))
theorem sp_cases (a b k : Int) : (k < a ∧ spX a b k = k ∧ spY a b k = 0) ∨ (¬ k < a ∧ 0 < b ∧ k = a ∧ spX a b k = a ∧ spY a b k = 1) ∨ (¬ k < a ∧ 0 < b ∧ k ≠ a ∧ k - a - 1 < a ∧ spX a b k = a - 1 - (k - a - 1) ∧ spY a b k = 2) ∨
  (¬ k < a ∧ 0 < b ∧ k ≠ a ∧ ¬ k - a - 1 < a ∧ spX a b k = -1 ∧ spY a b k = 1) ∨ (¬ k < a ∧ ¬ 0 < b ∧ k - a < a ∧ spX a b k = a - 1 - (k - a) ∧ spY a b k = 2) ∨ (¬ k < a ∧ ¬ 0 < b ∧ ¬ k - a < a ∧ spX a b k = -1 ∧ spY a b k = 1) := by
 unfold spX spY
 by_cases h1 : k < a
 ·rw [if_pos h1, if_pos h1]; omega
 ·rw [if_neg h1, if_neg h1]
  by_cases h2 : 0 < b
  ·rw [if_pos h2, if_pos h2]
   by_cases h3 : k = a
   ·rw [if_pos h3, if_pos h3]; omega
   ·rw [if_neg h3, if_neg h3]
    by_cases h4 : k - a - 1 < a
    ·rw [if_pos h4, if_pos h4]; omega
    ·rw [if_neg h4, if_neg h4]; omega
  ·rw [if_neg h2, if_neg h2]
   by_cases h4 : k - a < a
   ·rw [if_pos h4, if_pos h4]; omega
   ·rw [if_neg h4, if_neg h4]; omega
theorem s166 (nm : List UInt8) (sh a b : Int) (o : D) (x y k : Int) (hk : inTab sh a b k) (h2 : sh = 2) : symFun (ctx num2 rfAnn) 4 166 [.agg [.str nm, .int .u8 sh, .int .i64 a, .int .i64 b, .dat 29 o, .int .i64 x, .int .i64 y], .int .i64 k] (.agg [.int .i64 (spX a b k), .int .i64 (spY a b k)]) := by
 have hs := size_cases hk.out.1
 have hk := hk.out.2
 rw [vc166]; simp only [imp_false]
 have hc := sp_cases a b k
 generalize spX a b k = X at *
 generalize spY a b k = Y at *
 (repeat' (first | (intro _) | (apply And.intro))) <;> first | trivial | omega
theorem v226 : ∀ d, 29 ≤ d → VC d 226 con226 := fun d hd =>
 valid_of_sym (C := ctx num2 rfAnn) (G := GC) (B := 25) (m := 4) rfl rfl rfl vn2 (fun us p r hc hp ht => by
  unfold con226 at hc; split at hc
  ·cases hc; exact s226 _ _ _ _ _ _ _ _ hp.1 hp.2
  ·cases hc) (fun _ _ => rfl) rfl rfl d hd
theorem v227 : ∀ d, 29 ≤ d → VC d 227 con227 := fun d hd =>
 valid_of_sym (C := ctx num2 rfAnn) (G := GC) (B := 25) (m := 4) rfl rfl rfl vn2 (fun us p r hc hp ht => by
  unfold con227 at hc; split at hc
  ·cases hc; exact s227 _ _ _ _ _ _ _ _ hp.1 hp.2
  ·cases hc) (fun _ _ => rfl) rfl rfl d hd
theorem v133 : ∀ d, 29 ≤ d → VC d 133 con133 := fun d hd =>
 valid_of_sym (C := ctx num2 rfAnn) (G := GC) (B := 25) (m := 4) rfl rfl rfl vn2 (fun us p r hc hp ht => by
  unfold con133 at hc; split at hc
  ·cases hc; exact s133 _ _ _ _ _ _ _ _ hp
  ·cases hc) (fun _ _ => rfl) rfl rfl d hd
theorem v166 : ∀ d, 29 ≤ d → VC d 166 con166 := fun d hd =>
 valid_of_sym (C := ctx num2 rfAnn) (G := GC) (B := 25) (m := 4) rfl rfl rfl vn2 (fun us p r hc hp ht => by
  unfold con166 at hc; split at hc
  ·cases hc; exact s166 _ _ _ _ _ _ _ _ hp.1 hp.2
  ·cases hc) (fun _ _ => rfl) rfl rfl d hd
theorem vf1 : ∀ d, 29 ≤ d → ∀ g c, rf1 g = some c → VC d g c := fun d hd g c h => by
 unfold rf1 at h
 split at h
 ·cases h; exact v226 d hd
 ·cases h; exact v227 d hd
 ·cases h; exact v166 d hd
 ·exact vn2 d (by omega) _ c h
theorem vc167 : ∀ (nm : List UInt8) (sh a b : Int) (o : D) (x y X Y : Int), symFun (ctx rf1 rfAnn) 4 (167 : FuncId) [V.agg [V.str nm, V.int IntKind.u8 sh, V.int IntKind.i64 a, V.int IntKind.i64 b, V.dat (29 : TypeId) o,
V.int IntKind.i64 x, V.int IntKind.i64 y], V.agg [V.int IntKind.i64 X, V.int IntKind.i64 Y]] (V.int IntKind.i64 (seatZ sh a b X Y)) = ((∃ (x : Nat), (x ≤ (sizeZ sh a b).toNat ∧ ∀ (j : Nat), j < x → atSpot a b X Y j →
False) ∧ (0 = (x : Int) ∧ True) ∧ True) ∧ ∀ (x : Nat), (x ≤ (sizeZ sh a b).toNat ∧ ∀ (j : Nat), j < x → atSpot a b X Y j → False) → (sizeZ sh a b).toNat - x < LIM ∧ True ∧ ((x : Int) < sizeZ sh a b → (inTab sh a b (x :
Int) ∧ sh = 2) ∧ (spX a b (x : Int) = X ∧ spY a b (x : Int) = Y → (x : Int) = seatZ sh a b X Y) ∧ ((spX a b (x : Int) = X ∧ spY a b (x : Int) = Y → False) → ((-9223372036854775808) ≤ (x : Int) + 1 ∧ (x : Int) + 1 <
9223372036854775808) ∧ ∃ (y : Nat), (y ≤ (sizeZ sh a b).toNat ∧ ∀ (j : Nat), j < y → atSpot a b X Y j → False) ∧ (sizeZ sh a b).toNat - y < (sizeZ sh a b).toNat - x ∧ ((x : Int) + 1 = (y : Int) ∧ True) ∧ True)) ∧ (((x :
Int) < sizeZ sh a b → False) → (-1) = seatZ sh a b X Y)) := by intros; kernel_rfl
theorem vc163 : ∀ (nm : List UInt8) (sh a b : Int) (o : D) (x y : Int), symFun (ctx rf1b rfAnn) 4 (163 : FuncId) [V.agg [V.str nm, V.int IntKind.u8 sh, V.int IntKind.i64 a, V.int IntKind.i64 b, V.dat (29 : TypeId) o,
V.int IntKind.i64 x, V.int IntKind.i64 y]] (V.int IntKind.i64 (honZ sh a b)) = ((sh = 1 → 0 = honZ sh a b) ∧ ((sh = 1 → False) → (sh = 2 → (0 < b → (sh = 2 ∧ (sizeZ sh a b = 0 → False) ∧ (-100) ≤ a ∧ a ≤ 100 ∧ (-100 :
Int) ≤ 1 ∧ (1 : Int) ≤ 100) ∧ seatZ sh a b a 1 = honZ sh a b) ∧ ((0 < b → False) → ((2 : Int) = 0 → False) ∧ ((-9223372036854775808) ≤ a.tdiv 2 ∧ a.tdiv 2 < 9223372036854775808) ∧ a.tdiv 2 = honZ sh a b)) ∧ ((sh = 2 →
False) → (sh = 3 → ((2 : Int) = 0 → False) ∧ ((-9223372036854775808) ≤ a.tdiv 2 ∧ a.tdiv 2 < 9223372036854775808) ∧ ((-9223372036854775808) ≤ b + a.tdiv 2 ∧ b + a.tdiv 2 < 9223372036854775808) ∧ b + a.tdiv 2 = honZ sh a
b) ∧ ((sh = 3 → False) → ((2 : Int) = 0 → False) ∧ ((-9223372036854775808) ≤ a.tdiv 2 ∧ a.tdiv 2 < 9223372036854775808) ∧ a.tdiv 2 = honZ sh a b)))) := by intros; kernel_rfl
theorem vc164s : ∀ (nm : List UInt8) (sh a b : Int) (o : D) (x y k m : Int), symFun (ctx rf1n rfAnn) 4 (164 : FuncId) [V.agg [V.str nm, V.int IntKind.u8 sh, V.int IntKind.i64 a, V.int IntKind.i64 b, V.dat (29 : TypeId)
o, V.int IntKind.i64 x, V.int IntKind.i64 y], V.int IntKind.i64 k, V.int IntKind.i64 m] (V.prop (besideP sh a b k m)) = ((k = m → (false = true ↔ besideP sh a b k m)) ∧ ((k = m → False) → (sh = 1 → (inTab sh a b k ∧ sh =
1) ∧ ((nextZ a k = m → False) → (inTab sh a b m ∧ sh = 1) ∧ (nextZ a m = k ↔ besideP sh a b k m)) ∧ (nextZ a k = m → (true = true ↔ besideP sh a b k m))) ∧ ((sh = 1 → False) → (sh = 2 → (inTab sh a b k ∧ sh = 2) ∧ (inTab
sh a b m ∧ sh = 2) ∧ ((-9223372036854775808) ≤ spX a b k - spX a b m ∧ spX a b k - spX a b m < 9223372036854775808) ∧ ((spX a b k - spX a b m = 1 → False) → ((-9223372036854775808) ≤ spX a b m - spX a b k ∧ spX a b m -
spX a b k < 9223372036854775808) ∧ ((spX a b m - spX a b k = 1 → False) → (false = true ↔ besideP sh a b k m)) ∧ (((spX a b m - spX a b k = 1 → False) → False) → (spY a b k = spY a b m → (((spY a b k = 1 → False) →
False) → ((spY a b k = spY a b m → False) → ((spY a b k = 1 → False) → (spY a b m = 1 ↔ besideP sh a b k m)) ∧ (spY a b k = 1 → (true = true ↔ besideP sh a b k m))) ∧ (((spY a b k = spY a b m → False) → False) → (false =
true ↔ besideP sh a b k m))) ∧ ((spY a b k = 1 → False) → (true = true ↔ besideP sh a b k m))) ∧ ((spY a b k = spY a b m → False) → ((spY a b k = spY a b m → False) → ((spY a b k = 1 → False) → (spY a b m = 1 ↔ besideP
sh a b k m)) ∧ (spY a b k = 1 → (true = true ↔ besideP sh a b k m))) ∧ (((spY a b k = spY a b m → False) → False) → (false = true ↔ besideP sh a b k m))))) ∧ (((spX a b k - spX a b m = 1 → False) → False) → (spY a b k =
spY a b m → (((spY a b k = 1 → False) → False) → ((spY a b k = spY a b m → False) → ((spY a b k = 1 → False) → (spY a b m = 1 ↔ besideP sh a b k m)) ∧ (spY a b k = 1 → (true = true ↔ besideP sh a b k m))) ∧ (((spY a b k
= spY a b m → False) → False) → (false = true ↔ besideP sh a b k m))) ∧ ((spY a b k = 1 → False) → (true = true ↔ besideP sh a b k m))) ∧ ((spY a b k = spY a b m → False) → ((spY a b k = spY a b m → False) → ((spY a b k
= 1 → False) → (spY a b m = 1 ↔ besideP sh a b k m)) ∧ (spY a b k = 1 → (true = true ↔ besideP sh a b k m))) ∧ (((spY a b k = spY a b m → False) → False) → (false = true ↔ besideP sh a b k m))))) ∧ ((sh = 2 → False) →
(sh = 3 → ((-9223372036854775808) ≤ k + 1 ∧ k + 1 < 9223372036854775808) ∧ ((k + 1 = m → False) → ((-9223372036854775808) ≤ m + 1 ∧ m + 1 < 9223372036854775808) ∧ (m + 1 = k ↔ besideP sh a b k m)) ∧ (k + 1 = m → (true =
true ↔ besideP sh a b k m))) ∧ ((sh = 3 → False) → (m < k → False ∧ (False ↔ besideP sh a b k m)) ∧ ((m < k → False) → ((-9223372036854775808) ≤ k + 1 ∧ k + 1 < 9223372036854775808) ∧ (k + 1 = m → (inTab sh a b m ∧ sh =
4) ∧ (aisleP b m → False ↔ besideP sh a b k m)) ∧ ((k + 1 = m → False) → (false = true ↔ besideP sh a b k m)))))))) := by intros; kernel_rfl
theorem vc164 : ∀ (nm : List UInt8) (sh a b : Int) (o : D) (x y k m : Int), symFun (ctx rf1s rfAnn) 4 (164 : FuncId) [V.agg [V.str nm, V.int IntKind.u8 sh, V.int IntKind.i64 a, V.int IntKind.i64 b, V.dat (29 : TypeId) o,
V.int IntKind.i64 x, V.int IntKind.i64 y], V.int IntKind.i64 k, V.int IntKind.i64 m] (V.prop (besideP sh a b k m)) = ((k = m → (false = true ↔ besideP sh a b k m)) ∧ ((k = m → False) → (sh = 1 → (inTab sh a b k ∧ sh = 1)
∧ ((nextZ a k = m → False) → (inTab sh a b m ∧ sh = 1) ∧ (nextZ a m = k ↔ besideP sh a b k m)) ∧ (nextZ a k = m → (true = true ↔ besideP sh a b k m))) ∧ ((sh = 1 → False) → (sh = 2 → (inTab sh a b k ∧ sh = 2) ∧ (inTab sh
a b m ∧ sh = 2) ∧ ((-9223372036854775808) ≤ spX a b k - spX a b m ∧ spX a b k - spX a b m < 9223372036854775808) ∧ ((spX a b k - spX a b m = 1 → False) → ((-9223372036854775808) ≤ spX a b m - spX a b k ∧ spX a b m - spX
a b k < 9223372036854775808) ∧ ((spX a b m - spX a b k = 1 → False) → (false = true ↔ besideP sh a b k m)) ∧ (((spX a b m - spX a b k = 1 → False) → False) → (spY a b k = spY a b m → (((spY a b k = 1 → False) → False) →
((spY a b k = spY a b m → False) → ((spY a b k = 1 → False) → (spY a b m = 1 ↔ besideP sh a b k m)) ∧ (spY a b k = 1 → (true = true ↔ besideP sh a b k m))) ∧ (((spY a b k = spY a b m → False) → False) → (false = true ↔
besideP sh a b k m))) ∧ ((spY a b k = 1 → False) → (true = true ↔ besideP sh a b k m))) ∧ ((spY a b k = spY a b m → False) → ((spY a b k = spY a b m → False) → ((spY a b k = 1 → False) → (spY a b m = 1 ↔ besideP sh a b k
m)) ∧ (spY a b k = 1 → (true = true ↔ besideP sh a b k m))) ∧ (((spY a b k = spY a b m → False) → False) → (false = true ↔ besideP sh a b k m))))) ∧ (((spX a b k - spX a b m = 1 → False) → False) → (spY a b k = spY a b m
→ (((spY a b k = 1 → False) → False) → ((spY a b k = spY a b m → False) → ((spY a b k = 1 → False) → (spY a b m = 1 ↔ besideP sh a b k m)) ∧ (spY a b k = 1 → (true = true ↔ besideP sh a b k m))) ∧ (((spY a b k = spY a b
m → False) → False) → (false = true ↔ besideP sh a b k m))) ∧ ((spY a b k = 1 → False) → (true = true ↔ besideP sh a b k m))) ∧ ((spY a b k = spY a b m → False) → ((spY a b k = spY a b m → False) → ((spY a b k = 1 →
False) → (spY a b m = 1 ↔ besideP sh a b k m)) ∧ (spY a b k = 1 → (true = true ↔ besideP sh a b k m))) ∧ (((spY a b k = spY a b m → False) → False) → (false = true ↔ besideP sh a b k m))))) ∧ ((sh = 2 → False) → (sh = 3
→ ((-9223372036854775808) ≤ k + 1 ∧ k + 1 < 9223372036854775808) ∧ ((k + 1 = m → False) → ((-9223372036854775808) ≤ m + 1 ∧ m + 1 < 9223372036854775808) ∧ (m + 1 = k ↔ besideP sh a b k m)) ∧ (k + 1 = m → (true = true ↔
besideP sh a b k m))) ∧ ((sh = 3 → False) → (m < k → (inTab sh a b m ∧ inTab sh a b k ∧ m ≤ k) ∧ (besideP sh a b m k ↔ besideP sh a b k m)) ∧ ((m < k → False) → ((-9223372036854775808) ≤ k + 1 ∧ k + 1 <
9223372036854775808) ∧ (k + 1 = m → (inTab sh a b m ∧ sh = 4) ∧ (aisleP b m → False ↔ besideP sh a b k m)) ∧ ((k + 1 = m → False) → (false = true ↔ besideP sh a b k m)))))))) := by intros; kernel_rfl
theorem firstW_of {n : Nat} {P : Nat → Prop} {k : Nat} (h1 : k < n) (h2 : P k) (h3 : ∀ j, j < k → ¬ P j) : firstW n P = k := by
 have h : ∃ k, k < n ∧ P k ∧ ∀ j, j < k → ¬ P j := ⟨k, h1, h2, h3⟩
 unfold firstW
 rw [dif_pos h]
 obtain ⟨g1, g2, g3⟩ := Classical.choose_spec h
 rcases Nat.lt_trichotomy (Classical.choose h) k with e | e | e
 ·exact absurd g2 (h3 _ e)
 ·rw [e]
 ·exact absurd h2 (g3 _ e)
theorem firstW_no {n : Nat} {P : Nat → Prop} (h : ∀ k, k < n → ¬ P k) : firstW n P = -1 := by
 unfold firstW
 rw [dif_neg]
 rintro ⟨k, h1, h2, _⟩
 exact h k h1 h2
theorem s167 (nm : List UInt8) (sh a b : Int) (o : D) (x y X Y : Int) (h2 : sh = 2) (hz : sizeZ sh a b ≠ 0) : symFun (ctx rf1 rfAnn) 4 167 [.agg [.str nm, .int .u8 sh, .int .i64 a, .int .i64 b, .dat 29 o, .int .i64 x, .int .i64 y], .agg [.int .i64 X, .int .i64 Y]] (.int .i64 (seatZ sh a b X Y)) := by
 have hs := size_cases hz
 rw [vc167]; simp only [imp_false]
 refine ⟨⟨0, ⟨Nat.zero_le _, fun j h => absurd h (Nat.not_lt_zero _)⟩, ⟨rfl, trivial⟩, trivial⟩, fun z ⟨hz1, hz2⟩ => ⟨by unfold LIM; omega, trivial, fun hlt => ⟨⟨⟨hz, by omega, hlt⟩, h2⟩, fun he => ?_, fun hne => ⟨by omega, z + 1, ⟨by omega, fun j hj => ?_⟩, by omega, ⟨rfl, trivial⟩, trivial⟩⟩, fun hge => ?_⟩⟩
 ·exact (firstW_of (by omega) ⟨he⟩ hz2).symm
 ·rcases Nat.lt_succ_iff_lt_or_eq.1 hj with h | h
  ·exact hz2 j h
  ·subst h; exact fun h => hne h.out
 ·exact (firstW_no (fun k hk => hz2 k (by omega))).symm
theorem seat_head {a b : Int} (ha : 1 ≤ a ∧ a ≤ 11) (hb : 1 ≤ b ∧ b ≤ 2) : seatZ 2 a b a 1 = a := by
 have hz : sizeZ 2 a b = 2 * a + b := by unfold sizeZ; rw [if_neg (by omega), if_pos (by omega)]
 unfold seatZ
 rw [show firstW (sizeZ 2 a b).toNat (atSpot a b a 1) = ((a.toNat : Nat) : Int) from firstW_of (by omega) ⟨by have := sp_cases a b ((a.toNat : Nat) : Int); omega⟩ (fun j hj h => by have := h.out; have := sp_cases a b (j : Int); omega)]
 omega
theorem s163 (nm : List UInt8) (sh a b : Int) (o : D) (x y : Int) (hz : sizeZ sh a b ≠ 0) : symFun (ctx rf1b rfAnn) 4 163 [.agg [.str nm, .int .u8 sh, .int .i64 a, .int .i64 b, .dat 29 o, .int .i64 x, .int .i64 y]] (.int .i64 (honZ sh a b)) := by
 have hs := size_cases hz
 rw [vc163]; simp only [imp_false]
 have hd : a.tdiv 2 = a / 2 := Int.tdiv_eq_ediv_of_nonneg (by omega)
 have hh : (sh = 2 ∧ 0 < b → honZ sh a b = a) ∧ (¬ (sh = 2 ∧ 0 < b) → honZ sh a b = if sh = 1 then 0 else if sh = 3 then b + a / 2 else a / 2) := by
  unfold honZ
  rw [hd]
  rcases hs with hs | hs | hs | hs
  ·simp [hs.1]
  ·have h1 : ¬ sh = 1 := by omega
   have h3 : ¬ sh = 3 := by omega
   rw [if_neg h1, if_pos hs.1, if_neg h1, if_neg h3]
   by_cases hb : b = 0
   ·rw [if_pos hb]; exact ⟨fun h => by omega, fun _ => rfl⟩
   ·rw [if_neg hb]; exact ⟨fun _ => rfl, fun h => absurd ⟨hs.1, by omega⟩ h⟩
  ·have h1 : ¬ sh = 1 := by omega
   have h2 : ¬ sh = 2 := by omega
   refine ⟨fun h => absurd h.1 h2, fun _ => ?_⟩; simp only [if_neg h1, if_neg h2, if_pos hs.1]
  ·have h1 : ¬ sh = 1 := by omega
   have h2 : ¬ sh = 2 := by omega
   have h3 : ¬ sh = 3 := by omega
   refine ⟨fun h => absurd h.1 h2, fun _ => ?_⟩; simp only [if_neg h1, if_neg h2, if_neg h3]
 rw [hd]
 refine ⟨fun h1 => ?_, fun h1 => ⟨fun h2 => ⟨fun hb => ⟨⟨h2, hz, by omega⟩, ?_⟩, fun hb => ⟨by omega, by omega, ?_⟩⟩, fun h2 => ⟨fun h3 => ⟨by omega, by omega, by omega, ?_⟩, fun h3 => ⟨by omega, by omega, ?_⟩⟩⟩⟩
 ·rw [hh.2 (by omega), if_pos h1]
 ·rw [hh.1 ⟨h2, hb⟩]; subst h2; exact seat_head (by omega) (by omega)
 ·rw [hh.2 (by omega), if_neg h1, if_neg (by omega)]
 ·rw [hh.2 (by omega), if_neg h1, if_pos h3]
 ·rw [hh.2 (by omega), if_neg h1, if_neg h3]
theorem nx_cases (a k : Int) : (k + 1 = a ∧ nextZ a k = 0) ∨ (k + 1 ≠ a ∧ nextZ a k = k + 1) := by
 unfold nextZ; split <;> omega
theorem besideP_iff' (sh a b k m : Int) : besideP sh a b k m ↔ (k ≠ m ∧ ((sh = 1 ∧ (hi k m = lo k m + 1 ∨ (lo k m = 0 ∧ hi k m = a - 1))) ∨ (sh = 2 ∧ ((hi k m = lo k m + 1 ∧ ¬ (b = 0 ∧ hi k m = a)) ∨ (b = 2 ∧ lo k m = 0 ∧ hi k m = 2 * a + 1))) ∨
  (sh = 3 ∧ hi k m = lo k m + 1) ∨ (sh = 4 ∧ hi k m = lo k m + 1 ∧ (b = 0 ∨ (hi k m).tmod b ≠ 0)))) := ⟨fun h => h.out, fun h => ⟨h⟩⟩
theorem beside_1 {a k m : Int} {b : Int} (hk : 0 ≤ k ∧ k < a) (hm : 0 ≤ m ∧ m < a) (hne : k ≠ m) : besideP 1 a b k m ↔ (nextZ a k = m ∨ nextZ a m = k) := by
 rw [besideP_iff']; unfold lo hi
 have := nx_cases a k
 have := nx_cases a m
 generalize nextZ a k = p at *
 generalize nextZ a m = q at *
 generalize (max k m).tmod b = T
 constructor
 ·intro h; omega
 ·intro h; omega
theorem beside_2 {a b k m : Int} (ha : 1 ≤ a ∧ a ≤ 11) (hb : 0 ≤ b ∧ b ≤ 2) (hk : 0 ≤ k ∧ k < 2 * a + b) (hm : 0 ≤ m ∧ m < 2 * a + b) (hne : k ≠ m) : besideP 2 a b k m ↔ ((spX a b k - spX a b m = 1 ∨ spX a b m - spX a b k = 1) ∧ ((spY a b k = spY a b m ∧ spY a b k ≠ 1) ∨ (spY a b k ≠ spY a b m ∧ (spY a b k = 1 ∨ spY a b m = 1)))) := by
 rw [besideP_iff']; unfold lo hi
 have h1 := sp_cases a b k
 have h2 := sp_cases a b m
 generalize spX a b k = X1 at *
 generalize spX a b m = X2 at *
 generalize spY a b k = Y1 at *
 generalize spY a b m = Y2 at *
 generalize (max k m).tmod b = T
 rcases h1 with h1 | h1 | h1 | h1 | h1 | h1 <;> rcases h2 with h2 | h2 | h2 | h2 | h2 | h2 <;> constructor <;> intro h <;> omega
theorem beside_3 {a b k m : Int} : besideP 3 a b k m ↔ (k + 1 = m ∨ m + 1 = k) := by
 rw [besideP_iff']; unfold lo hi
 generalize (max k m).tmod b = T
 constructor <;> intro h <;> omega
theorem beside_4 {a b k m : Int} (hk : 0 ≤ k) (hkm : k ≤ m) : besideP 4 a b k m ↔ (k + 1 = m ∧ ¬ aisleP b m) := by
 rw [besideP_iff']; unfold lo hi
 rw [show max k m = m by omega]
 have ha : aisleP b m ↔ (b ≠ 0 ∧ 0 < m ∧ m.tmod b = 0) := ⟨fun h => h.out, fun h => ⟨h⟩⟩
 rw [ha]
 generalize m.tmod b = T
 constructor <;> intro h <;> omega
theorem beside_sym {sh a b k m : Int} : besideP sh a b k m ↔ besideP sh a b m k := by
 rw [besideP_iff', besideP_iff']; unfold lo hi
 rw [show max k m = max m k by omega, show min k m = min m k by omega]
 constructor <;> rintro ⟨h1, h2⟩ <;> exact ⟨fun h => h1 h.symm, h2⟩
theorem s164s (nm : List UInt8) (sh a b : Int) (o : D) (x y k m : Int) (hk : inTab sh a b k) (hm : inTab sh a b m) (hkm : k ≤ m) : symFun (ctx rf1n rfAnn) 4 164 [.agg [.str nm, .int .u8 sh, .int .i64 a, .int .i64 b, .dat 29 o, .int .i64 x, .int .i64 y], .int .i64 k, .int .i64 m] (.prop (besideP sh a b k m)) := by
 have hs := size_cases hk.out.1
 have hk' := hk.out.2
 have hm' := hm.out.2
 rw [vc164s]; simp only [imp_false, Classical.not_not]
 have hself : k = m → ¬ besideP sh a b k m := fun h h' => h'.out.1 h
 by_cases hne : k = m
 ·exact ⟨fun _ => by simp [hself hne], fun h => absurd hne h⟩
 ·refine ⟨fun h => absurd h hne, fun _ => ⟨fun h1 => ?_, fun h1 => ⟨fun h2 => ?_, fun h2 => ⟨fun h3 => ?_, fun h3 => ⟨fun h4 => by omega, fun h4 => ⟨by omega, fun h5 => ⟨⟨hm, by omega⟩, ?_⟩, fun h5 => ?_⟩⟩⟩⟩⟩⟩
  ·subst h1
   rw [beside_1 (by omega) (by omega) hne]
   exact ⟨⟨hk, rfl⟩, fun h => ⟨⟨hm, rfl⟩, by simp [h]⟩, fun h => by simp [h]⟩
  ·subst h2
   rw [beside_2 (by omega) (by omega) (by omega) (by omega) hne]
   have h1 := sp_cases a b k
   have h2 := sp_cases a b m
   generalize spX a b k = X1 at *
   generalize spX a b m = X2 at *
   generalize spY a b k = Y1 at *
   generalize spY a b m = Y2 at *
   refine ⟨⟨hk, rfl⟩, ⟨hm, rfl⟩, by omega, ?_⟩
   have hr : -1000 ≤ X1 ∧ X1 ≤ 1000 ∧ -1000 ≤ X2 ∧ X2 ≤ 1000 := by omega
   clear h1 h2
   by_cases e1 : X1 - X2 = 1 <;> by_cases e2 : X2 - X1 = 1 <;> by_cases e3 : Y1 = Y2 <;> by_cases e4 : Y1 = 1 <;> by_cases e5 : Y2 = 1 <;> simp [e1, e2, e3, e4, e5] <;> omega
  ·subst h3
   rw [beside_3]
   exact ⟨by omega, fun h => ⟨by omega, by simp [h]⟩, fun h => by simp [h]⟩
  ·have h6 : sh = 4 := by omega
   subst h6
   rw [beside_4 hk'.1 hkm]; simp [h5]
  ·have h6 : sh = 4 := by omega
   subst h6
   rw [beside_4 hk'.1 hkm]; simp [h5]
theorem s164 (nm : List UInt8) (sh a b : Int) (o : D) (x y k m : Int) (hk : inTab sh a b k) (hm : inTab sh a b m) : symFun (ctx rf1s rfAnn) 4 164 [.agg [.str nm, .int .u8 sh, .int .i64 a, .int .i64 b, .dat 29 o, .int .i64 x, .int .i64 y], .int .i64 k, .int .i64 m] (.prop (besideP sh a b k m)) := by
 have hs := size_cases hk.out.1
 have hk' := hk.out.2
 have hm' := hm.out.2
 rw [vc164]; simp only [imp_false, Classical.not_not]
 have hself : k = m → ¬ besideP sh a b k m := fun h h' => h'.out.1 h
 by_cases hne : k = m
 ·exact ⟨fun _ => by simp [hself hne], fun h => absurd hne h⟩
 ·refine ⟨fun h => absurd h hne, fun _ => ⟨fun h1 => ?_, fun h1 => ⟨fun h2 => ?_, fun h2 => ⟨fun h3 => ?_, fun h3 => ⟨fun h4 => ⟨⟨hm, hk, by omega⟩, beside_sym⟩, fun h4 => ⟨by omega, fun h5 => ⟨⟨hm, by omega⟩, ?_⟩, fun h5 => ?_⟩⟩⟩⟩⟩⟩
  ·subst h1
   rw [beside_1 (by omega) (by omega) hne]
   exact ⟨⟨hk, rfl⟩, fun h => ⟨⟨hm, rfl⟩, by simp [h]⟩, fun h => by simp [h]⟩
  ·subst h2
   rw [beside_2 (by omega) (by omega) (by omega) (by omega) hne]
   have h1 := sp_cases a b k
   have h2 := sp_cases a b m
   generalize spX a b k = X1 at *
   generalize spX a b m = X2 at *
   generalize spY a b k = Y1 at *
   generalize spY a b m = Y2 at *
   refine ⟨⟨hk, rfl⟩, ⟨hm, rfl⟩, by omega, ?_⟩
   have hr : -1000 ≤ X1 ∧ X1 ≤ 1000 ∧ -1000 ≤ X2 ∧ X2 ≤ 1000 := by omega
   clear h1 h2
   by_cases e1 : X1 - X2 = 1 <;> by_cases e2 : X2 - X1 = 1 <;> by_cases e3 : Y1 = Y2 <;> by_cases e4 : Y1 = 1 <;> by_cases e5 : Y2 = 1 <;> simp [e1, e2, e3, e4, e5] <;> omega
  ·subst h3
   rw [beside_3]
   exact ⟨by omega, fun h => ⟨by omega, by simp [h]⟩, fun h => by simp [h]⟩
  ·have h6 : sh = 4 := by omega
   subst h6
   rw [beside_4 hk'.1 (by omega)]; simp [h5]
  ·have h6 : sh = 4 := by omega
   subst h6
   rw [beside_4 hk'.1 (by omega)]; simp [h5]
end Go.Ev

end
