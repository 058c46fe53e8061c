/-
  Part of the engine that the claim is proved with: it states nothing of the document by itself.
-/
import Derived.Test.YtdcamlgidccamaaGreatDoorCoreMetA
import Derived.Test.YtdcamlgidccamaaGreatDoorCoreLev
open Go.Proofs
namespace Go.Ev
set_option maxRecDepth 100000
set_option maxHeartbeats 4000000
theorem vc36 : ∀ (l : D) (t : Int), symFun (ctx met1 metAnn) 4 (36 : FuncId) [V.dat (22 : TypeId) l, V.int IntKind.i64 t] (V.dat (48 : TypeId) (blocksD l t)) = ((0 ≤ t → (t < (l.len : Int) → smallD l ∧ ((okHall l →
 False) → D.nil = blocksD l t) ∧ (((okHall l → False) → False) → (0 ≤ t ∧ t ≤ (l.len : Int) ∧ seatedD l) ∧ 0 ≤ t ∧ t < (l.len : Int) ∧ (sizeT' (el l t.toNat) = 0 → False) ∧ 0 ≤ sizeT' (el l t.toNat) ∧ sizeT' (el l
 t.toNat) ≤ sizeT' (el l t.toNat) ∧ sizeT' (el l t.toNat) ≤ 16777216 ∧ (ctx met1 metAnn).P.types[4].bytes * (sizeT' (el l t.toNat)).toNat ≤ 281474976710656 ∧ ((∃ (x : Nat), (x ≤ (sizeT' (el l t.toNat)).toNat ∧ blkX (el l
 t.toNat) (sumZ l t.toNat) x = []) ∧ (0 = (x : Int) ∧ True ∧ True) ∧ List.replicate (sizeT' (el l t.toNat)).toNat (D.bool (false = true)) = placedX (el l t.toNat) x 0 ∧ True) ∨ ∃ (x : Nat), (x ≤ (sizeT' (el l
 t.toNat)).toNat ∧ (blkX (el l t.toNat) (sumZ l t.toNat) x = [] → False)) ∧ (0 = (x : Int) ∧ False ∧ True) ∧ List.replicate (sizeT' (el l t.toNat)).toNat (D.bool (false = true)) = placedX (el l t.toNat) x 0 ∧ False ∧
 True) ∧ (∀ (x : Nat), x ≤ (sizeT' (el l t.toNat)).toNat ∧ blkX (el l t.toNat) (sumZ l t.toNat) x = [] → (sizeT' (el l t.toNat)).toNat - x < LIM ∧ ((x : Int) < (↑(sizeT' (el l t.toNat)).toNat : Int) → 0 ≤ (x : Int) ∧ (x :
 Int) < (↑(sizeT' (el l t.toNat)).toNat : Int) ∧ x < (placedX (el l t.toNat) x 0).length ∧ ((nthD (placedX (el l t.toNat) x 0) x).asProp → ((-9223372036854775808) ≤ (x : Int) + 1 ∧ (x : Int) + 1 < 9223372036854775808) ∧
 ((∃ (y : Nat), (y ≤ (sizeT' (el l t.toNat)).toNat ∧ blkX (el l t.toNat) (sumZ l t.toNat) y = []) ∧ (sizeT' (el l t.toNat)).toNat - y < (sizeT' (el l t.toNat)).toNat - x ∧ ((x : Int) + 1 = (y : Int) ∧ True ∧ True) ∧
 placedX (el l t.toNat) x 0 = placedX (el l t.toNat) y 0 ∧ True) ∨ ∃ (y : Nat), (y ≤ (sizeT' (el l t.toNat)).toNat ∧ (blkX (el l t.toNat) (sumZ l t.toNat) y = [] → False)) ∧ (sizeT' (el l t.toNat)).toNat - y < (sizeT' (el
 l t.toNat)).toNat - x ∧ ((x : Int) + 1 = (y : Int) ∧ False ∧ True) ∧ placedX (el l t.toNat) x 0 = placedX (el l t.toNat) y 0 ∧ False ∧ True)) ∧ (((nthD (placedX (el l t.toNat) x 0) x).asProp → False) → 0 ≤ t ∧ t < (l.len
 : Int) ∧ inTab (tShape (el l t.toNat)) (tA (el l t.toNat)) (tB (el l t.toNat)) (x : Int) ∧ ((∃ (x_1 : Nat), (x_1 ≤ (distRow (sizeT' (el l t.toNat)).toNat (tShape (el l t.toNat)) (tA (el l t.toNat)) (tB (el l t.toNat)) (x
 : Int)).length ∧ blkM (el l t.toNat) (sumZ l t.toNat) x x_1 = []) ∧ (0 = (x_1 : Int) ∧ True ∧ True) ∧ placedX (el l t.toNat) x 0 = placedX (el l t.toNat) x x_1 ∧ True) ∨ ∃ (x_1 : Nat), (x_1 ≤ (distRow (sizeT' (el l
 t.toNat)).toNat (tShape (el l t.toNat)) (tA (el l t.toNat)) (tB (el l t.toNat)) (x : Int)).length ∧ (blkM (el l t.toNat) (sumZ l t.toNat) x x_1 = [] → False)) ∧ (0 = (x_1 : Int) ∧ False ∧ True) ∧ placedX (el l t.toNat) x
 0 = placedX (el l t.toNat) x x_1 ∧ False ∧ True) ∧ (∀ (x_1 : Nat), x_1 ≤ (distRow (sizeT' (el l t.toNat)).toNat (tShape (el l t.toNat)) (tA (el l t.toNat)) (tB (el l t.toNat)) (x : Int)).length ∧ blkM (el l t.toNat)
 (sumZ l t.toNat) x x_1 = [] → (distRow (sizeT' (el l t.toNat)).toNat (tShape (el l t.toNat)) (tA (el l t.toNat)) (tB (el l t.toNat)) (x : Int)).length - x_1 < LIM ∧ ((x_1 : Int) < (↑(distRow (sizeT' (el l t.toNat)).toNat
 (tShape (el l t.toNat)) (tA (el l t.toNat)) (tB (el l t.toNat)) (x : Int)).length : Int) → 0 ≤ (x_1 : Int) ∧ (x_1 : Int) < (↑(distRow (sizeT' (el l t.toNat)).toNat (tShape (el l t.toNat)) (tA (el l t.toNat)) (tB (el l
 t.toNat)) (x : Int)).length : Int) ∧ (0 ≤ (nthD (distRow (sizeT' (el l t.toNat)).toNat (tShape (el l t.toNat)) (tA (el l t.toNat)) (tB (el l t.toNat)) (x : Int)) x_1).asInt → 0 ≤ (x_1 : Int) ∧ (x_1 : Int) < (↑(sizeT' (el
 l t.toNat)).toNat : Int) ∧ x_1 < (placedX (el l t.toNat) x x_1).length ∧ ((-9223372036854775808) ≤ sumZ l t.toNat + (x_1 : Int) ∧ sumZ l t.toNat + (x_1 : Int) < 9223372036854775808) ∧ 0 + 1 ≤ [D.int (sumZ l t.toNat +
 (x_1 : Int))].length ∧ (1 : Nat) ≤ 16777216 ∧ ((-9223372036854775808) ≤ (x_1 : Int) + 1 ∧ (x_1 : Int) + 1 < 9223372036854775808) ∧ ((∃ (y : Nat), (y ≤ (distRow (sizeT' (el l t.toNat)).toNat (tShape (el l t.toNat)) (tA
 (el l t.toNat)) (tB (el l t.toNat)) (x : Int)).length ∧ blkM (el l t.toNat) (sumZ l t.toNat) x y = []) ∧ (distRow (sizeT' (el l t.toNat)).toNat (tShape (el l t.toNat)) (tA (el l t.toNat)) (tB (el l t.toNat)) (x :
 Int)).length - y < (distRow (sizeT' (el l t.toNat)).toNat (tShape (el l t.toNat)) (tA (el l t.toNat)) (tB (el l t.toNat)) (x : Int)).length - x_1 ∧ ((x_1 : Int) + 1 = (y : Int) ∧ False ∧ True) ∧ (placedX (el l t.toNat) x
 x_1).set x_1 (D.bool (true = true)) = placedX (el l t.toNat) x y ∧ True) ∨ ∃ (y : Nat), (y ≤ (distRow (sizeT' (el l t.toNat)).toNat (tShape (el l t.toNat)) (tA (el l t.toNat)) (tB (el l t.toNat)) (x : Int)).length ∧
 (blkM (el l t.toNat) (sumZ l t.toNat) x y = [] → False)) ∧ (distRow (sizeT' (el l t.toNat)).toNat (tShape (el l t.toNat)) (tA (el l t.toNat)) (tB (el l t.toNat)) (x : Int)).length - y < (distRow (sizeT' (el l
 t.toNat)).toNat (tShape (el l t.toNat)) (tA (el l t.toNat)) (tB (el l t.toNat)) (x : Int)).length - x_1 ∧ ((x_1 : Int) + 1 = (y : Int) ∧ ((0 : Nat) = 0 ∧ 1 = (blkM (el l t.toNat) (sumZ l t.toNat) x y).length ∧ True) ∧
 True) ∧ (placedX (el l t.toNat) x x_1).set x_1 (D.bool (true = true)) = placedX (el l t.toNat) x y ∧ List.take 1 [D.int (sumZ l t.toNat + (x_1 : Int))] = blkM (el l t.toNat) (sumZ l t.toNat) x y ∧ True)) ∧ ((0 ≤ (nthD
 (distRow (sizeT' (el l t.toNat)).toNat (tShape (el l t.toNat)) (tA (el l t.toNat)) (tB (el l t.toNat)) (x : Int)) x_1).asInt → False) → ((-9223372036854775808) ≤ (x_1 : Int) + 1 ∧ (x_1 : Int) + 1 < 9223372036854775808) ∧
 ((∃ (y : Nat), (y ≤ (distRow (sizeT' (el l t.toNat)).toNat (tShape (el l t.toNat)) (tA (el l t.toNat)) (tB (el l t.toNat)) (x : Int)).length ∧ blkM (el l t.toNat) (sumZ l t.toNat) x y = []) ∧ (distRow (sizeT' (el l
 t.toNat)).toNat (tShape (el l t.toNat)) (tA (el l t.toNat)) (tB (el l t.toNat)) (x : Int)).length - y < (distRow (sizeT' (el l t.toNat)).toNat (tShape (el l t.toNat)) (tA (el l t.toNat)) (tB (el l t.toNat)) (x :
 Int)).length - x_1 ∧ ((x_1 : Int) + 1 = (y : Int) ∧ True ∧ True) ∧ placedX (el l t.toNat) x x_1 = placedX (el l t.toNat) x y ∧ True) ∨ ∃ (y : Nat), (y ≤ (distRow (sizeT' (el l t.toNat)).toNat (tShape (el l t.toNat)) (tA
 (el l t.toNat)) (tB (el l t.toNat)) (x : Int)).length ∧ (blkM (el l t.toNat) (sumZ l t.toNat) x y = [] → False)) ∧ (distRow (sizeT' (el l t.toNat)).toNat (tShape (el l t.toNat)) (tA (el l t.toNat)) (tB (el l t.toNat)) (x
 : Int)).length - y < (distRow (sizeT' (el l t.toNat)).toNat (tShape (el l t.toNat)) (tA (el l t.toNat)) (tB (el l t.toNat)) (x : Int)).length - x_1 ∧ ((x_1 : Int) + 1 = (y : Int) ∧ False ∧ True) ∧ placedX (el l t.toNat)
 x x_1 = placedX (el l t.toNat) x y ∧ False ∧ True))) ∧ (((x_1 : Int) < (↑(distRow (sizeT' (el l t.toNat)).toNat (tShape (el l t.toNat)) (tA (el l t.toNat)) (tB (el l t.toNat)) (x : Int)).length : Int) → False) → 0 + 1 ≤
 [D.nil].length ∧ (1 : Nat) ≤ 16777216 ∧ ((-9223372036854775808) ≤ (x : Int) + 1 ∧ (x : Int) + 1 < 9223372036854775808) ∧ ((∃ (y : Nat), (y ≤ (sizeT' (el l t.toNat)).toNat ∧ blkX (el l t.toNat) (sumZ l t.toNat) y = []) ∧
 (sizeT' (el l t.toNat)).toNat - y < (sizeT' (el l t.toNat)).toNat - x ∧ ((x : Int) + 1 = (y : Int) ∧ False ∧ True) ∧ placedX (el l t.toNat) x x_1 = placedX (el l t.toNat) y 0 ∧ True) ∨ ∃ (y : Nat), (y ≤ (sizeT' (el l
 t.toNat)).toNat ∧ (blkX (el l t.toNat) (sumZ l t.toNat) y = [] → False)) ∧ (sizeT' (el l t.toNat)).toNat - y < (sizeT' (el l t.toNat)).toNat - x ∧ ((x : Int) + 1 = (y : Int) ∧ ((0 : Nat) = 0 ∧ 1 = (blkX (el l t.toNat)
 (sumZ l t.toNat) y).length ∧ True) ∧ True) ∧ placedX (el l t.toNat) x x_1 = placedX (el l t.toNat) y 0 ∧ List.take 1 [D.nil] = blkX (el l t.toNat) (sumZ l t.toNat) y ∧ True))) ∧ ∀ (x_1 : Nat), x_1 ≤ (distRow (sizeT' (el
 l t.toNat)).toNat (tShape (el l t.toNat)) (tA (el l t.toNat)) (tB (el l t.toNat)) (x : Int)).length ∧ (blkM (el l t.toNat) (sumZ l t.toNat) x x_1 = [] → False) → (distRow (sizeT' (el l t.toNat)).toNat (tShape (el l
 t.toNat)) (tA (el l t.toNat)) (tB (el l t.toNat)) (x : Int)).length - x_1 < LIM ∧ ((x_1 : Int) < (↑(distRow (sizeT' (el l t.toNat)).toNat (tShape (el l t.toNat)) (tA (el l t.toNat)) (tB (el l t.toNat)) (x : Int)).length
 : Int) → 0 ≤ (x_1 : Int) ∧ (x_1 : Int) < (↑(distRow (sizeT' (el l t.toNat)).toNat (tShape (el l t.toNat)) (tA (el l t.toNat)) (tB (el l t.toNat)) (x : Int)).length : Int) ∧ (0 ≤ (nthD (distRow (sizeT' (el l
 t.toNat)).toNat (tShape (el l t.toNat)) (tA (el l t.toNat)) (tB (el l t.toNat)) (x : Int)) x_1).asInt → 0 ≤ (x_1 : Int) ∧ (x_1 : Int) < (↑(sizeT' (el l t.toNat)).toNat : Int) ∧ x_1 < (placedX (el l t.toNat) x x_1).length
 ∧ ((-9223372036854775808) ≤ sumZ l t.toNat + (x_1 : Int) ∧ sumZ l t.toNat + (x_1 : Int) < 9223372036854775808) ∧ 0 + 1 ≤ [D.int (sumZ l t.toNat + (x_1 : Int))].length ∧ 0 + (blkM (el l t.toNat) (sumZ l t.toNat) x
 x_1).length ≤ (blkM (el l t.toNat) (sumZ l t.toNat) x x_1).length ∧ (blkM (el l t.toNat) (sumZ l t.toNat) x x_1).length + 1 ≤ 16777216 ∧ ((-9223372036854775808) ≤ (x_1 : Int) + 1 ∧ (x_1 : Int) + 1 < 9223372036854775808)
 ∧ ((∃ (y : Nat), (y ≤ (distRow (sizeT' (el l t.toNat)).toNat (tShape (el l t.toNat)) (tA (el l t.toNat)) (tB (el l t.toNat)) (x : Int)).length ∧ blkM (el l t.toNat) (sumZ l t.toNat) x y = []) ∧ (distRow (sizeT' (el l
 t.toNat)).toNat (tShape (el l t.toNat)) (tA (el l t.toNat)) (tB (el l t.toNat)) (x : Int)).length - y < (distRow (sizeT' (el l t.toNat)).toNat (tShape (el l t.toNat)) (tA (el l t.toNat)) (tB (el l t.toNat)) (x :
 Int)).length - x_1 ∧ ((x_1 : Int) + 1 = (y : Int) ∧ False ∧ True) ∧ (placedX (el l t.toNat) x x_1).set x_1 (D.bool (true = true)) = placedX (el l t.toNat) x y ∧ True) ∨ ∃ (y : Nat), (y ≤ (distRow (sizeT' (el l
 t.toNat)).toNat (tShape (el l t.toNat)) (tA (el l t.toNat)) (tB (el l t.toNat)) (x : Int)).length ∧ (blkM (el l t.toNat) (sumZ l t.toNat) x y = [] → False)) ∧ (distRow (sizeT' (el l t.toNat)).toNat (tShape (el l
 t.toNat)) (tA (el l t.toNat)) (tB (el l t.toNat)) (x : Int)).length - y < (distRow (sizeT' (el l t.toNat)).toNat (tShape (el l t.toNat)) (tA (el l t.toNat)) (tB (el l t.toNat)) (x : Int)).length - x_1 ∧ ((x_1 : Int) + 1
 = (y : Int) ∧ ((0 : Nat) = 0 ∧ (blkM (el l t.toNat) (sumZ l t.toNat) x x_1).length + 1 = (blkM (el l t.toNat) (sumZ l t.toNat) x y).length ∧ True) ∧ True) ∧ (placedX (el l t.toNat) x x_1).set x_1 (D.bool (true = true)) =
 placedX (el l t.toNat) x y ∧ List.take (blkM (el l t.toNat) (sumZ l t.toNat) x x_1).length (blkM (el l t.toNat) (sumZ l t.toNat) x x_1) ++ List.take 1 [D.int (sumZ l t.toNat + (x_1 : Int))] = blkM (el l t.toNat) (sumZ l
 t.toNat) x y ∧ True)) ∧ ((0 ≤ (nthD (distRow (sizeT' (el l t.toNat)).toNat (tShape (el l t.toNat)) (tA (el l t.toNat)) (tB (el l t.toNat)) (x : Int)) x_1).asInt → False) → ((-9223372036854775808) ≤ (x_1 : Int) + 1 ∧ (x_1
 : Int) + 1 < 9223372036854775808) ∧ ((∃ (y : Nat), (y ≤ (distRow (sizeT' (el l t.toNat)).toNat (tShape (el l t.toNat)) (tA (el l t.toNat)) (tB (el l t.toNat)) (x : Int)).length ∧ blkM (el l t.toNat) (sumZ l t.toNat) x y
 = []) ∧ (distRow (sizeT' (el l t.toNat)).toNat (tShape (el l t.toNat)) (tA (el l t.toNat)) (tB (el l t.toNat)) (x : Int)).length - y < (distRow (sizeT' (el l t.toNat)).toNat (tShape (el l t.toNat)) (tA (el l t.toNat))
 (tB (el l t.toNat)) (x : Int)).length - x_1 ∧ ((x_1 : Int) + 1 = (y : Int) ∧ False ∧ True) ∧ placedX (el l t.toNat) x x_1 = placedX (el l t.toNat) x y ∧ True) ∨ ∃ (y : Nat), (y ≤ (distRow (sizeT' (el l t.toNat)).toNat
 (tShape (el l t.toNat)) (tA (el l t.toNat)) (tB (el l t.toNat)) (x : Int)).length ∧ (blkM (el l t.toNat) (sumZ l t.toNat) x y = [] → False)) ∧ (distRow (sizeT' (el l t.toNat)).toNat (tShape (el l t.toNat)) (tA (el l
 t.toNat)) (tB (el l t.toNat)) (x : Int)).length - y < (distRow (sizeT' (el l t.toNat)).toNat (tShape (el l t.toNat)) (tA (el l t.toNat)) (tB (el l t.toNat)) (x : Int)).length - x_1 ∧ ((x_1 : Int) + 1 = (y : Int) ∧ ((0 :
 Nat) = 0 ∧ (blkM (el l t.toNat) (sumZ l t.toNat) x x_1).length = (blkM (el l t.toNat) (sumZ l t.toNat) x y).length ∧ True) ∧ True) ∧ placedX (el l t.toNat) x x_1 = placedX (el l t.toNat) x y ∧ blkM (el l t.toNat) (sumZ l
 t.toNat) x x_1 = blkM (el l t.toNat) (sumZ l t.toNat) x y ∧ True))) ∧ (((x_1 : Int) < (↑(distRow (sizeT' (el l t.toNat)).toNat (tShape (el l t.toNat)) (tA (el l t.toNat)) (tB (el l t.toNat)) (x : Int)).length : Int) →
 False) → 0 + (blkM (el l t.toNat) (sumZ l t.toNat) x x_1).length ≤ (blkM (el l t.toNat) (sumZ l t.toNat) x x_1).length ∧ 0 + 1 ≤ [D.list (List.take (blkM (el l t.toNat) (sumZ l t.toNat) x x_1).length (blkM (el l t.toNat)
 (sumZ l t.toNat) x x_1))].length ∧ (1 : Nat) ≤ 16777216 ∧ ((-9223372036854775808) ≤ (x : Int) + 1 ∧ (x : Int) + 1 < 9223372036854775808) ∧ ((∃ (y : Nat), (y ≤ (sizeT' (el l t.toNat)).toNat ∧ blkX (el l t.toNat) (sumZ l
 t.toNat) y = []) ∧ (sizeT' (el l t.toNat)).toNat - y < (sizeT' (el l t.toNat)).toNat - x ∧ ((x : Int) + 1 = (y : Int) ∧ False ∧ True) ∧ placedX (el l t.toNat) x x_1 = placedX (el l t.toNat) y 0 ∧ True) ∨ ∃ (y : Nat), (y
 ≤ (sizeT' (el l t.toNat)).toNat ∧ (blkX (el l t.toNat) (sumZ l t.toNat) y = [] → False)) ∧ (sizeT' (el l t.toNat)).toNat - y < (sizeT' (el l t.toNat)).toNat - x ∧ ((x : Int) + 1 = (y : Int) ∧ ((0 : Nat) = 0 ∧ 1 = (blkX
 (el l t.toNat) (sumZ l t.toNat) y).length ∧ True) ∧ True) ∧ placedX (el l t.toNat) x x_1 = placedX (el l t.toNat) y 0 ∧ List.take 1 [D.list (List.take (blkM (el l t.toNat) (sumZ l t.toNat) x x_1).length (blkM (el l
 t.toNat) (sumZ l t.toNat) x x_1))] = blkX (el l t.toNat) (sumZ l t.toNat) y ∧ True)))) ∧ (((x : Int) < (↑(sizeT' (el l t.toNat)).toNat : Int) → False) → D.nil = blocksD l t)) ∧ ∀ (x : Nat), x ≤ (sizeT' (el l
 t.toNat)).toNat ∧ (blkX (el l t.toNat) (sumZ l t.toNat) x = [] → False) → (sizeT' (el l t.toNat)).toNat - x < LIM ∧ ((x : Int) < (↑(sizeT' (el l t.toNat)).toNat : Int) → 0 ≤ (x : Int) ∧ (x : Int) < (↑(sizeT' (el l
 t.toNat)).toNat : Int) ∧ x < (placedX (el l t.toNat) x 0).length ∧ ((nthD (placedX (el l t.toNat) x 0) x).asProp → ((-9223372036854775808) ≤ (x : Int) + 1 ∧ (x : Int) + 1 < 9223372036854775808) ∧ ((∃ (y : Nat), (y ≤
 (sizeT' (el l t.toNat)).toNat ∧ blkX (el l t.toNat) (sumZ l t.toNat) y = []) ∧ (sizeT' (el l t.toNat)).toNat - y < (sizeT' (el l t.toNat)).toNat - x ∧ ((x : Int) + 1 = (y : Int) ∧ False ∧ True) ∧ placedX (el l t.toNat) x
 0 = placedX (el l t.toNat) y 0 ∧ True) ∨ ∃ (y : Nat), (y ≤ (sizeT' (el l t.toNat)).toNat ∧ (blkX (el l t.toNat) (sumZ l t.toNat) y = [] → False)) ∧ (sizeT' (el l t.toNat)).toNat - y < (sizeT' (el l t.toNat)).toNat - x ∧
 ((x : Int) + 1 = (y : Int) ∧ ((0 : Nat) = 0 ∧ (blkX (el l t.toNat) (sumZ l t.toNat) x).length = (blkX (el l t.toNat) (sumZ l t.toNat) y).length ∧ True) ∧ True) ∧ placedX (el l t.toNat) x 0 = placedX (el l t.toNat) y 0 ∧
 blkX (el l t.toNat) (sumZ l t.toNat) x = blkX (el l t.toNat) (sumZ l t.toNat) y ∧ True)) ∧ (((nthD (placedX (el l t.toNat) x 0) x).asProp → False) → 0 ≤ t ∧ t < (l.len : Int) ∧ inTab (tShape (el l t.toNat)) (tA (el l
 t.toNat)) (tB (el l t.toNat)) (x : Int) ∧ ((∃ (x_1 : Nat), (x_1 ≤ (distRow (sizeT' (el l t.toNat)).toNat (tShape (el l t.toNat)) (tA (el l t.toNat)) (tB (el l t.toNat)) (x : Int)).length ∧ blkM (el l t.toNat) (sumZ l
 t.toNat) x x_1 = []) ∧ (0 = (x_1 : Int) ∧ True ∧ True) ∧ placedX (el l t.toNat) x 0 = placedX (el l t.toNat) x x_1 ∧ True) ∨ ∃ (x_1 : Nat), (x_1 ≤ (distRow (sizeT' (el l t.toNat)).toNat (tShape (el l t.toNat)) (tA (el l
 t.toNat)) (tB (el l t.toNat)) (x : Int)).length ∧ (blkM (el l t.toNat) (sumZ l t.toNat) x x_1 = [] → False)) ∧ (0 = (x_1 : Int) ∧ False ∧ True) ∧ placedX (el l t.toNat) x 0 = placedX (el l t.toNat) x x_1 ∧ False ∧ True)
 ∧ (∀ (x_1 : Nat), x_1 ≤ (distRow (sizeT' (el l t.toNat)).toNat (tShape (el l t.toNat)) (tA (el l t.toNat)) (tB (el l t.toNat)) (x : Int)).length ∧ blkM (el l t.toNat) (sumZ l t.toNat) x x_1 = [] → (distRow (sizeT' (el l
 t.toNat)).toNat (tShape (el l t.toNat)) (tA (el l t.toNat)) (tB (el l t.toNat)) (x : Int)).length - x_1 < LIM ∧ ((x_1 : Int) < (↑(distRow (sizeT' (el l t.toNat)).toNat (tShape (el l t.toNat)) (tA (el l t.toNat)) (tB (el
 l t.toNat)) (x : Int)).length : Int) → 0 ≤ (x_1 : Int) ∧ (x_1 : Int) < (↑(distRow (sizeT' (el l t.toNat)).toNat (tShape (el l t.toNat)) (tA (el l t.toNat)) (tB (el l t.toNat)) (x : Int)).length : Int) ∧ (0 ≤ (nthD
 (distRow (sizeT' (el l t.toNat)).toNat (tShape (el l t.toNat)) (tA (el l t.toNat)) (tB (el l t.toNat)) (x : Int)) x_1).asInt → 0 ≤ (x_1 : Int) ∧ (x_1 : Int) < (↑(sizeT' (el l t.toNat)).toNat : Int) ∧ x_1 < (placedX (el l
 t.toNat) x x_1).length ∧ ((-9223372036854775808) ≤ sumZ l t.toNat + (x_1 : Int) ∧ sumZ l t.toNat + (x_1 : Int) < 9223372036854775808) ∧ 0 + 1 ≤ [D.int (sumZ l t.toNat + (x_1 : Int))].length ∧ (1 : Nat) ≤ 16777216 ∧
 ((-9223372036854775808) ≤ (x_1 : Int) + 1 ∧ (x_1 : Int) + 1 < 9223372036854775808) ∧ ((∃ (y : Nat), (y ≤ (distRow (sizeT' (el l t.toNat)).toNat (tShape (el l t.toNat)) (tA (el l t.toNat)) (tB (el l t.toNat)) (x :
 Int)).length ∧ blkM (el l t.toNat) (sumZ l t.toNat) x y = []) ∧ (distRow (sizeT' (el l t.toNat)).toNat (tShape (el l t.toNat)) (tA (el l t.toNat)) (tB (el l t.toNat)) (x : Int)).length - y < (distRow (sizeT' (el l
 t.toNat)).toNat (tShape (el l t.toNat)) (tA (el l t.toNat)) (tB (el l t.toNat)) (x : Int)).length - x_1 ∧ ((x_1 : Int) + 1 = (y : Int) ∧ False ∧ True) ∧ (placedX (el l t.toNat) x x_1).set x_1 (D.bool (true = true)) =
 placedX (el l t.toNat) x y ∧ True) ∨ ∃ (y : Nat), (y ≤ (distRow (sizeT' (el l t.toNat)).toNat (tShape (el l t.toNat)) (tA (el l t.toNat)) (tB (el l t.toNat)) (x : Int)).length ∧ (blkM (el l t.toNat) (sumZ l t.toNat) x y
 = [] → False)) ∧ (distRow (sizeT' (el l t.toNat)).toNat (tShape (el l t.toNat)) (tA (el l t.toNat)) (tB (el l t.toNat)) (x : Int)).length - y < (distRow (sizeT' (el l t.toNat)).toNat (tShape (el l t.toNat)) (tA (el l
 t.toNat)) (tB (el l t.toNat)) (x : Int)).length - x_1 ∧ ((x_1 : Int) + 1 = (y : Int) ∧ ((0 : Nat) = 0 ∧ 1 = (blkM (el l t.toNat) (sumZ l t.toNat) x y).length ∧ True) ∧ True) ∧ (placedX (el l t.toNat) x x_1).set x_1
 (D.bool (true = true)) = placedX (el l t.toNat) x y ∧ List.take 1 [D.int (sumZ l t.toNat + (x_1 : Int))] = blkM (el l t.toNat) (sumZ l t.toNat) x y ∧ True)) ∧ ((0 ≤ (nthD (distRow (sizeT' (el l t.toNat)).toNat (tShape
 (el l t.toNat)) (tA (el l t.toNat)) (tB (el l t.toNat)) (x : Int)) x_1).asInt → False) → ((-9223372036854775808) ≤ (x_1 : Int) + 1 ∧ (x_1 : Int) + 1 < 9223372036854775808) ∧ ((∃ (y : Nat), (y ≤ (distRow (sizeT' (el l
 t.toNat)).toNat (tShape (el l t.toNat)) (tA (el l t.toNat)) (tB (el l t.toNat)) (x : Int)).length ∧ blkM (el l t.toNat) (sumZ l t.toNat) x y = []) ∧ (distRow (sizeT' (el l t.toNat)).toNat (tShape (el l t.toNat)) (tA (el
 l t.toNat)) (tB (el l t.toNat)) (x : Int)).length - y < (distRow (sizeT' (el l t.toNat)).toNat (tShape (el l t.toNat)) (tA (el l t.toNat)) (tB (el l t.toNat)) (x : Int)).length - x_1 ∧ ((x_1 : Int) + 1 = (y : Int) ∧ True
 ∧ True) ∧ placedX (el l t.toNat) x x_1 = placedX (el l t.toNat) x y ∧ True) ∨ ∃ (y : Nat), (y ≤ (distRow (sizeT' (el l t.toNat)).toNat (tShape (el l t.toNat)) (tA (el l t.toNat)) (tB (el l t.toNat)) (x : Int)).length ∧
 (blkM (el l t.toNat) (sumZ l t.toNat) x y = [] → False)) ∧ (distRow (sizeT' (el l t.toNat)).toNat (tShape (el l t.toNat)) (tA (el l t.toNat)) (tB (el l t.toNat)) (x : Int)).length - y < (distRow (sizeT' (el l
 t.toNat)).toNat (tShape (el l t.toNat)) (tA (el l t.toNat)) (tB (el l t.toNat)) (x : Int)).length - x_1 ∧ ((x_1 : Int) + 1 = (y : Int) ∧ False ∧ True) ∧ placedX (el l t.toNat) x x_1 = placedX (el l t.toNat) x y ∧ False ∧
 True))) ∧ (((x_1 : Int) < (↑(distRow (sizeT' (el l t.toNat)).toNat (tShape (el l t.toNat)) (tA (el l t.toNat)) (tB (el l t.toNat)) (x : Int)).length : Int) → False) → 0 + 1 ≤ [D.nil].length ∧ 0 + (blkX (el l t.toNat)
 (sumZ l t.toNat) x).length ≤ (blkX (el l t.toNat) (sumZ l t.toNat) x).length ∧ (blkX (el l t.toNat) (sumZ l t.toNat) x).length + 1 ≤ 16777216 ∧ ((-9223372036854775808) ≤ (x : Int) + 1 ∧ (x : Int) + 1 <
 9223372036854775808) ∧ ((∃ (y : Nat), (y ≤ (sizeT' (el l t.toNat)).toNat ∧ blkX (el l t.toNat) (sumZ l t.toNat) y = []) ∧ (sizeT' (el l t.toNat)).toNat - y < (sizeT' (el l t.toNat)).toNat - x ∧ ((x : Int) + 1 = (y : Int)
 ∧ False ∧ True) ∧ placedX (el l t.toNat) x x_1 = placedX (el l t.toNat) y 0 ∧ True) ∨ ∃ (y : Nat), (y ≤ (sizeT' (el l t.toNat)).toNat ∧ (blkX (el l t.toNat) (sumZ l t.toNat) y = [] → False)) ∧ (sizeT' (el l
 t.toNat)).toNat - y < (sizeT' (el l t.toNat)).toNat - x ∧ ((x : Int) + 1 = (y : Int) ∧ ((0 : Nat) = 0 ∧ (blkX (el l t.toNat) (sumZ l t.toNat) x).length + 1 = (blkX (el l t.toNat) (sumZ l t.toNat) y).length ∧ True) ∧
 True) ∧ placedX (el l t.toNat) x x_1 = placedX (el l t.toNat) y 0 ∧ List.take (blkX (el l t.toNat) (sumZ l t.toNat) x).length (blkX (el l t.toNat) (sumZ l t.toNat) x) ++ List.take 1 [D.nil] = blkX (el l t.toNat) (sumZ l
 t.toNat) y ∧ True))) ∧ ∀ (x_1 : Nat), x_1 ≤ (distRow (sizeT' (el l t.toNat)).toNat (tShape (el l t.toNat)) (tA (el l t.toNat)) (tB (el l t.toNat)) (x : Int)).length ∧ (blkM (el l t.toNat) (sumZ l t.toNat) x x_1 = [] →
 False) → (distRow (sizeT' (el l t.toNat)).toNat (tShape (el l t.toNat)) (tA (el l t.toNat)) (tB (el l t.toNat)) (x : Int)).length - x_1 < LIM ∧ ((x_1 : Int) < (↑(distRow (sizeT' (el l t.toNat)).toNat (tShape (el l
 t.toNat)) (tA (el l t.toNat)) (tB (el l t.toNat)) (x : Int)).length : Int) → 0 ≤ (x_1 : Int) ∧ (x_1 : Int) < (↑(distRow (sizeT' (el l t.toNat)).toNat (tShape (el l t.toNat)) (tA (el l t.toNat)) (tB (el l t.toNat)) (x :
 Int)).length : Int) ∧ (0 ≤ (nthD (distRow (sizeT' (el l t.toNat)).toNat (tShape (el l t.toNat)) (tA (el l t.toNat)) (tB (el l t.toNat)) (x : Int)) x_1).asInt → 0 ≤ (x_1 : Int) ∧ (x_1 : Int) < (↑(sizeT' (el l
 t.toNat)).toNat : Int) ∧ x_1 < (placedX (el l t.toNat) x x_1).length ∧ ((-9223372036854775808) ≤ sumZ l t.toNat + (x_1 : Int) ∧ sumZ l t.toNat + (x_1 : Int) < 9223372036854775808) ∧ 0 + 1 ≤ [D.int (sumZ l t.toNat + (x_1
 : Int))].length ∧ 0 + (blkM (el l t.toNat) (sumZ l t.toNat) x x_1).length ≤ (blkM (el l t.toNat) (sumZ l t.toNat) x x_1).length ∧ (blkM (el l t.toNat) (sumZ l t.toNat) x x_1).length + 1 ≤ 16777216 ∧
 ((-9223372036854775808) ≤ (x_1 : Int) + 1 ∧ (x_1 : Int) + 1 < 9223372036854775808) ∧ ((∃ (y : Nat), (y ≤ (distRow (sizeT' (el l t.toNat)).toNat (tShape (el l t.toNat)) (tA (el l t.toNat)) (tB (el l t.toNat)) (x :
 Int)).length ∧ blkM (el l t.toNat) (sumZ l t.toNat) x y = []) ∧ (distRow (sizeT' (el l t.toNat)).toNat (tShape (el l t.toNat)) (tA (el l t.toNat)) (tB (el l t.toNat)) (x : Int)).length - y < (distRow (sizeT' (el l
 t.toNat)).toNat (tShape (el l t.toNat)) (tA (el l t.toNat)) (tB (el l t.toNat)) (x : Int)).length - x_1 ∧ ((x_1 : Int) + 1 = (y : Int) ∧ False ∧ True) ∧ (placedX (el l t.toNat) x x_1).set x_1 (D.bool (true = true)) =
 placedX (el l t.toNat) x y ∧ True) ∨ ∃ (y : Nat), (y ≤ (distRow (sizeT' (el l t.toNat)).toNat (tShape (el l t.toNat)) (tA (el l t.toNat)) (tB (el l t.toNat)) (x : Int)).length ∧ (blkM (el l t.toNat) (sumZ l t.toNat) x y
 = [] → False)) ∧ (distRow (sizeT' (el l t.toNat)).toNat (tShape (el l t.toNat)) (tA (el l t.toNat)) (tB (el l t.toNat)) (x : Int)).length - y < (distRow (sizeT' (el l t.toNat)).toNat (tShape (el l t.toNat)) (tA (el l
 t.toNat)) (tB (el l t.toNat)) (x : Int)).length - x_1 ∧ ((x_1 : Int) + 1 = (y : Int) ∧ ((0 : Nat) = 0 ∧ (blkM (el l t.toNat) (sumZ l t.toNat) x x_1).length + 1 = (blkM (el l t.toNat) (sumZ l t.toNat) x y).length ∧ True)
 ∧ True) ∧ (placedX (el l t.toNat) x x_1).set x_1 (D.bool (true = true)) = placedX (el l t.toNat) x y ∧ List.take (blkM (el l t.toNat) (sumZ l t.toNat) x x_1).length (blkM (el l t.toNat) (sumZ l t.toNat) x x_1) ++
 List.take 1 [D.int (sumZ l t.toNat + (x_1 : Int))] = blkM (el l t.toNat) (sumZ l t.toNat) x y ∧ True)) ∧ ((0 ≤ (nthD (distRow (sizeT' (el l t.toNat)).toNat (tShape (el l t.toNat)) (tA (el l t.toNat)) (tB (el l t.toNat))
 (x : Int)) x_1).asInt → False) → ((-9223372036854775808) ≤ (x_1 : Int) + 1 ∧ (x_1 : Int) + 1 < 9223372036854775808) ∧ ((∃ (y : Nat), (y ≤ (distRow (sizeT' (el l t.toNat)).toNat (tShape (el l t.toNat)) (tA (el l t.toNat))
 (tB (el l t.toNat)) (x : Int)).length ∧ blkM (el l t.toNat) (sumZ l t.toNat) x y = []) ∧ (distRow (sizeT' (el l t.toNat)).toNat (tShape (el l t.toNat)) (tA (el l t.toNat)) (tB (el l t.toNat)) (x : Int)).length - y <
 (distRow (sizeT' (el l t.toNat)).toNat (tShape (el l t.toNat)) (tA (el l t.toNat)) (tB (el l t.toNat)) (x : Int)).length - x_1 ∧ ((x_1 : Int) + 1 = (y : Int) ∧ False ∧ True) ∧ placedX (el l t.toNat) x x_1 = placedX (el l
 t.toNat) x y ∧ True) ∨ ∃ (y : Nat), (y ≤ (distRow (sizeT' (el l t.toNat)).toNat (tShape (el l t.toNat)) (tA (el l t.toNat)) (tB (el l t.toNat)) (x : Int)).length ∧ (blkM (el l t.toNat) (sumZ l t.toNat) x y = [] → False))
 ∧ (distRow (sizeT' (el l t.toNat)).toNat (tShape (el l t.toNat)) (tA (el l t.toNat)) (tB (el l t.toNat)) (x : Int)).length - y < (distRow (sizeT' (el l t.toNat)).toNat (tShape (el l t.toNat)) (tA (el l t.toNat)) (tB (el
 l t.toNat)) (x : Int)).length - x_1 ∧ ((x_1 : Int) + 1 = (y : Int) ∧ ((0 : Nat) = 0 ∧ (blkM (el l t.toNat) (sumZ l t.toNat) x x_1).length = (blkM (el l t.toNat) (sumZ l t.toNat) x y).length ∧ True) ∧ True) ∧ placedX (el
 l t.toNat) x x_1 = placedX (el l t.toNat) x y ∧ blkM (el l t.toNat) (sumZ l t.toNat) x x_1 = blkM (el l t.toNat) (sumZ l t.toNat) x y ∧ True))) ∧ (((x_1 : Int) < (↑(distRow (sizeT' (el l t.toNat)).toNat (tShape (el l
 t.toNat)) (tA (el l t.toNat)) (tB (el l t.toNat)) (x : Int)).length : Int) → False) → 0 + (blkM (el l t.toNat) (sumZ l t.toNat) x x_1).length ≤ (blkM (el l t.toNat) (sumZ l t.toNat) x x_1).length ∧ 0 + 1 ≤ [D.list
 (List.take (blkM (el l t.toNat) (sumZ l t.toNat) x x_1).length (blkM (el l t.toNat) (sumZ l t.toNat) x x_1))].length ∧ 0 + (blkX (el l t.toNat) (sumZ l t.toNat) x).length ≤ (blkX (el l t.toNat) (sumZ l t.toNat) x).length
 ∧ (blkX (el l t.toNat) (sumZ l t.toNat) x).length + 1 ≤ 16777216 ∧ ((-9223372036854775808) ≤ (x : Int) + 1 ∧ (x : Int) + 1 < 9223372036854775808) ∧ ((∃ (y : Nat), (y ≤ (sizeT' (el l t.toNat)).toNat ∧ blkX (el l t.toNat)
 (sumZ l t.toNat) y = []) ∧ (sizeT' (el l t.toNat)).toNat - y < (sizeT' (el l t.toNat)).toNat - x ∧ ((x : Int) + 1 = (y : Int) ∧ False ∧ True) ∧ placedX (el l t.toNat) x x_1 = placedX (el l t.toNat) y 0 ∧ True) ∨ ∃ (y :
 Nat), (y ≤ (sizeT' (el l t.toNat)).toNat ∧ (blkX (el l t.toNat) (sumZ l t.toNat) y = [] → False)) ∧ (sizeT' (el l t.toNat)).toNat - y < (sizeT' (el l t.toNat)).toNat - x ∧ ((x : Int) + 1 = (y : Int) ∧ ((0 : Nat) = 0 ∧
 (blkX (el l t.toNat) (sumZ l t.toNat) x).length + 1 = (blkX (el l t.toNat) (sumZ l t.toNat) y).length ∧ True) ∧ True) ∧ placedX (el l t.toNat) x x_1 = placedX (el l t.toNat) y 0 ∧ List.take (blkX (el l t.toNat) (sumZ l
 t.toNat) x).length (blkX (el l t.toNat) (sumZ l t.toNat) x) ++ List.take 1 [D.list (List.take (blkM (el l t.toNat) (sumZ l t.toNat) x x_1).length (blkM (el l t.toNat) (sumZ l t.toNat) x x_1))] = blkX (el l t.toNat) (sumZ
 l t.toNat) y ∧ True)))) ∧ (((x : Int) < (↑(sizeT' (el l t.toNat)).toNat : Int) → False) → 0 + (blkX (el l t.toNat) (sumZ l t.toNat) x).length ≤ (blkX (el l t.toNat) (sumZ l t.toNat) x).length ∧ D.list (List.take (blkX
 (el l t.toNat) (sumZ l t.toNat) x).length (blkX (el l t.toNat) (sumZ l t.toNat) x)) = blocksD l t))) ∧ ((t < (l.len : Int) → False) → D.nil = blocksD l t)) ∧ ((0 ≤ t → False) → D.nil = blocksD l t)) := by intros; kernel_rfl
theorem sum_small {l : D} (hs : l.len ≤ 100) : ∀ n, n ≤ 100 → 0 ≤ sumZ l n ∧ sumZ l n ≤ 24 * (n : Int)
  | 0, _ => ⟨Int.le_refl 0, Int.le_refl _⟩
  | n + 1, h => by
    have ih := sum_small hs n (by omega)
    have hz := size_range (el l n)
    show 0 ≤ sumZ l n + sizeT' (el l n) ∧ sumZ l n + sizeT' (el l n) ≤ 24 * ((n + 1 : Nat) : Int)
    omega
theorem seated_ok {l : D} (hs : smallD l) (h : okHall l) : seatedD l ∧ l.len ≤ 16 := by
  have hb := h.out
  unfold badZ at hb
  split at hb
  · cases hb
  · rename_i hl
    refine ⟨⟨by omega, fun i hi => ?_⟩, by omega⟩
    have key : ∀ f i, (scanZ l f i).2 = 0 → ∀ j, i ≤ j → j < i + f → err1 l j = 0 := by
      intro f
      induction f with
      | zero => intro i _ j h1 h2; omega
      | succ f ih =>
        intro i h j h1 h2
        unfold scanZ at h
        split at h
        · rename_i he; exact absurd h he
        · rename_i he
          by_cases e : j = i
          · subst e; exact Classical.not_not.1 he
          · exact ih (i + 1) h j (by omega) (by omega)
    have he := key l.len 0 hb i (by omega) (by omega)
    intro hz
    unfold err1 at he
    split at he
    · rename_i h1; exact h1 he
    · rename_i h1
      have h1 : errT (el l i) = 0 := Classical.not_not.1 h1
      unfold errT errZ at h1
      split at h1
      · cases h1
      · split at h1
        · cases h1
        · rename_i h2; exact h2 hz
theorem s36 (l : D) (t : Int) (hs : smallD l) : symFun (ctx met1 metAnn) 4 36 [.dat 22 l, .int .i64 t] (.dat 48 (blocksD l t)) := by
  rw [vc36]
  have hno : ¬ hasT l t → D.nil = blocksD l t := fun h => by unfold blocksD; rw [if_neg h]
  refine ⟨fun h0 => ⟨fun h1 => ⟨hs, fun h2 => hno fun h => h2 h.out.2.2, fun h2 => ?_⟩, fun h1 => hno fun h => h1 h.out.2.1⟩, fun h0 => hno fun h => h0 h.out.1⟩
  have hok : okHall l := Classical.not_not.1 h2
  have hT : hasT l t := ⟨h0, h1, hok⟩
  obtain ⟨hse, hl16⟩ := seated_ok hs hok
  have hz := hse.out.2 t.toNat (by omega)
  have hr := size_range (el l t.toNat)
  have hbd : blocksD l t = .list (blkX (el l t.toNat) (sumZ l t.toNat) (dN (el l t.toNat))) := by unfold blocksD; rw [if_pos hT]
  have hF := sum_small hse.out.1 t.toNat (by omega)
  rw [hbd]
  have hbytes : (ctx met1 metAnn).P.types[4].bytes = 1 := by kernel_rfl
  rw [hbytes]
  have hin : ∀ x : Nat, (x : Int) < ((sizeT' (el l t.toNat)).toNat : Int) → inTab (tShape (el l t.toNat)) (tA (el l t.toNat)) (tB (el l t.toNat)) x := fun x hx => ⟨hz, by omega, by show (x : Int) < sizeT' (el l t.toNat); omega⟩
  have hdl : ∀ x : Int, (distRow (sizeT' (el l t.toNat)).toNat (tShape (el l t.toNat)) (tA (el l t.toNat)) (tB (el l t.toNat)) x).length = (sizeT' (el l t.toNat)).toNat := fun x => len_dist _ _ _ _ _
  have hdn : ∀ (x y : Nat), y < (sizeT' (el l t.toNat)).toNat → ((0 : Int) ≤ (nthD (distRow (sizeT' (el l t.toNat)).toNat (tShape (el l t.toNat)) (tA (el l t.toNat)) (tB (el l t.toNat)) (x : Int)) y).asInt ↔ reachP (tShape (el l t.toNat)) (tA (el l t.toNat)) (tB (el l t.toNat)) (sizeT' (el l t.toNat)).toNat x y) := fun x y hy => by
    unfold distRow; rw [nth_rowN _ hy, Int.toNat_natCast]; exact ⟨fun h => ⟨h⟩, fun h => h.out⟩
  have hX : ∀ x, blkX (el l t.toNat) (sumZ l t.toNat) x = blkL (tShape (el l t.toNat)) (tA (el l t.toNat)) (tB (el l t.toNat)) (sumZ l t.toNat) (sizeT' (el l t.toNat)).toNat x := fun _ => rfl
  have hM : ∀ x y, blkM (el l t.toNat) (sumZ l t.toNat) x y = blkMem (tShape (el l t.toNat)) (tA (el l t.toNat)) (tB (el l t.toNat)) (sumZ l t.toNat) (sizeT' (el l t.toNat)).toNat x y := fun _ _ => rfl
  have hP : ∀ x y, placedX (el l t.toNat) x y = placedL (tShape (el l t.toNat)) (tA (el l t.toNat)) (tB (el l t.toNat)) (sizeT' (el l t.toNat)).toNat x y := fun _ _ => rfl
  have hD : dN (el l t.toNat) = (sizeT' (el l t.toNat)).toNat := rfl
  simp only [hX, hM, hP, hD, hdl, imp_false]
  refine ⟨⟨by omega, by omega, hse⟩, h0, h1, hz, by omega, by omega, by omega, by omega, ?_⟩
  generalize tShape (el l t.toNat) = sh at *
  generalize tA (el l t.toNat) = a at *
  generalize tB (el l t.toNat) = b at *
  generalize sumZ l t.toNat = F at *
  obtain ⟨n, hn⟩ : ∃ n, (sizeT' (el l t.toNat)).toNat = n := ⟨_, rfl⟩
  rw [hn] at hdn hdl hin ⊢
  have h24 : n ≤ 24 := by omega
  have hn0 : 0 < n := by omega
  have hFr : 0 ≤ F ∧ F ≤ 2400 := by omega
  clear hX hM hP hD hbd hno
  have hpl : ∀ x y, (placedL sh a b n x y).length = n := fun x y => pl_len x y
  have hpn : ∀ x : Nat, x < n → ((nthD (placedL sh a b n x 0) x).asProp ↔ placedP sh a b n x x) := fun x hx => by
    rw [pl_nth hx]
    exact ⟨fun h => (show placed2 sh a b n x 0 x from h).out.elim id (fun g => absurd g.1 (Nat.not_lt_zero _)), fun h => (show placed2 sh a b n x 0 x from ⟨.inl h⟩)⟩
  have hL : ∀ m : Nat, m ≤ 64 → m < LIM := fun m h => by unfold LIM; omega
  refine ⟨.inl ⟨0, ⟨Nat.zero_le _, rfl⟩, ⟨rfl, trivial, trivial⟩, pl_zero, trivial⟩, fun x hx => ?_, fun x hx => ?_⟩
  · obtain ⟨hx1, hx2⟩ := hx
    refine ⟨hL _ (by omega), fun hlt => ?_, fun hge => ?_⟩
    · have hxn : x < n := by omega
      refine ⟨by omega, hlt, by rw [hpl]; exact hxn, fun hp => ?_, fun hp => ?_⟩
      · have hp := (hpn x hxn).1 hp
        exact ⟨by omega, .inl ⟨x + 1, ⟨by omega, by rw [bl_skip hp]; exact hx2⟩, by omega, ⟨by omega, trivial, trivial⟩, pl_skip hxn hp, trivial⟩⟩
      · have hp : ¬ placedP sh a b n x x := fun h => hp ((hpn x hxn).2 h)
        refine ⟨h0, h1, hin x hlt, .inl ⟨0, ⟨Nat.zero_le _, rfl⟩, ⟨rfl, trivial, trivial⟩, rfl, trivial⟩, fun y hy => ⟨hL _ (by omega), fun hly => ?_, fun hgy => ?_⟩, fun y hy => ⟨hL _ (by omega), fun hly => ?_, fun hgy => ?_⟩⟩
        · have hyn : y < n := by omega
          rw [hdn x y hyn]
          refine ⟨by omega, hly, fun hr => ⟨by omega, by omega, by rw [hpl]; exact hyn, by omega, by simp, by omega, by omega, .inr ⟨y + 1, ⟨by omega, ?_⟩, by omega, ⟨by omega, ⟨trivial, ?_, trivial⟩, trivial⟩, pl_set hyn hr, ?_, trivial⟩⟩, fun hr => ⟨by omega, .inl ⟨y + 1, ⟨by omega, by rw [bm_far hr]; exact hy.2⟩, by omega, ⟨by omega, trivial, trivial⟩, pl_far hr, trivial⟩⟩⟩
          all_goals rw [bm_near hr, hy.2]; simp
        · have : y = n := by omega
          subst this
          exact absurd hy.2 (bm_self hxn)
        · have hyn : y < n := by omega
          have hbl := bm_len (sh := sh) (a := a) (b := b) (first := F) (n := n) x y
          rw [hdn x y hyn]
          refine ⟨by omega, hly, fun hr => ⟨by omega, by omega, by rw [hpl]; exact hyn, by omega, by simp, by omega, by omega, by omega, .inr ⟨y + 1, ⟨by omega, ?_⟩, by omega, ⟨by omega, ⟨trivial, ?_, trivial⟩, trivial⟩, pl_set hyn hr, ?_, trivial⟩⟩, fun hr => ⟨by omega, .inr ⟨y + 1, ⟨by omega, by rw [bm_far hr]; exact hy.2⟩, by omega, ⟨by omega, ⟨trivial, by rw [bm_far hr], trivial⟩, trivial⟩, pl_far hr, by rw [bm_far hr], trivial⟩⟩⟩
          all_goals rw [bm_near hr]; simp
        · have : y = n := by omega
          subst this
          refine ⟨by omega, by simp, by omega, by omega, .inr ⟨x + 1, ⟨by omega, ?_⟩, by omega, ⟨by omega, ⟨trivial, ?_, trivial⟩, trivial⟩, pl_row, ?_, trivial⟩⟩
          all_goals rw [bl_lead hp, hx2]; simp
    · -- no block at all: not so, since there is a seat
      have : x = n := by omega
      subst this
      exfalso
      have h0' : ¬ placedP sh a b x 0 0 := fun h => by obtain ⟨k, hk, _⟩ := h.out; omega
      have : (D.list (blkMem sh a b F x 0 x)) ∈ blkL sh a b F x x := by
        unfold blkL
        exact List.mem_map.2 ⟨0, List.mem_filter.2 ⟨List.mem_range.2 hn0, by simp [h0']⟩, rfl⟩
      rw [hx2] at this; cases this
  · obtain ⟨hx1, hx2⟩ := hx
    have hxl := bl_len (sh := sh) (a := a) (b := b) (first := F) (n := n) x
    refine ⟨hL _ (by omega), fun hlt => ?_, fun hge => ?_⟩
    · have hxn : x < n := by omega
      refine ⟨by omega, hlt, by rw [hpl]; exact hxn, fun hp => ?_, fun hp => ?_⟩
      · have hp := (hpn x hxn).1 hp
        exact ⟨by omega, .inr ⟨x + 1, ⟨by omega, by rw [bl_skip hp]; exact hx2⟩, by omega, ⟨by omega, ⟨trivial, by rw [bl_skip hp], trivial⟩, trivial⟩, pl_skip hxn hp, by rw [bl_skip hp], trivial⟩⟩
      · have hp : ¬ placedP sh a b n x x := fun h => hp ((hpn x hxn).2 h)
        refine ⟨h0, h1, hin x hlt, .inl ⟨0, ⟨Nat.zero_le _, rfl⟩, ⟨rfl, trivial, trivial⟩, rfl, trivial⟩, fun y hy => ⟨hL _ (by omega), fun hly => ?_, fun hgy => ?_⟩, fun y hy => ⟨hL _ (by omega), fun hly => ?_, fun hgy => ?_⟩⟩
        · have hyn : y < n := by omega
          rw [hdn x y hyn]
          refine ⟨by omega, hly, fun hr => ⟨by omega, by omega, by rw [hpl]; exact hyn, by omega, by simp, by omega, by omega, .inr ⟨y + 1, ⟨by omega, ?_⟩, by omega, ⟨by omega, ⟨trivial, ?_, trivial⟩, trivial⟩, pl_set hyn hr, ?_, trivial⟩⟩, fun hr => ⟨by omega, .inl ⟨y + 1, ⟨by omega, by rw [bm_far hr]; exact hy.2⟩, by omega, ⟨by omega, trivial, trivial⟩, pl_far hr, trivial⟩⟩⟩
          all_goals rw [bm_near hr, hy.2]; simp
        · have : y = n := by omega
          subst this
          exact absurd hy.2 (bm_self hxn)
        · have hyn : y < n := by omega
          have hbl := bm_len (sh := sh) (a := a) (b := b) (first := F) (n := n) x y
          rw [hdn x y hyn]
          refine ⟨by omega, hly, fun hr => ⟨by omega, by omega, by rw [hpl]; exact hyn, by omega, by simp, by omega, by omega, by omega, .inr ⟨y + 1, ⟨by omega, ?_⟩, by omega, ⟨by omega, ⟨trivial, ?_, trivial⟩, trivial⟩, pl_set hyn hr, ?_, trivial⟩⟩, fun hr => ⟨by omega, .inr ⟨y + 1, ⟨by omega, by rw [bm_far hr]; exact hy.2⟩, by omega, ⟨by omega, ⟨trivial, by rw [bm_far hr], trivial⟩, trivial⟩, pl_far hr, by rw [bm_far hr], trivial⟩⟩⟩
          all_goals rw [bm_near hr]; simp
        · have : y = n := by omega
          subst this
          refine ⟨by omega, by simp, by omega, by omega, by omega, .inr ⟨x + 1, ⟨by omega, ?_⟩, by omega, ⟨by omega, ⟨trivial, ?_, trivial⟩, trivial⟩, pl_row, ?_, trivial⟩⟩
          all_goals rw [bl_lead hp]; simp
    · have : x = n := by omega
      subst this
      exact ⟨by omega, by rw [List.take_length]⟩
end Go.Ev
