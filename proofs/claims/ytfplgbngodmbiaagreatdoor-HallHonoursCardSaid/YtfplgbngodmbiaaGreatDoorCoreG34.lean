/-
  Part of the engine that the claim is proved with: it states nothing of the document by itself.
-/
import Derived.Test.YtfplgbngodmbiaaGreatDoorCoreG27
import Derived.Test.YtfplgbngodmbiaaGreatDoorCoreG33
import Derived.Test.YtfplgbngodmbiaaGreatDoorCoreG32
import Derived.Test.YtfplgbngodmbiaaGreatDoorCoreG31

section
open Go.Proofs
namespace Go.Ev
set_option maxRecDepth 100000
set_option maxHeartbeats 4000000
theorem vc74 : ∀ (l : D) (t : Int), symFun (ctx rh1 honAnn) 4 (74 : FuncId) [V.dat (22 : TypeId) l, V.int IntKind.i64 t] (V.dat (48 : TypeId) (D.list (blkX (el l t.toNat) (sumZ l t.toNat) (dN (el l t.toNat))))) = (0 ≤ t
∧ t < (l.len : Int) ∧ True ∧ ((∃ (x : Nat), (x ≤ dN (el l t.toNat) ∧ blkX (el l t.toNat) (sumZ l t.toNat) x = []) ∧ (0 = (x : Int) ∧ True ∧ True) ∧ True) ∨ ∃ (x : Nat), (x ≤ dN (el l t.toNat) ∧ (blkX (el l t.toNat) (sumZ
l t.toNat) x = [] → False)) ∧ (0 = (x : Int) ∧ False ∧ True) ∧ False ∧ True) ∧ (∀ (x : Nat), x ≤ dN (el l t.toNat) ∧ blkX (el l t.toNat) (sumZ l t.toNat) x = [] → dN (el l t.toNat) - x < LIM ∧ ((x : Int) < sizeT' (el l
t.toNat) → 0 ≤ t ∧ t < (l.len : Int) ∧ inTab (tShape (el l t.toNat)) (tA (el l t.toNat)) (tB (el l t.toNat)) (x : Int) ∧ ((∃ (x_1 : Nat), (x_1 ≤ dN (el l t.toNat) ∧ blkM (el l t.toNat) (sumZ l t.toNat) x x_1 = []) ∧ (0 =
(x_1 : Int) ∧ (true = true ↔ leastP (el l t.toNat) x x_1) ∧ True ∧ True) ∧ True) ∨ ∃ (x_1 : Nat), (x_1 ≤ dN (el l t.toNat) ∧ (blkM (el l t.toNat) (sumZ l t.toNat) x x_1 = [] → False)) ∧ (0 = (x_1 : Int) ∧ (true = true ↔
leastP (el l t.toNat) x x_1) ∧ False ∧ True) ∧ False ∧ True) ∧ (∀ (x_1 : Nat), x_1 ≤ dN (el l t.toNat) ∧ blkM (el l t.toNat) (sumZ l t.toNat) x x_1 = [] → dN (el l t.toNat) - x_1 < LIM ∧ ((x_1 : Int) < sizeT' (el l
t.toNat) → 0 ≤ (x_1 : Int) ∧ (x_1 : Int) < (↑(distRow (sizeT' (el l t.toNat)).toNat (tShape (el l t.toNat)) (tA (el l t.toNat)) (tB (el l t.toNat)) (x : Int)).length : Int) ∧ (0 ≤ (nthD (distRow (sizeT' (el l
t.toNat)).toNat (tShape (el l t.toNat)) (tA (el l t.toNat)) (tB (el l t.toNat)) (x : Int)) x_1).asInt → (leastP (el l t.toNat) x x_1 → (0 ≤ t ∧ t ≤ (l.len : Int) ∧ l.len ≤ 100) ∧ ((-9223372036854775808) ≤ sumZ l t.toNat
+ (x_1 : Int) ∧ sumZ l t.toNat + (x_1 : Int) < 9223372036854775808) ∧ 0 + 1 ≤ [D.int (sumZ l t.toNat + (x_1 : Int))].length ∧ (1 : Nat) ≤ 16777216 ∧ ((-9223372036854775808) ≤ (x_1 : Int) + 1 ∧ (x_1 : Int) + 1 <
9223372036854775808) ∧ ((∃ (y : Nat), (y ≤ dN (el l t.toNat) ∧ blkM (el l t.toNat) (sumZ l t.toNat) x y = []) ∧ dN (el l t.toNat) - y < dN (el l t.toNat) - x_1 ∧ ((x_1 : Int) + 1 = (y : Int) ∧ ((x : Int) ≤ (x_1 : Int) ↔
leastP (el l t.toNat) x y) ∧ False ∧ True) ∧ True) ∨ ∃ (y : Nat), (y ≤ dN (el l t.toNat) ∧ (blkM (el l t.toNat) (sumZ l t.toNat) x y = [] → False)) ∧ dN (el l t.toNat) - y < dN (el l t.toNat) - x_1 ∧ ((x_1 : Int) + 1 =
(y : Int) ∧ ((x : Int) ≤ (x_1 : Int) ↔ leastP (el l t.toNat) x y) ∧ ((0 : Nat) = 0 ∧ 1 = (blkM (el l t.toNat) (sumZ l t.toNat) x y).length ∧ True) ∧ True) ∧ List.take 1 [D.int (sumZ l t.toNat + (x_1 : Int))] = blkM (el l
t.toNat) (sumZ l t.toNat) x y ∧ True)) ∧ ((leastP (el l t.toNat) x x_1 → False) → (0 ≤ t ∧ t ≤ (l.len : Int) ∧ l.len ≤ 100) ∧ ((-9223372036854775808) ≤ sumZ l t.toNat + (x_1 : Int) ∧ sumZ l t.toNat + (x_1 : Int) <
9223372036854775808) ∧ 0 + 1 ≤ [D.int (sumZ l t.toNat + (x_1 : Int))].length ∧ (1 : Nat) ≤ 16777216 ∧ ((-9223372036854775808) ≤ (x_1 : Int) + 1 ∧ (x_1 : Int) + 1 < 9223372036854775808) ∧ ((∃ (y : Nat), (y ≤ dN (el l
t.toNat) ∧ blkM (el l t.toNat) (sumZ l t.toNat) x y = []) ∧ dN (el l t.toNat) - y < dN (el l t.toNat) - x_1 ∧ ((x_1 : Int) + 1 = (y : Int) ∧ (false = true ↔ leastP (el l t.toNat) x y) ∧ False ∧ True) ∧ True) ∨ ∃ (y :
Nat), (y ≤ dN (el l t.toNat) ∧ (blkM (el l t.toNat) (sumZ l t.toNat) x y = [] → False)) ∧ dN (el l t.toNat) - y < dN (el l t.toNat) - x_1 ∧ ((x_1 : Int) + 1 = (y : Int) ∧ (false = true ↔ leastP (el l t.toNat) x y) ∧ ((0
: Nat) = 0 ∧ 1 = (blkM (el l t.toNat) (sumZ l t.toNat) x y).length ∧ True) ∧ True) ∧ List.take 1 [D.int (sumZ l t.toNat + (x_1 : Int))] = blkM (el l t.toNat) (sumZ l t.toNat) x y ∧ True))) ∧ ((0 ≤ (nthD (distRow (sizeT'
(el l t.toNat)).toNat (tShape (el l t.toNat)) (tA (el l t.toNat)) (tB (el l t.toNat)) (x : Int)) x_1).asInt → False) → ((-9223372036854775808) ≤ (x_1 : Int) + 1 ∧ (x_1 : Int) + 1 < 9223372036854775808) ∧ ((∃ (y : Nat),
(y ≤ dN (el l t.toNat) ∧ blkM (el l t.toNat) (sumZ l t.toNat) x y = []) ∧ dN (el l t.toNat) - y < dN (el l t.toNat) - x_1 ∧ ((x_1 : Int) + 1 = (y : Int) ∧ (leastP (el l t.toNat) x x_1 ↔ leastP (el l t.toNat) x y) ∧ True
∧ True) ∧ True) ∨ ∃ (y : Nat), (y ≤ dN (el l t.toNat) ∧ (blkM (el l t.toNat) (sumZ l t.toNat) x y = [] → False)) ∧ dN (el l t.toNat) - y < dN (el l t.toNat) - x_1 ∧ ((x_1 : Int) + 1 = (y : Int) ∧ (leastP (el l t.toNat) x
x_1 ↔ leastP (el l t.toNat) x y) ∧ False ∧ True) ∧ False ∧ True))) ∧ (((x_1 : Int) < sizeT' (el l t.toNat) → False) → (leastP (el l t.toNat) x x_1 → 0 + 1 ≤ [D.nil].length ∧ (1 : Nat) ≤ 16777216 ∧ ((-9223372036854775808)
≤ (x : Int) + 1 ∧ (x : Int) + 1 < 9223372036854775808) ∧ ((∃ (y : Nat), (y ≤ dN (el l t.toNat) ∧ blkX (el l t.toNat) (sumZ l t.toNat) y = []) ∧ dN (el l t.toNat) - y < dN (el l t.toNat) - x ∧ ((x : Int) + 1 = (y : Int) ∧
False ∧ True) ∧ True) ∨ ∃ (y : Nat), (y ≤ dN (el l t.toNat) ∧ (blkX (el l t.toNat) (sumZ l t.toNat) y = [] → False)) ∧ dN (el l t.toNat) - y < dN (el l t.toNat) - x ∧ ((x : Int) + 1 = (y : Int) ∧ ((0 : Nat) = 0 ∧ 1 =
(blkX (el l t.toNat) (sumZ l t.toNat) y).length ∧ True) ∧ True) ∧ List.take 1 [D.nil] = blkX (el l t.toNat) (sumZ l t.toNat) y ∧ True)) ∧ ((leastP (el l t.toNat) x x_1 → False) → ((-9223372036854775808) ≤ (x : Int) + 1 ∧
(x : Int) + 1 < 9223372036854775808) ∧ ((∃ (y : Nat), (y ≤ dN (el l t.toNat) ∧ blkX (el l t.toNat) (sumZ l t.toNat) y = []) ∧ dN (el l t.toNat) - y < dN (el l t.toNat) - x ∧ ((x : Int) + 1 = (y : Int) ∧ True ∧ True) ∧
True) ∨ ∃ (y : Nat), (y ≤ dN (el l t.toNat) ∧ (blkX (el l t.toNat) (sumZ l t.toNat) y = [] → False)) ∧ dN (el l t.toNat) - y < dN (el l t.toNat) - x ∧ ((x : Int) + 1 = (y : Int) ∧ False ∧ True) ∧ False ∧ True)))) ∧ ∀
(x_1 : Nat), x_1 ≤ dN (el l t.toNat) ∧ (blkM (el l t.toNat) (sumZ l t.toNat) x x_1 = [] → False) → dN (el l t.toNat) - x_1 < LIM ∧ ((x_1 : Int) < sizeT' (el l t.toNat) → 0 ≤ (x_1 : Int) ∧ (x_1 : Int) < (↑(distRow (sizeT'
(el l t.toNat)).toNat (tShape (el l t.toNat)) (tA (el l t.toNat)) (tB (el l t.toNat)) (x : Int)).length : Int) ∧ (0 ≤ (nthD (distRow (sizeT' (el l t.toNat)).toNat (tShape (el l t.toNat)) (tA (el l t.toNat)) (tB (el l
t.toNat)) (x : Int)) x_1).asInt → (leastP (el l t.toNat) x x_1 → (0 ≤ t ∧ t ≤ (l.len : Int) ∧ l.len ≤ 100) ∧ ((-9223372036854775808) ≤ sumZ l t.toNat + (x_1 : Int) ∧ sumZ l t.toNat + (x_1 : Int) < 9223372036854775808) ∧
0 + 1 ≤ [D.int (sumZ l t.toNat + (x_1 : Int))].length ∧ 0 + (blkM (el l t.toNat) (sumZ l t.toNat) x x_1).length ≤ (blkM (el l t.toNat) (sumZ l t.toNat) x x_1).length ∧ (blkM (el l t.toNat) (sumZ l t.toNat) x x_1).length
+ 1 ≤ 16777216 ∧ ((-9223372036854775808) ≤ (x_1 : Int) + 1 ∧ (x_1 : Int) + 1 < 9223372036854775808) ∧ ((∃ (y : Nat), (y ≤ dN (el l t.toNat) ∧ blkM (el l t.toNat) (sumZ l t.toNat) x y = []) ∧ dN (el l t.toNat) - y < dN
(el l t.toNat) - x_1 ∧ ((x_1 : Int) + 1 = (y : Int) ∧ ((x : Int) ≤ (x_1 : Int) ↔ leastP (el l t.toNat) x y) ∧ False ∧ True) ∧ True) ∨ ∃ (y : Nat), (y ≤ dN (el l t.toNat) ∧ (blkM (el l t.toNat) (sumZ l t.toNat) x y = [] →
False)) ∧ dN (el l t.toNat) - y < dN (el l t.toNat) - x_1 ∧ ((x_1 : Int) + 1 = (y : Int) ∧ ((x : Int) ≤ (x_1 : Int) ↔ leastP (el l t.toNat) x y) ∧ ((0 : Nat) = 0 ∧ (blkM (el l t.toNat) (sumZ l t.toNat) x x_1).length + 1
= (blkM (el l t.toNat) (sumZ l t.toNat) x y).length ∧ True) ∧ True) ∧ List.take (blkM (el l t.toNat) (sumZ l t.toNat) x x_1).length (blkM (el l t.toNat) (sumZ l t.toNat) x x_1) ++ List.take 1 [D.int (sumZ l t.toNat +
(x_1 : Int))] = blkM (el l t.toNat) (sumZ l t.toNat) x y ∧ True)) ∧ ((leastP (el l t.toNat) x x_1 → False) → (0 ≤ t ∧ t ≤ (l.len : Int) ∧ l.len ≤ 100) ∧ ((-9223372036854775808) ≤ sumZ l t.toNat + (x_1 : Int) ∧ sumZ l
t.toNat + (x_1 : Int) < 9223372036854775808) ∧ 0 + 1 ≤ [D.int (sumZ l t.toNat + (x_1 : Int))].length ∧ 0 + (blkM (el l t.toNat) (sumZ l t.toNat) x x_1).length ≤ (blkM (el l t.toNat) (sumZ l t.toNat) x x_1).length ∧ (blkM
(el l t.toNat) (sumZ l t.toNat) x x_1).length + 1 ≤ 16777216 ∧ ((-9223372036854775808) ≤ (x_1 : Int) + 1 ∧ (x_1 : Int) + 1 < 9223372036854775808) ∧ ((∃ (y : Nat), (y ≤ dN (el l t.toNat) ∧ blkM (el l t.toNat) (sumZ l
t.toNat) x y = []) ∧ dN (el l t.toNat) - y < dN (el l t.toNat) - x_1 ∧ ((x_1 : Int) + 1 = (y : Int) ∧ (false = true ↔ leastP (el l t.toNat) x y) ∧ False ∧ True) ∧ True) ∨ ∃ (y : Nat), (y ≤ dN (el l t.toNat) ∧ (blkM (el l
t.toNat) (sumZ l t.toNat) x y = [] → False)) ∧ dN (el l t.toNat) - y < dN (el l t.toNat) - x_1 ∧ ((x_1 : Int) + 1 = (y : Int) ∧ (false = true ↔ leastP (el l t.toNat) x y) ∧ ((0 : Nat) = 0 ∧ (blkM (el l t.toNat) (sumZ l
t.toNat) x x_1).length + 1 = (blkM (el l t.toNat) (sumZ l t.toNat) x y).length ∧ True) ∧ True) ∧ List.take (blkM (el l t.toNat) (sumZ l t.toNat) x x_1).length (blkM (el l t.toNat) (sumZ l t.toNat) x x_1) ++ List.take 1
[D.int (sumZ l t.toNat + (x_1 : Int))] = blkM (el l t.toNat) (sumZ l t.toNat) x y ∧ True))) ∧ ((0 ≤ (nthD (distRow (sizeT' (el l t.toNat)).toNat (tShape (el l t.toNat)) (tA (el l t.toNat)) (tB (el l t.toNat)) (x : Int))
x_1).asInt → False) → ((-9223372036854775808) ≤ (x_1 : Int) + 1 ∧ (x_1 : Int) + 1 < 9223372036854775808) ∧ ((∃ (y : Nat), (y ≤ dN (el l t.toNat) ∧ blkM (el l t.toNat) (sumZ l t.toNat) x y = []) ∧ dN (el l t.toNat) - y <
dN (el l t.toNat) - x_1 ∧ ((x_1 : Int) + 1 = (y : Int) ∧ (leastP (el l t.toNat) x x_1 ↔ leastP (el l t.toNat) x y) ∧ False ∧ True) ∧ True) ∨ ∃ (y : Nat), (y ≤ dN (el l t.toNat) ∧ (blkM (el l t.toNat) (sumZ l t.toNat) x y
= [] → False)) ∧ dN (el l t.toNat) - y < dN (el l t.toNat) - x_1 ∧ ((x_1 : Int) + 1 = (y : Int) ∧ (leastP (el l t.toNat) x x_1 ↔ leastP (el l t.toNat) x y) ∧ ((0 : Nat) = 0 ∧ (blkM (el l t.toNat) (sumZ l t.toNat) x
x_1).length = (blkM (el l t.toNat) (sumZ l t.toNat) x y).length ∧ True) ∧ True) ∧ blkM (el l t.toNat) (sumZ l t.toNat) x x_1 = blkM (el l t.toNat) (sumZ l t.toNat) x y ∧ True))) ∧ (((x_1 : Int) < sizeT' (el l t.toNat) →
False) → (leastP (el l t.toNat) x x_1 → 0 + (blkM (el l t.toNat) (sumZ l t.toNat) x x_1).length ≤ (blkM (el l t.toNat) (sumZ l t.toNat) x x_1).length ∧ 0 + 1 ≤ [D.list (List.take (blkM (el l t.toNat) (sumZ l t.toNat) x
x_1).length (blkM (el l t.toNat) (sumZ l t.toNat) x x_1))].length ∧ (1 : Nat) ≤ 16777216 ∧ ((-9223372036854775808) ≤ (x : Int) + 1 ∧ (x : Int) + 1 < 9223372036854775808) ∧ ((∃ (y : Nat), (y ≤ dN (el l t.toNat) ∧ blkX (el
l t.toNat) (sumZ l t.toNat) y = []) ∧ dN (el l t.toNat) - y < dN (el l t.toNat) - x ∧ ((x : Int) + 1 = (y : Int) ∧ False ∧ True) ∧ True) ∨ ∃ (y : Nat), (y ≤ dN (el l t.toNat) ∧ (blkX (el l t.toNat) (sumZ l t.toNat) y =
[] → False)) ∧ dN (el l t.toNat) - y < dN (el l t.toNat) - x ∧ ((x : Int) + 1 = (y : Int) ∧ ((0 : Nat) = 0 ∧ 1 = (blkX (el l t.toNat) (sumZ l t.toNat) y).length ∧ True) ∧ True) ∧ List.take 1 [D.list (List.take (blkM (el
l t.toNat) (sumZ l t.toNat) x x_1).length (blkM (el l t.toNat) (sumZ l t.toNat) x x_1))] = blkX (el l t.toNat) (sumZ l t.toNat) y ∧ True)) ∧ ((leastP (el l t.toNat) x x_1 → False) → ((-9223372036854775808) ≤ (x : Int) +
1 ∧ (x : Int) + 1 < 9223372036854775808) ∧ ((∃ (y : Nat), (y ≤ dN (el l t.toNat) ∧ blkX (el l t.toNat) (sumZ l t.toNat) y = []) ∧ dN (el l t.toNat) - y < dN (el l t.toNat) - x ∧ ((x : Int) + 1 = (y : Int) ∧ True ∧ True)
∧ True) ∨ ∃ (y : Nat), (y ≤ dN (el l t.toNat) ∧ (blkX (el l t.toNat) (sumZ l t.toNat) y = [] → False)) ∧ dN (el l t.toNat) - y < dN (el l t.toNat) - x ∧ ((x : Int) + 1 = (y : Int) ∧ False ∧ True) ∧ False ∧ True)))) ∧
(((x : Int) < sizeT' (el l t.toNat) → False) → D.nil = D.list (blkX (el l t.toNat) (sumZ l t.toNat) (dN (el l t.toNat))))) ∧ ∀ (x : Nat), x ≤ dN (el l t.toNat) ∧ (blkX (el l t.toNat) (sumZ l t.toNat) x = [] → False) → dN
(el l t.toNat) - x < LIM ∧ ((x : Int) < sizeT' (el l t.toNat) → 0 ≤ t ∧ t < (l.len : Int) ∧ inTab (tShape (el l t.toNat)) (tA (el l t.toNat)) (tB (el l t.toNat)) (x : Int) ∧ ((∃ (x_1 : Nat), (x_1 ≤ dN (el l t.toNat) ∧
blkM (el l t.toNat) (sumZ l t.toNat) x x_1 = []) ∧ (0 = (x_1 : Int) ∧ (true = true ↔ leastP (el l t.toNat) x x_1) ∧ True ∧ True) ∧ True) ∨ ∃ (x_1 : Nat), (x_1 ≤ dN (el l t.toNat) ∧ (blkM (el l t.toNat) (sumZ l t.toNat) x
x_1 = [] → False)) ∧ (0 = (x_1 : Int) ∧ (true = true ↔ leastP (el l t.toNat) x x_1) ∧ False ∧ True) ∧ False ∧ True) ∧ (∀ (x_1 : Nat), x_1 ≤ dN (el l t.toNat) ∧ blkM (el l t.toNat) (sumZ l t.toNat) x x_1 = [] → dN (el l
t.toNat) - x_1 < LIM ∧ ((x_1 : Int) < sizeT' (el l t.toNat) → 0 ≤ (x_1 : Int) ∧ (x_1 : Int) < (↑(distRow (sizeT' (el l t.toNat)).toNat (tShape (el l t.toNat)) (tA (el l t.toNat)) (tB (el l t.toNat)) (x : Int)).length :
Int) ∧ (0 ≤ (nthD (distRow (sizeT' (el l t.toNat)).toNat (tShape (el l t.toNat)) (tA (el l t.toNat)) (tB (el l t.toNat)) (x : Int)) x_1).asInt → (leastP (el l t.toNat) x x_1 → (0 ≤ t ∧ t ≤ (l.len : Int) ∧ l.len ≤ 100) ∧
((-9223372036854775808) ≤ sumZ l t.toNat + (x_1 : Int) ∧ sumZ l t.toNat + (x_1 : Int) < 9223372036854775808) ∧ 0 + 1 ≤ [D.int (sumZ l t.toNat + (x_1 : Int))].length ∧ (1 : Nat) ≤ 16777216 ∧ ((-9223372036854775808) ≤ (x_1
: Int) + 1 ∧ (x_1 : Int) + 1 < 9223372036854775808) ∧ ((∃ (y : Nat), (y ≤ dN (el l t.toNat) ∧ blkM (el l t.toNat) (sumZ l t.toNat) x y = []) ∧ dN (el l t.toNat) - y < dN (el l t.toNat) - x_1 ∧ ((x_1 : Int) + 1 = (y :
Int) ∧ ((x : Int) ≤ (x_1 : Int) ↔ leastP (el l t.toNat) x y) ∧ False ∧ True) ∧ True) ∨ ∃ (y : Nat), (y ≤ dN (el l t.toNat) ∧ (blkM (el l t.toNat) (sumZ l t.toNat) x y = [] → False)) ∧ dN (el l t.toNat) - y < dN (el l
t.toNat) - x_1 ∧ ((x_1 : Int) + 1 = (y : Int) ∧ ((x : Int) ≤ (x_1 : Int) ↔ leastP (el l t.toNat) x y) ∧ ((0 : Nat) = 0 ∧ 1 = (blkM (el l t.toNat) (sumZ l t.toNat) x y).length ∧ True) ∧ True) ∧ List.take 1 [D.int (sumZ l
t.toNat + (x_1 : Int))] = blkM (el l t.toNat) (sumZ l t.toNat) x y ∧ True)) ∧ ((leastP (el l t.toNat) x x_1 → False) → (0 ≤ t ∧ t ≤ (l.len : Int) ∧ l.len ≤ 100) ∧ ((-9223372036854775808) ≤ sumZ l t.toNat + (x_1 : Int) ∧
sumZ l t.toNat + (x_1 : Int) < 9223372036854775808) ∧ 0 + 1 ≤ [D.int (sumZ l t.toNat + (x_1 : Int))].length ∧ (1 : Nat) ≤ 16777216 ∧ ((-9223372036854775808) ≤ (x_1 : Int) + 1 ∧ (x_1 : Int) + 1 < 9223372036854775808) ∧
((∃ (y : Nat), (y ≤ dN (el l t.toNat) ∧ blkM (el l t.toNat) (sumZ l t.toNat) x y = []) ∧ dN (el l t.toNat) - y < dN (el l t.toNat) - x_1 ∧ ((x_1 : Int) + 1 = (y : Int) ∧ (false = true ↔ leastP (el l t.toNat) x y) ∧ False
∧ True) ∧ True) ∨ ∃ (y : Nat), (y ≤ dN (el l t.toNat) ∧ (blkM (el l t.toNat) (sumZ l t.toNat) x y = [] → False)) ∧ dN (el l t.toNat) - y < dN (el l t.toNat) - x_1 ∧ ((x_1 : Int) + 1 = (y : Int) ∧ (false = true ↔ leastP
(el l t.toNat) x y) ∧ ((0 : Nat) = 0 ∧ 1 = (blkM (el l t.toNat) (sumZ l t.toNat) x y).length ∧ True) ∧ True) ∧ List.take 1 [D.int (sumZ l t.toNat + (x_1 : Int))] = blkM (el l t.toNat) (sumZ l t.toNat) x y ∧ True))) ∧ ((0
≤ (nthD (distRow (sizeT' (el l t.toNat)).toNat (tShape (el l t.toNat)) (tA (el l t.toNat)) (tB (el l t.toNat)) (x : Int)) x_1).asInt → False) → ((-9223372036854775808) ≤ (x_1 : Int) + 1 ∧ (x_1 : Int) + 1 <
9223372036854775808) ∧ ((∃ (y : Nat), (y ≤ dN (el l t.toNat) ∧ blkM (el l t.toNat) (sumZ l t.toNat) x y = []) ∧ dN (el l t.toNat) - y < dN (el l t.toNat) - x_1 ∧ ((x_1 : Int) + 1 = (y : Int) ∧ (leastP (el l t.toNat) x
x_1 ↔ leastP (el l t.toNat) x y) ∧ True ∧ True) ∧ True) ∨ ∃ (y : Nat), (y ≤ dN (el l t.toNat) ∧ (blkM (el l t.toNat) (sumZ l t.toNat) x y = [] → False)) ∧ dN (el l t.toNat) - y < dN (el l t.toNat) - x_1 ∧ ((x_1 : Int) +
1 = (y : Int) ∧ (leastP (el l t.toNat) x x_1 ↔ leastP (el l t.toNat) x y) ∧ False ∧ True) ∧ False ∧ True))) ∧ (((x_1 : Int) < sizeT' (el l t.toNat) → False) → (leastP (el l t.toNat) x x_1 → 0 + 1 ≤ [D.nil].length ∧ 0 +
(blkX (el l t.toNat) (sumZ l t.toNat) x).length ≤ (blkX (el l t.toNat) (sumZ l t.toNat) x).length ∧ (blkX (el l t.toNat) (sumZ l t.toNat) x).length + 1 ≤ 16777216 ∧ ((-9223372036854775808) ≤ (x : Int) + 1 ∧ (x : Int) + 1
< 9223372036854775808) ∧ ((∃ (y : Nat), (y ≤ dN (el l t.toNat) ∧ blkX (el l t.toNat) (sumZ l t.toNat) y = []) ∧ dN (el l t.toNat) - y < dN (el l t.toNat) - x ∧ ((x : Int) + 1 = (y : Int) ∧ False ∧ True) ∧ True) ∨ ∃ (y :
Nat), (y ≤ dN (el l t.toNat) ∧ (blkX (el l t.toNat) (sumZ l t.toNat) y = [] → False)) ∧ dN (el l t.toNat) - y < dN (el l t.toNat) - x ∧ ((x : Int) + 1 = (y : Int) ∧ ((0 : Nat) = 0 ∧ (blkX (el l t.toNat) (sumZ l t.toNat)
x).length + 1 = (blkX (el l t.toNat) (sumZ l t.toNat) y).length ∧ True) ∧ True) ∧ List.take (blkX (el l t.toNat) (sumZ l t.toNat) x).length (blkX (el l t.toNat) (sumZ l t.toNat) x) ++ List.take 1 [D.nil] = blkX (el l
t.toNat) (sumZ l t.toNat) y ∧ True)) ∧ ((leastP (el l t.toNat) x x_1 → False) → ((-9223372036854775808) ≤ (x : Int) + 1 ∧ (x : Int) + 1 < 9223372036854775808) ∧ ((∃ (y : Nat), (y ≤ dN (el l t.toNat) ∧ blkX (el l t.toNat)
(sumZ l t.toNat) y = []) ∧ dN (el l t.toNat) - y < dN (el l t.toNat) - x ∧ ((x : Int) + 1 = (y : Int) ∧ False ∧ True) ∧ True) ∨ ∃ (y : Nat), (y ≤ dN (el l t.toNat) ∧ (blkX (el l t.toNat) (sumZ l t.toNat) y = [] → False))
∧ dN (el l t.toNat) - y < dN (el l t.toNat) - x ∧ ((x : Int) + 1 = (y : Int) ∧ ((0 : Nat) = 0 ∧ (blkX (el l t.toNat) (sumZ l t.toNat) x).length = (blkX (el l t.toNat) (sumZ l t.toNat) y).length ∧ True) ∧ True) ∧ blkX (el
l t.toNat) (sumZ l t.toNat) x = blkX (el l t.toNat) (sumZ l t.toNat) y ∧ True)))) ∧ ∀ (x_1 : Nat), x_1 ≤ dN (el l t.toNat) ∧ (blkM (el l t.toNat) (sumZ l t.toNat) x x_1 = [] → False) → dN (el l t.toNat) - x_1 < LIM ∧
((x_1 : Int) < sizeT' (el l t.toNat) → 0 ≤ (x_1 : Int) ∧ (x_1 : Int) < (↑(distRow (sizeT' (el l t.toNat)).toNat (tShape (el l t.toNat)) (tA (el l t.toNat)) (tB (el l t.toNat)) (x : Int)).length : Int) ∧ (0 ≤ (nthD
(distRow (sizeT' (el l t.toNat)).toNat (tShape (el l t.toNat)) (tA (el l t.toNat)) (tB (el l t.toNat)) (x : Int)) x_1).asInt → (leastP (el l t.toNat) x x_1 → (0 ≤ t ∧ t ≤ (l.len : Int) ∧ l.len ≤ 100) ∧
((-9223372036854775808) ≤ sumZ l t.toNat + (x_1 : Int) ∧ sumZ l t.toNat + (x_1 : Int) < 9223372036854775808) ∧ 0 + 1 ≤ [D.int (sumZ l t.toNat + (x_1 : Int))].length ∧ 0 + (blkM (el l t.toNat) (sumZ l t.toNat) x
x_1).length ≤ (blkM (el l t.toNat) (sumZ l t.toNat) x x_1).length ∧ (blkM (el l t.toNat) (sumZ l t.toNat) x x_1).length + 1 ≤ 16777216 ∧ ((-9223372036854775808) ≤ (x_1 : Int) + 1 ∧ (x_1 : Int) + 1 < 9223372036854775808)
∧ ((∃ (y : Nat), (y ≤ dN (el l t.toNat) ∧ blkM (el l t.toNat) (sumZ l t.toNat) x y = []) ∧ dN (el l t.toNat) - y < dN (el l t.toNat) - x_1 ∧ ((x_1 : Int) + 1 = (y : Int) ∧ ((x : Int) ≤ (x_1 : Int) ↔ leastP (el l t.toNat)
x y) ∧ False ∧ True) ∧ True) ∨ ∃ (y : Nat), (y ≤ dN (el l t.toNat) ∧ (blkM (el l t.toNat) (sumZ l t.toNat) x y = [] → False)) ∧ dN (el l t.toNat) - y < dN (el l t.toNat) - x_1 ∧ ((x_1 : Int) + 1 = (y : Int) ∧ ((x : Int)
≤ (x_1 : Int) ↔ leastP (el l t.toNat) x y) ∧ ((0 : Nat) = 0 ∧ (blkM (el l t.toNat) (sumZ l t.toNat) x x_1).length + 1 = (blkM (el l t.toNat) (sumZ l t.toNat) x y).length ∧ True) ∧ True) ∧ List.take (blkM (el l t.toNat)
(sumZ l t.toNat) x x_1).length (blkM (el l t.toNat) (sumZ l t.toNat) x x_1) ++ List.take 1 [D.int (sumZ l t.toNat + (x_1 : Int))] = blkM (el l t.toNat) (sumZ l t.toNat) x y ∧ True)) ∧ ((leastP (el l t.toNat) x x_1 →
False) → (0 ≤ t ∧ t ≤ (l.len : Int) ∧ l.len ≤ 100) ∧ ((-9223372036854775808) ≤ sumZ l t.toNat + (x_1 : Int) ∧ sumZ l t.toNat + (x_1 : Int) < 9223372036854775808) ∧ 0 + 1 ≤ [D.int (sumZ l t.toNat + (x_1 : Int))].length ∧
0 + (blkM (el l t.toNat) (sumZ l t.toNat) x x_1).length ≤ (blkM (el l t.toNat) (sumZ l t.toNat) x x_1).length ∧ (blkM (el l t.toNat) (sumZ l t.toNat) x x_1).length + 1 ≤ 16777216 ∧ ((-9223372036854775808) ≤ (x_1 : Int) +
1 ∧ (x_1 : Int) + 1 < 9223372036854775808) ∧ ((∃ (y : Nat), (y ≤ dN (el l t.toNat) ∧ blkM (el l t.toNat) (sumZ l t.toNat) x y = []) ∧ dN (el l t.toNat) - y < dN (el l t.toNat) - x_1 ∧ ((x_1 : Int) + 1 = (y : Int) ∧
(false = true ↔ leastP (el l t.toNat) x y) ∧ False ∧ True) ∧ True) ∨ ∃ (y : Nat), (y ≤ dN (el l t.toNat) ∧ (blkM (el l t.toNat) (sumZ l t.toNat) x y = [] → False)) ∧ dN (el l t.toNat) - y < dN (el l t.toNat) - x_1 ∧
((x_1 : Int) + 1 = (y : Int) ∧ (false = true ↔ leastP (el l t.toNat) x y) ∧ ((0 : Nat) = 0 ∧ (blkM (el l t.toNat) (sumZ l t.toNat) x x_1).length + 1 = (blkM (el l t.toNat) (sumZ l t.toNat) x y).length ∧ True) ∧ True) ∧
List.take (blkM (el l t.toNat) (sumZ l t.toNat) x x_1).length (blkM (el l t.toNat) (sumZ l t.toNat) x x_1) ++ List.take 1 [D.int (sumZ l t.toNat + (x_1 : Int))] = blkM (el l t.toNat) (sumZ l t.toNat) x y ∧ True))) ∧ ((0
≤ (nthD (distRow (sizeT' (el l t.toNat)).toNat (tShape (el l t.toNat)) (tA (el l t.toNat)) (tB (el l t.toNat)) (x : Int)) x_1).asInt → False) → ((-9223372036854775808) ≤ (x_1 : Int) + 1 ∧ (x_1 : Int) + 1 <
9223372036854775808) ∧ ((∃ (y : Nat), (y ≤ dN (el l t.toNat) ∧ blkM (el l t.toNat) (sumZ l t.toNat) x y = []) ∧ dN (el l t.toNat) - y < dN (el l t.toNat) - x_1 ∧ ((x_1 : Int) + 1 = (y : Int) ∧ (leastP (el l t.toNat) x
x_1 ↔ leastP (el l t.toNat) x y) ∧ False ∧ True) ∧ True) ∨ ∃ (y : Nat), (y ≤ dN (el l t.toNat) ∧ (blkM (el l t.toNat) (sumZ l t.toNat) x y = [] → False)) ∧ dN (el l t.toNat) - y < dN (el l t.toNat) - x_1 ∧ ((x_1 : Int) +
1 = (y : Int) ∧ (leastP (el l t.toNat) x x_1 ↔ leastP (el l t.toNat) x y) ∧ ((0 : Nat) = 0 ∧ (blkM (el l t.toNat) (sumZ l t.toNat) x x_1).length = (blkM (el l t.toNat) (sumZ l t.toNat) x y).length ∧ True) ∧ True) ∧ blkM
(el l t.toNat) (sumZ l t.toNat) x x_1 = blkM (el l t.toNat) (sumZ l t.toNat) x y ∧ True))) ∧ (((x_1 : Int) < sizeT' (el l t.toNat) → False) → (leastP (el l t.toNat) x x_1 → 0 + (blkM (el l t.toNat) (sumZ l t.toNat) x
x_1).length ≤ (blkM (el l t.toNat) (sumZ l t.toNat) x x_1).length ∧ 0 + 1 ≤ [D.list (List.take (blkM (el l t.toNat) (sumZ l t.toNat) x x_1).length (blkM (el l t.toNat) (sumZ l t.toNat) x x_1))].length ∧ 0 + (blkX (el l
t.toNat) (sumZ l t.toNat) x).length ≤ (blkX (el l t.toNat) (sumZ l t.toNat) x).length ∧ (blkX (el l t.toNat) (sumZ l t.toNat) x).length + 1 ≤ 16777216 ∧ ((-9223372036854775808) ≤ (x : Int) + 1 ∧ (x : Int) + 1 <
9223372036854775808) ∧ ((∃ (y : Nat), (y ≤ dN (el l t.toNat) ∧ blkX (el l t.toNat) (sumZ l t.toNat) y = []) ∧ dN (el l t.toNat) - y < dN (el l t.toNat) - x ∧ ((x : Int) + 1 = (y : Int) ∧ False ∧ True) ∧ True) ∨ ∃ (y :
Nat), (y ≤ dN (el l t.toNat) ∧ (blkX (el l t.toNat) (sumZ l t.toNat) y = [] → False)) ∧ dN (el l t.toNat) - y < dN (el l t.toNat) - x ∧ ((x : Int) + 1 = (y : Int) ∧ ((0 : Nat) = 0 ∧ (blkX (el l t.toNat) (sumZ l t.toNat)
x).length + 1 = (blkX (el l t.toNat) (sumZ l t.toNat) y).length ∧ True) ∧ True) ∧ List.take (blkX (el l t.toNat) (sumZ l t.toNat) x).length (blkX (el l t.toNat) (sumZ l t.toNat) x) ++ List.take 1 [D.list (List.take (blkM
(el l t.toNat) (sumZ l t.toNat) x x_1).length (blkM (el l t.toNat) (sumZ l t.toNat) x x_1))] = blkX (el l t.toNat) (sumZ l t.toNat) y ∧ True)) ∧ ((leastP (el l t.toNat) x x_1 → False) → ((-9223372036854775808) ≤ (x :
Int) + 1 ∧ (x : Int) + 1 < 9223372036854775808) ∧ ((∃ (y : Nat), (y ≤ dN (el l t.toNat) ∧ blkX (el l t.toNat) (sumZ l t.toNat) y = []) ∧ dN (el l t.toNat) - y < dN (el l t.toNat) - x ∧ ((x : Int) + 1 = (y : Int) ∧ False
∧ True) ∧ True) ∨ ∃ (y : Nat), (y ≤ dN (el l t.toNat) ∧ (blkX (el l t.toNat) (sumZ l t.toNat) y = [] → False)) ∧ dN (el l t.toNat) - y < dN (el l t.toNat) - x ∧ ((x : Int) + 1 = (y : Int) ∧ ((0 : Nat) = 0 ∧ (blkX (el l
t.toNat) (sumZ l t.toNat) x).length = (blkX (el l t.toNat) (sumZ l t.toNat) y).length ∧ True) ∧ True) ∧ blkX (el l t.toNat) (sumZ l t.toNat) x = blkX (el l t.toNat) (sumZ l t.toNat) y ∧ True)))) ∧ (((x : Int) < sizeT'
(el l t.toNat) → False) → 0 + (blkX (el l t.toNat) (sumZ l t.toNat) x).length ≤ (blkX (el l t.toNat) (sumZ l t.toNat) x).length ∧ D.list (List.take (blkX (el l t.toNat) (sumZ l t.toNat) x).length (blkX (el l t.toNat)
(sumZ l t.toNat) x)) = D.list (blkX (el l t.toNat) (sumZ l t.toNat) (dN (el l t.toNat))))) := by intros; kernel_rfl
theorem vc23 : ∀ (l : D) (t : Int), symFun (ctx hon1 honAnn) 4 (23 : FuncId) [V.dat (22 : TypeId) l, V.int IntKind.i64 t] (V.prop True) = (smallD l ∧ smallD (copyD l) ∧ smallD (copyD l) ∧ ((t < 0 → False) → (((l.len :
Int) ≤ t → False) → smallD l ∧ (((badZ l).snd = 0 → False) → ((↑(honD (copyD l) t).len : Int) = 0 → ((↑(blocksD (copyD l) t).len : Int) = 0 → smallD (copyD l) ∧ (sameAll (copyD l) l ↔ True)) ∧ (((↑(blocksD (copyD l)
t).len : Int) = 0 → False) → (false = true ↔ True))) ∧ (((↑(honD (copyD l) t).len : Int) = 0 → False) → (false = true ↔ True))) ∧ ((((badZ l).snd = 0 → False) → False) → tabOK l t ∧ (honD (copyD l) t).len ≤ 100 ∧ (((honD
(copyD l) t).len = (hoL (el l t.toNat) (sumZ l t.toNat) (dN (el l t.toNat) + 1)).length ∧ ∀ (i : Nat), i < (honD (copyD l) t).len → atI (honD (copyD l) t) i = atI (D.list (hoL (el l t.toNat) (sumZ l t.toNat) (dN (el l
t.toNat) + 1))) i) → tabOK l t ∧ rows100 (blocksD (copyD l) t) ∧ (eqDD (blocksD (copyD l) t) (D.list (blkX (el l t.toNat) (sumZ l t.toNat) (dN (el l t.toNat)))) → smallD (copyD l) ∧ (sameAll (copyD l) l ↔ True)) ∧ ((eqDD
(blocksD (copyD l) t) (D.list (blkX (el l t.toNat) (sumZ l t.toNat) (dN (el l t.toNat)))) → False) → (false = true ↔ True))) ∧ ((((honD (copyD l) t).len = (hoL (el l t.toNat) (sumZ l t.toNat) (dN (el l t.toNat) +
1)).length ∧ ∀ (i : Nat), i < (honD (copyD l) t).len → atI (honD (copyD l) t) i = atI (D.list (hoL (el l t.toNat) (sumZ l t.toNat) (dN (el l t.toNat) + 1))) i) → False) → (false = true ↔ True)))) ∧ ((l.len : Int) ≤ t →
((↑(honD (copyD l) t).len : Int) = 0 → ((↑(blocksD (copyD l) t).len : Int) = 0 → smallD (copyD l) ∧ (sameAll (copyD l) l ↔ True)) ∧ (((↑(blocksD (copyD l) t).len : Int) = 0 → False) → (false = true ↔ True))) ∧ (((↑(honD
(copyD l) t).len : Int) = 0 → False) → (false = true ↔ True)))) ∧ (t < 0 → ((↑(honD (copyD l) t).len : Int) = 0 → ((↑(blocksD (copyD l) t).len : Int) = 0 → smallD (copyD l) ∧ (sameAll (copyD l) l ↔ True)) ∧ (((↑(blocksD
(copyD l) t).len : Int) = 0 → False) → (false = true ↔ True))) ∧ (((↑(honD (copyD l) t).len : Int) = 0 → False) → (false = true ↔ True)))) := by intros; kernel_rfl
theorem vc5 : ∀ (l : D) (t : Int), symFun (ctx hon2 honAnn) 4 (5 : FuncId) [V.dat (22 : TypeId) l, V.int IntKind.i64 t] (V.prop True) = (True ∧ (((fewD l → False) → False) → (fewD l ∧ i64P t) ∧ (True → (true = true ↔
True)) ∧ ((True → False) → (false = true ↔ True))) ∧ ((fewD l → False) → (true = true ↔ True))) := by intros; kernel_rfl
theorem least_lead {d : D} {k : Nat} (hk : k < dN d) : leastP d k (dN d) ↔ ¬ placedP (tShape d) (tA d) (tB d) (dN d) k k := by
 constructor
 ·intro h g
  obtain ⟨m, hm, hr⟩ := g.out
  have := h.out m (by omega) (reach_symm (by omega) hk hr)
  omega
 ·intro h
  refine ⟨fun m hm hr => ?_⟩
  rcases Nat.lt_or_ge m k with e | e
  ·exact absurd ⟨m, e, reach_symm hk hm hr⟩ h
  ·exact e
theorem least_zero {d : D} {k : Nat} : (True ↔ leastP d k 0) := ⟨fun _ => ⟨fun m hm => absurd hm (Nat.not_lt_zero _)⟩, fun _ => trivial⟩
theorem least_far {d : D} {k y : Nat} (h : ¬ reachP (tShape d) (tA d) (tB d) (dN d) k y) : leastP d k y ↔ leastP d k (y + 1) :=
 ⟨fun g => ⟨fun m hm hr => by
  rcases Nat.lt_succ_iff_lt_or_eq.1 hm with e | e
  ·exact g.out m e hr
  ·subst e; exact absurd hr h⟩, fun g => ⟨fun m hm hr => g.out m (by omega) hr⟩⟩
theorem least_near {d : D} {k y : Nat} (h : reachP (tShape d) (tA d) (tB d) (dN d) k y) (g : leastP d k y) : ((k : Int) ≤ (y : Int) ↔ leastP d k (y + 1)) :=
 ⟨fun q => ⟨fun m hm hr => by
  rcases Nat.lt_succ_iff_lt_or_eq.1 hm with e | e
  ·exact g.out m e hr
  ·subst e; omega⟩, fun q => by have := q.out y (by omega) h; omega⟩
theorem least_not {d : D} {k y : Nat} (g : ¬ leastP d k y) : (false = true ↔ leastP d k (y + 1)) := ⟨fun q => (by cases q), fun q => absurd ⟨fun m hm hr => q.out m (by omega) hr⟩ g⟩
theorem s74 (l : D) (t : Int) (h : tabOK l t) : symFun (ctx rh1 honAnn) 4 74 [.dat 22 l, .int .i64 t] (.dat 48 (.list (blkX (el l t.toNat) (sumZ l t.toNat) (dN (el l t.toNat))))) := by
 obtain ⟨h0, h1, h100, hz⟩ := h.out
 rw [vc74]
 have hr := size_range (el l t.toNat)
 have h24 : dN (el l t.toNat) ≤ 24 := by unfold dN; omega
 have hn0 : 0 < dN (el l t.toNat) := by unfold dN; omega
 have hF := sum_small h100 t.toNat (by omega)
 have hsz : sizeT' (el l t.toNat) = (dN (el l t.toNat) : Int) := by unfold dN; omega
 have hdd : (sizeT' (el l t.toNat)).toNat = dN (el l t.toNat) := rfl
 have hin : ∀ x : Nat, (x : Int) < (dN (el l t.toNat) : Int) → inTab (tShape (el l t.toNat)) (tA (el l t.toNat)) (tB (el l t.toNat)) x := fun x hx => ⟨hz, by omega, by show (x : Int) < sizeT' (el l t.toNat); omega⟩
 have hdl : ∀ x : Int, (distRow (dN (el l t.toNat)) (tShape (el l t.toNat)) (tA (el l t.toNat)) (tB (el l t.toNat)) x).length = dN (el l t.toNat) := fun x => len_dist _ _ _ _ _
 have hdn : ∀ (x y : Nat), y < dN (el l t.toNat) → ((0 : Int) ≤ (nthD (distRow (dN (el l t.toNat)) (tShape (el l t.toNat)) (tA (el l t.toNat)) (tB (el l t.toNat)) (x : Int)) y).asInt ↔ reachP (tShape (el l t.toNat)) (tA (el l t.toNat)) (tB (el l t.toNat)) (dN (el l t.toNat)) x y) := fun x y hy => by
  unfold distRow; rw [nth_rowN _ hy, Int.toNat_natCast]; exact ⟨fun h => ⟨h⟩, fun h => h.out⟩
 have hX : ∀ x, blkX (el l t.toNat) (sumZ l t.toNat) x = blkL (tShape (el l t.toNat)) (tA (el l t.toNat)) (tB (el l t.toNat)) (sumZ l t.toNat) (dN (el l t.toNat)) x := fun _ => rfl
 have hM : ∀ x y, blkM (el l t.toNat) (sumZ l t.toNat) x y = blkMem (tShape (el l t.toNat)) (tA (el l t.toNat)) (tB (el l t.toNat)) (sumZ l t.toNat) (dN (el l t.toNat)) x y := fun _ _ => rfl
 simp only [hX, hM, hdd, hdl, imp_false]
 rw [hsz]
 refine ⟨h0, h1, trivial, .inl ⟨0, ⟨Nat.zero_le _, rfl⟩, ⟨rfl, trivial, trivial⟩, trivial⟩, ?_⟩
 generalize sumZ l t.toNat = F at *
 generalize el l t.toNat = d at *
 have hL : ∀ m : Nat, m ≤ 64 → m < LIM := fun m h => by unfold LIM; omega
 have inner : ∀ (x : Nat), x < dN d → ∀ (Q1 Q2 : Prop) , True := fun _ _ _ _ => trivial
 clear inner hX hM
 refine ⟨fun x hx => ⟨hL _ (by omega), fun hlt => ?_, fun hge => ?_⟩, fun x hx => ⟨hL _ (by omega), fun hlt => ?_, fun hge => ?_⟩⟩
 ·have hxn : x < dN d := by omega
  refine ⟨h0, h1, hin x hlt, .inl ⟨0, ⟨Nat.zero_le _, rfl⟩, ⟨rfl, least_zero, trivial, trivial⟩, trivial⟩, fun y hy => ⟨hL _ (by omega), fun hly => ?_, fun hgy => ?_⟩, fun y hy => ⟨hL _ (by omega), fun hly => ?_, fun hgy => ?_⟩⟩
  ·have hyn : y < dN d := by omega
   rw [hdn x y hyn]
   refine ⟨by omega, by omega, fun hr => ⟨fun hg => ⟨⟨h0, by omega, h100⟩, by omega, by simp, by omega, by omega, .inr ⟨y + 1, ⟨by omega, ?_⟩, by omega, ⟨by omega, least_near hr hg, ⟨trivial, ?_, trivial⟩, trivial⟩, ?_, trivial⟩⟩, fun hg => ⟨⟨h0, by omega, h100⟩, by omega, by simp, by omega, by omega, .inr ⟨y + 1, ⟨by omega, ?_⟩, by omega, ⟨by omega, least_not hg, ⟨trivial, ?_, trivial⟩, trivial⟩, ?_, trivial⟩⟩⟩, fun hr => ⟨by omega, .inl ⟨y + 1, ⟨by omega, by rw [bm_far hr]; exact hy.2⟩, by omega, ⟨by omega, least_far hr, trivial, trivial⟩, trivial⟩⟩⟩
   all_goals rw [bm_near hr, hy.2]; simp
  ·have : y = dN d := by omega
   subst this
   exact absurd hy.2 (bm_self hxn)
  ·have hyn : y < dN d := by omega
   have hbl := bm_len (sh := tShape d) (a := tA d) (b := tB d) (first := F) (n := dN d) x y
   rw [hdn x y hyn]
   refine ⟨by omega, by omega, fun hr => ⟨fun hg => ⟨⟨h0, by omega, h100⟩, by omega, by simp, by omega, by omega, by omega, .inr ⟨y + 1, ⟨by omega, ?_⟩, by omega, ⟨by omega, least_near hr hg, ⟨trivial, ?_, trivial⟩, trivial⟩, ?_, trivial⟩⟩, fun hg => ⟨⟨h0, by omega, h100⟩, by omega, by simp, by omega, by omega, by omega, .inr ⟨y + 1, ⟨by omega, ?_⟩, by omega, ⟨by omega, least_not hg, ⟨trivial, ?_, trivial⟩, trivial⟩, ?_, trivial⟩⟩⟩, fun hr => ⟨by omega, .inr ⟨y + 1, ⟨by omega, by rw [bm_far hr]; exact hy.2⟩, by omega, ⟨by omega, least_far hr, ⟨trivial, by rw [bm_far hr], trivial⟩, trivial⟩, by rw [bm_far hr], trivial⟩⟩⟩
   all_goals rw [bm_near hr]; simp
  ·have : y = dN d := by omega
   subst this
   refine ⟨fun hg => ⟨by omega, by simp, by omega, by omega, .inr ⟨x + 1, ⟨by omega, ?_⟩, by omega, ⟨by omega, ⟨trivial, ?_, trivial⟩, trivial⟩, ?_, trivial⟩⟩, fun hg => ⟨by omega, .inl ⟨x + 1, ⟨by omega, by rw [bl_skip (Classical.not_not.1 fun q => hg ((least_lead hxn).2 q))]; exact hx.2⟩, by omega, ⟨by omega, trivial, trivial⟩, trivial⟩⟩⟩
   all_goals rw [bl_lead ((least_lead hxn).1 hg), hx.2]; simp
 ·have : x = dN d := by omega
  subst this
  exfalso
  have h0' : ¬ placedP (tShape d) (tA d) (tB d) (dN d) 0 0 := fun h => by obtain ⟨k, hk, _⟩ := h.out; omega
  have : (D.list (blkMem (tShape d) (tA d) (tB d) F (dN d) 0 (dN d))) ∈ blkL (tShape d) (tA d) (tB d) F (dN d) (dN d) := by
   unfold blkL
   exact List.mem_map.2 ⟨0, List.mem_filter.2 ⟨List.mem_range.2 hn0, by simp [h0']⟩, rfl⟩
  rw [hx.2] at this; cases this
 ·have hxn : x < dN d := by omega
  have hxl := bl_len (sh := tShape d) (a := tA d) (b := tB d) (first := F) (n := dN d) x
  refine ⟨h0, h1, hin x hlt, .inl ⟨0, ⟨Nat.zero_le _, rfl⟩, ⟨rfl, least_zero, trivial, trivial⟩, trivial⟩, fun y hy => ⟨hL _ (by omega), fun hly => ?_, fun hgy => ?_⟩, fun y hy => ⟨hL _ (by omega), fun hly => ?_, fun hgy => ?_⟩⟩
  ·have hyn : y < dN d := by omega
   rw [hdn x y hyn]
   refine ⟨by omega, by omega, fun hr => ⟨fun hg => ⟨⟨h0, by omega, h100⟩, by omega, by simp, by omega, by omega, .inr ⟨y + 1, ⟨by omega, ?_⟩, by omega, ⟨by omega, least_near hr hg, ⟨trivial, ?_, trivial⟩, trivial⟩, ?_, trivial⟩⟩, fun hg => ⟨⟨h0, by omega, h100⟩, by omega, by simp, by omega, by omega, .inr ⟨y + 1, ⟨by omega, ?_⟩, by omega, ⟨by omega, least_not hg, ⟨trivial, ?_, trivial⟩, trivial⟩, ?_, trivial⟩⟩⟩, fun hr => ⟨by omega, .inl ⟨y + 1, ⟨by omega, by rw [bm_far hr]; exact hy.2⟩, by omega, ⟨by omega, least_far hr, trivial, trivial⟩, trivial⟩⟩⟩
   all_goals rw [bm_near hr, hy.2]; simp
  ·have : y = dN d := by omega
   subst this
   exact absurd hy.2 (bm_self hxn)
  ·have hyn : y < dN d := by omega
   have hbl := bm_len (sh := tShape d) (a := tA d) (b := tB d) (first := F) (n := dN d) x y
   rw [hdn x y hyn]
   refine ⟨by omega, by omega, fun hr => ⟨fun hg => ⟨⟨h0, by omega, h100⟩, by omega, by simp, by omega, by omega, by omega, .inr ⟨y + 1, ⟨by omega, ?_⟩, by omega, ⟨by omega, least_near hr hg, ⟨trivial, ?_, trivial⟩, trivial⟩, ?_, trivial⟩⟩, fun hg => ⟨⟨h0, by omega, h100⟩, by omega, by simp, by omega, by omega, by omega, .inr ⟨y + 1, ⟨by omega, ?_⟩, by omega, ⟨by omega, least_not hg, ⟨trivial, ?_, trivial⟩, trivial⟩, ?_, trivial⟩⟩⟩, fun hr => ⟨by omega, .inr ⟨y + 1, ⟨by omega, by rw [bm_far hr]; exact hy.2⟩, by omega, ⟨by omega, least_far hr, ⟨trivial, by rw [bm_far hr], trivial⟩, trivial⟩, by rw [bm_far hr], trivial⟩⟩⟩
   all_goals rw [bm_near hr]; simp
  ·have : y = dN d := by omega
   subst this
   refine ⟨fun hg => ⟨by omega, by simp, by omega, by omega, by omega, .inr ⟨x + 1, ⟨by omega, ?_⟩, by omega, ⟨by omega, ⟨trivial, ?_, trivial⟩, trivial⟩, ?_, trivial⟩⟩, fun hg => ?_⟩
   ·rw [bl_lead ((least_lead hxn).1 hg)]; simp
   ·rw [bl_lead ((least_lead hxn).1 hg)]; simp
   ·rw [bl_lead ((least_lead hxn).1 hg)]; simp
   ·have hp := Classical.not_not.1 fun q => hg ((least_lead hxn).2 q)
    exact ⟨by omega, .inr ⟨x + 1, ⟨by omega, by rw [bl_skip hp]; exact hx.2⟩, by omega, ⟨by omega, ⟨trivial, by rw [bl_skip hp], trivial⟩, trivial⟩, by rw [bl_skip hp], trivial⟩⟩
 ·have : x = dN d := by omega
  subst this
  exact ⟨by omega, by rw [List.take_length]⟩
theorem c_hasT (l : D) (t : Int) : hasT (copyD l) t = hasT l t := propext ⟨fun h => ⟨by have := h.out; rw [copy_dlen, c_ok] at this; exact this⟩, fun h => ⟨by rw [copy_dlen, c_ok]; exact h.out⟩⟩
theorem c_fields (l : D) (i : Nat) : tShape (el (copyD l) i) = tShape (el l i) ∧ tA (el (copyD l) i) = tA (el l i) ∧ tB (el (copyD l) i) = tB (el l i) := by
 rcases copy_el l i with ⟨_, h⟩ | ⟨h, h'⟩
 ·rw [h]; exact ⟨rfl, rfl, rfl⟩
 ·rw [h, h']; exact ⟨rfl, rfl, rfl⟩
theorem hoL_congr {d d' : D} (h1 : tShape d = tShape d') (h2 : tA d = tA d') (h3 : tB d = tB d') (F : Int) : ∀ x, hoL d F x = hoL d' F x
 | 0 => rfl
 | x + 1 => by
  show hoL d F x ++ hoP d F x (dN d) = hoL d' F x ++ hoP d' F x (dN d')
  rw [hoL_congr h1 h2 h3 F x]
  unfold hoP lvN dN sizeT'
  rw [h1, h2, h3]
theorem c_honD (l : D) (t : Int) : honD (copyD l) t = honD l t := by
 obtain ⟨h1, h2, h3⟩ := c_fields l t.toNat
 unfold honD
 rw [c_hasT, c_sum, hoL_congr h1 h2 h3, show dN (el (copyD l) t.toNat) = dN (el l t.toNat) by unfold dN; rw [c_size]]
theorem c_blocksD (l : D) (t : Int) : blocksD (copyD l) t = blocksD l t := by
 obtain ⟨h1, h2, h3⟩ := c_fields l t.toNat
 unfold blocksD blkX dN
 rw [c_hasT, c_sum, h1, h2, h3, c_size]
theorem hoP_sum {d : D} {F : Int} : ∀ x, (hoL d F x).length = ((List.range x).map fun (v : Nat) => (List.range (dN d)).countP fun k => decide (lvN d k = v)).sum
 | 0 => rfl
 | x + 1 => by
  rw [List.range_succ, List.map_append, List.sum_append, ← hoP_sum (d := d) (F := F) x]
  show (hoL d F x ++ hoP d F x (dN d)).length = _
  rw [List.length_append]
  unfold hoP
  rw [List.length_map, ← List.countP_eq_length_filter]; simp
theorem count_le1 (z : Int) : ∀ x : Nat, (List.range x).countP (fun (v : Nat) => decide (z = v)) ≤ 1
 | 0 => Nat.zero_le _
 | x + 1 => by
  rw [List.range_succ, List.countP_append]
  by_cases h : z = (x : Int)
  ·have h0 : (List.range x).countP (fun (v : Nat) => decide (z = v)) = 0 := by
    rw [List.countP_eq_zero]
    intro v hv hp
    have := List.mem_range.1 hv
    have : z = v := by simpa using hp
    omega
   rw [h0]; simp [h]
  ·have := count_le1 z x
   simp [h]; exact this
theorem sum_swap (p : Nat → Nat → Bool) (us : List Nat) : ∀ bs : List Nat, (us.map fun a => bs.countP fun b => p a b).sum = (bs.map fun b => us.countP fun a => p a b).sum
 | [] => by
  have hz : ∀ l : List Nat, (l.map fun _ => 0).sum = 0 := fun l => by induction l with | nil => rfl | cons a l ih => simp [ih]
  simpa using hz us
 | b :: bs => by
  have step : ∀ us : List Nat, (us.map fun a => (b :: bs).countP fun b => p a b).sum = (us.map fun a => bs.countP fun b => p a b).sum + us.countP (fun a => p a b) := by
   intro us
   induction us with
   | nil => rfl
   | cons a us ih =>
    rw [List.map_cons, List.map_cons, List.sum_cons, List.sum_cons, ih]
    cases hp : p a b <;> simp [List.countP_cons, hp] <;> omega
  rw [step, sum_swap p us bs, List.map_cons, List.sum_cons]; omega
theorem hoL_all {d : D} {F : Int} : (hoL d F (dN d + 1)).length ≤ dN d := by
 rw [hoP_sum, sum_swap (fun v k => decide (lvN d k = (v : Int)))]
 have : ∀ l : List Nat, (l.map fun k => (List.range (dN d + 1)).countP fun (v : Nat) => decide (lvN d k = (v : Int))).sum ≤ l.length := by
  intro l
  induction l with
  | nil => exact Nat.le_refl _
  | cons k l ih =>
   rw [List.map_cons, List.sum_cons, List.length_cons]
   have := count_le1 (lvN d k) (dN d + 1)
   omega
 have h := this (List.range (dN d))
 rw [List.length_range] at h; exact h
theorem s23 (l : D) (t : Int) (hf : fewD l) (ht : i64P t) : symFun (ctx hon1 honAnn) 4 23 [.dat 22 l, .int .i64 t] (.prop True) := by
 have hsm : smallD l := ⟨by have := hf.out.1; omega, fun i hi => by have := (hf.out.2 i hi).out.2; omega⟩
 have hc := c_small hsm
 have hs := c_same l
 rw [vc23, c_honD, c_blocksD]
 have same : sameAll (copyD l) l ↔ True := ⟨fun _ => trivial, fun _ => hs⟩
 have none_ : ¬ hasT l t → ((((honD l t).len : Int) = 0 → ((((blocksD l t).len : Int) = 0 → smallD (copyD l) ∧ (sameAll (copyD l) l ↔ True)) ∧ ((((blocksD l t).len : Int) = 0 → False) → (false = true ↔ True)))) ∧ ((((honD l t).len : Int) = 0 → False) → (false = true ↔ True))) := fun h => by
  have e1 : honD l t = .nil := by unfold honD; rw [if_neg h]
  have e2 : blocksD l t = .nil := by unfold blocksD; rw [if_neg h]
  rw [e1, e2]
  exact ⟨fun _ => ⟨fun _ => ⟨hc, same⟩, fun g => absurd rfl g⟩, fun g => absurd rfl g⟩
 refine ⟨hsm, hc, hc, fun h0 => ⟨fun h1 => ⟨hsm, fun h2 => none_ fun h => h2 h.out.2.2.out, fun h2 => ?_⟩, fun h1 => none_ fun h => by have := h.out.2.1; omega⟩, fun h0 => none_ fun h => by have := h.out.1; omega⟩
 have h0 : ¬ t < 0 := h0
 have h1 : ¬ (l.len : Int) ≤ t := h1
 have hok : okHall l := ⟨Classical.not_not.1 h2⟩
 obtain ⟨hse, hl16⟩ := seated_ok hsm hok
 have hz := hse.out.2 t.toNat (by omega)
 have hT : hasT l t := ⟨by omega, by omega, hok⟩
 have htab : tabOK l t := ⟨by omega, by omega, by omega, hz⟩
 have hr := size_range (el l t.toNat)
 have h24 : dN (el l t.toNat) ≤ 24 := by unfold dN; omega
 have eh : honD l t = .list (hoL (el l t.toNat) (sumZ l t.toNat) (dN (el l t.toNat) + 1)) := by unfold honD; rw [if_pos hT]
 have eb : blocksD l t = .list (blkX (el l t.toNat) (sumZ l t.toNat) (dN (el l t.toNat))) := by unfold blocksD; rw [if_pos hT]
 have hcnt := hoL_all (F := sumZ l t.toNat) (d := el l t.toNat)
 rw [eh, eb]
 refine ⟨htab, by show (hoL _ _ _).length ≤ 100; omega, fun _ => ⟨htab, ⟨?_, fun i hi => ?_⟩, fun _ => ⟨hc, same⟩, fun g => absurd ⟨rfl, fun i hi => ⟨rfl, fun j hj => rfl⟩⟩ g⟩, fun g => absurd ⟨rfl, fun i hi => rfl⟩ g⟩
 ·have := bl_len (sh := tShape (el l t.toNat)) (a := tA (el l t.toNat)) (b := tB (el l t.toNat)) (first := sumZ l t.toNat) (n := dN (el l t.toNat)) (dN (el l t.toNat))
  show (blkL _ _ _ _ _ _).length ≤ 100
  omega
 ·have hi : i < (blkX (el l t.toNat) (sumZ l t.toNat) (dN (el l t.toNat))).length := hi
  have hm : nthD (blkX (el l t.toNat) (sumZ l t.toNat) (dN (el l t.toNat))) i ∈ blkX (el l t.toNat) (sumZ l t.toNat) (dN (el l t.toNat)) := by rw [nthD_get _ _ hi]; exact List.getElem_mem _
  show (nthD (blkX (el l t.toNat) (sumZ l t.toNat) (dN (el l t.toNat))) i).len ≤ 100
  generalize nthD (blkX (el l t.toNat) (sumZ l t.toNat) (dN (el l t.toNat))) i = b at *
  unfold blkX blkL at hm
  obtain ⟨k, _, rfl⟩ := List.mem_map.1 hm
  have := bm_len (sh := tShape (el l t.toNat)) (a := tA (el l t.toNat)) (b := tB (el l t.toNat)) (first := sumZ l t.toNat) (n := dN (el l t.toNat)) k (dN (el l t.toNat))
  show (blkMem _ _ _ _ _ _ _).length ≤ 100
  omega
theorem s5 (l : D) (t : Int) (ht : i64P t) : symFun (ctx hon2 honAnn) 4 5 [.dat 22 l, .int .i64 t] (.prop True) := by
 rw [vc5]
 exact ⟨trivial, fun h => ⟨⟨Classical.not_not.1 h, ht⟩, fun _ => ⟨fun _ => trivial, fun _ => rfl⟩, fun g => absurd trivial g⟩, fun _ => ⟨fun _ => trivial, fun _ => rfl⟩⟩
end Go.Ev

end

section
open Go.Proofs
namespace Go.Ev
set_option maxRecDepth 100000
set_option maxHeartbeats 4000000
section
variable {d : D} {F : Int}
theorem hoP_mem {v y : Nat} {u : D} (h : u ∈ hoP d F v y) : ∃ k : Nat, k < y ∧ lvN d k = v ∧ u = .int (F + k) := by
 unfold hoP at h
 obtain ⟨k, hk, rfl⟩ := List.mem_map.1 h
 exact ⟨k, List.mem_range.1 (List.mem_filter.1 hk).1, by simpa using (List.mem_filter.1 hk).2, rfl⟩
theorem hoL_mem2 : ∀ {x : Nat} {u : D}, u ∈ hoL d F x → ∃ k : Nat, k < dN d ∧ 0 ≤ lvN d k ∧ lvN d k < x ∧ u = .int (F + k)
 | 0, u, h => by cases h
 | x + 1, u, h => by
  rcases List.mem_append.1 (show u ∈ hoL d F x ++ hoP d F x (dN d) from h) with g | g
  ·obtain ⟨k, h1, h2, h3, h4⟩ := hoL_mem2 g
   exact ⟨k, h1, h2, by omega, h4⟩
  ·obtain ⟨k, h1, h2, h3⟩ := hoP_mem g
   exact ⟨k, h1, by omega, by omega, h3⟩
structure befP (d : D) (F : Int) (u w : D) : Prop where
 out : ∃ k m : Nat, u = .int (F + k) ∧ w = .int (F + m) ∧ (lvN d k < lvN d m ∨ (lvN d k = lvN d m ∧ k < m))
theorem hoL_sorted : ∀ x, (hoL d F x).Pairwise (befP d F)
 | 0 => List.Pairwise.nil
 | x + 1 => by
  show (hoL d F x ++ hoP d F x (dN d)).Pairwise (befP d F)
  rw [List.pairwise_append]
  refine ⟨hoL_sorted x, ?_, fun u hu w hw => ?_⟩
  ·unfold hoP
   rw [List.pairwise_map]
   have h1 : ((List.range (dN d)).filter fun k => decide (lvN d k = (x : Int))).Pairwise fun a b => a < b := List.Pairwise.filter _ List.pairwise_lt_range
   have h2 := List.Pairwise.and_mem.1 h1
   refine h2.imp fun {a b} ⟨ha, hb, hab⟩ => ?_
   have e1 : lvN d a = x := by simpa using (List.mem_filter.1 ha).2
   have e2 : lvN d b = x := by simpa using (List.mem_filter.1 hb).2
   exact ⟨a, b, rfl, rfl, .inr ⟨by rw [e1, e2], hab⟩⟩
  ·obtain ⟨k, h1, h2, h3, rfl⟩ := hoL_mem2 hu
   obtain ⟨m, h4, h5, rfl⟩ := hoP_mem hw
   exact ⟨k, m, rfl, rfl, .inl (by omega)⟩
theorem count_eq1 {z : Int} : ∀ {x : Nat}, 0 ≤ z → z < x → (List.range x).countP (fun (v : Nat) => decide (z = v)) = 1
 | 0, h0, h1 => by omega
 | x + 1, h0, h1 => by
  rw [List.range_succ, List.countP_append]
  by_cases h : z = (x : Int)
  ·have hz : (List.range x).countP (fun (v : Nat) => decide (z = v)) = 0 := by
    rw [List.countP_eq_zero]
    intro v hv hp
    have := List.mem_range.1 hv
    have : z = v := by simpa using hp
    omega
   rw [hz]; simp [h]
  ·have := count_eq1 (z := z) (x := x) h0 (by omega)
   simp [h]; exact this
theorem hoL_count (hr : ∀ k, k < dN d → 0 ≤ lvN d k ∧ lvN d k ≤ dN d) : (hoL d F (dN d + 1)).length = dN d := by
 rw [hoP_sum, sum_swap (fun v k => decide (lvN d k = (v : Int)))]
 have : ∀ l : List Nat, (∀ k ∈ l, k < dN d) → (l.map fun k => (List.range (dN d + 1)).countP fun (v : Nat) => decide (lvN d k = (v : Int))).sum = l.length := by
  intro l
  induction l with
  | nil => intro _; rfl
  | cons k l ih =>
   intro hl
   rw [List.map_cons, List.sum_cons, List.length_cons, ih fun m hm => hl m (List.mem_cons_of_mem _ hm)]
   have := hr k (hl k List.mem_cons_self)
   rw [count_eq1 this.1 (by omega)]; omega
 have h := this (List.range (dN d)) fun k hk => List.mem_range.1 hk
 rw [List.length_range] at h; exact h
theorem hoL_in {k : Nat} (hk : k < dN d) (h0 : 0 ≤ lvN d k) : ∀ {x : Nat}, lvN d k < x → D.int (F + k) ∈ hoL d F x
 | 0, h => by omega
 | x + 1, h => by
  refine List.mem_append.2 ?_
  by_cases g : lvN d k < x
  ·exact .inl (hoL_in hk h0 g)
  ·exact .inr (List.mem_map.2 ⟨k, List.mem_filter.2 ⟨List.mem_range.2 hk, by simp; omega⟩, rfl⟩)
end
section
variable {d : D} {s : Nat}
end
end Go.Ev

end

section
open Go.Proofs
namespace Go.Ev
set_option maxRecDepth 100000
set_option maxHeartbeats 4000000
theorem vc101 : ∀ (a b : Int), symFun (ctxF seat5 onAnn (fun _ _ => []) fun _ _ => none) 4 (101 : FuncId) [V.int IntKind.i64 a, V.int IntKind.i64 b] (V.int IntKind.i64 (cmpZ a b)) = (((a = a → False) → ((b = b → False) →
0 = cmpZ a b) ∧ (((b = b → False) → False) → (-1) = cmpZ a b)) ∧ (((a = a → False) → False) → ((b = b → False) → 1 = cmpZ a b) ∧ (((b = b → False) → False) → (a < b → (-1) = cmpZ a b) ∧ ((a < b → False) → (b < a → 1 =
cmpZ a b) ∧ ((b < a → False) → 0 = cmpZ a b))))) := by intros; kernel_rfl
theorem vc112 : ∀ (l : D), symFun (ctxF seat5 onAnn (fun _ _ => []) fun _ _ => none) 4 (112 : FuncId) [V.dat (29 : TypeId) l] (V.int IntKind.i64 (orZ l)) = ((∃ (x : Nat), (x ≤ l.len ∧ zeroP l x) ∧ (0 = (x : Int) ∧ True)
∧ True) ∧ ∀ (x : Nat), x ≤ l.len ∧ zeroP l x → l.len - x < LIM ∧ ((x : Int) < (l.len : Int) → 0 ≤ (x : Int) ∧ (x : Int) < (l.len : Int) ∧ (((el l x).asInt = 0 → False) → (el l x).asInt = orZ l) ∧ ((((el l x).asInt = 0 →
False) → False) → ((-9223372036854775808) ≤ (x : Int) + 1 ∧ (x : Int) + 1 < 9223372036854775808) ∧ ∃ (y : Nat), (y ≤ l.len ∧ zeroP l y) ∧ l.len - y < l.len - x ∧ ((x : Int) + 1 = (y : Int) ∧ True) ∧ True)) ∧ (((x : Int)
< (l.len : Int) → False) → 0 = orZ l)) := by intros; kernel_rfl
theorem vc51 : ∀ (l : D) (t : Int), symFun (ctxF on1 onAnn (fun _ _ => []) fun _ _ => none) 5 (51 : FuncId) [V.dat (22 : TypeId) l, V.int IntKind.i64 t] (V.dat (29 : TypeId) (honD l t)) = ((0 ≤ t → (t < (l.len : Int) →
smallD l ∧ ((okHall l → False) → D.nil = honD l t) ∧ (((okHall l → False) → False) → (0 ≤ t ∧ t ≤ (l.len : Int) ∧ seatedD l) ∧ 0 ≤ t ∧ t < (l.len : Int) ∧ (sizeT' (el l t.toNat) = 0 → False) ∧ 0 ≤ (↑(levelRow (tShape (el
l t.toNat)) (tA (el l t.toNat)) (tB (el l t.toNat))).length : Int) ∧ (↑(levelRow (tShape (el l t.toNat)) (tA (el l t.toNat)) (tB (el l t.toNat))).length : Int) ≤ (↑(levelRow (tShape (el l t.toNat)) (tA (el l t.toNat))
(tB (el l t.toNat))).length : Int) ∧ (↑(levelRow (tShape (el l t.toNat)) (tA (el l t.toNat)) (tB (el l t.toNat))).length : Int) ≤ 16777216 ∧ (ctxF on1 onAnn (fun _ _ => []) fun (x : FuncId) (x_1 : Nat) =>
none).P.types[3].bytes * (levelRow (tShape (el l t.toNat)) (tA (el l t.toNat)) (tB (el l t.toNat))).length ≤ 281474976710656 ∧ (∃ (x : Nat), x.le (List.replicate (levelRow (tShape (el l t.toNat)) (tA (el l t.toNat)) (tB
(el l t.toNat))).length (D.int 0)).length ∧ (0 = (x : Int) ∧ True) ∧ List.replicate (levelRow (tShape (el l t.toNat)) (tA (el l t.toNat)) (tB (el l t.toNat))).length (D.int 0) = rowH (sumZ l t.toNat) (List.replicate
(levelRow (tShape (el l t.toNat)) (tA (el l t.toNat)) (tB (el l t.toNat))).length (D.int 0)).length x ∧ True) ∧ ∀ (x : Nat), x.le (List.replicate (levelRow (tShape (el l t.toNat)) (tA (el l t.toNat)) (tB (el l
t.toNat))).length (D.int 0)).length → (List.replicate (levelRow (tShape (el l t.toNat)) (tA (el l t.toNat)) (tB (el l t.toNat))).length (D.int 0)).length - x < LIM ∧ ((x : Int) < (↑(levelRow (tShape (el l t.toNat)) (tA
(el l t.toNat)) (tB (el l t.toNat))).length : Int) → ((-9223372036854775808) ≤ sumZ l t.toNat + (x : Int) ∧ sumZ l t.toNat + (x : Int) < 9223372036854775808) ∧ 0 ≤ (x : Int) ∧ (x : Int) < (↑(levelRow (tShape (el l
t.toNat)) (tA (el l t.toNat)) (tB (el l t.toNat))).length : Int) ∧ x < (rowH (sumZ l t.toNat) (List.replicate (levelRow (tShape (el l t.toNat)) (tA (el l t.toNat)) (tB (el l t.toNat))).length (D.int 0)).length x).length
∧ ((-9223372036854775808) ≤ (x : Int) + 1 ∧ (x : Int) + 1 < 9223372036854775808) ∧ ∃ (y : Nat), y.le (List.replicate (levelRow (tShape (el l t.toNat)) (tA (el l t.toNat)) (tB (el l t.toNat))).length (D.int 0)).length ∧
(List.replicate (levelRow (tShape (el l t.toNat)) (tA (el l t.toNat)) (tB (el l t.toNat))).length (D.int 0)).length - y < (List.replicate (levelRow (tShape (el l t.toNat)) (tA (el l t.toNat)) (tB (el l t.toNat))).length
(D.int 0)).length - x ∧ ((x : Int) + 1 = (y : Int) ∧ True) ∧ (rowH (sumZ l t.toNat) (List.replicate (levelRow (tShape (el l t.toNat)) (tA (el l t.toNat)) (tB (el l t.toNat))).length (D.int 0)).length x).set x (D.int
(sumZ l t.toNat + (x : Int))) = rowH (sumZ l t.toNat) (List.replicate (levelRow (tShape (el l t.toNat)) (tA (el l t.toNat)) (tB (el l t.toNat))).length (D.int 0)).length y ∧ True) ∧ (((x : Int) < (↑(levelRow (tShape (el
l t.toNat)) (tA (el l t.toNat)) (tB (el l t.toNat))).length : Int) → False) → 0 < (levelRow (tShape (el l t.toNat)) (tA (el l t.toNat)) (tB (el l t.toNat))).length ∧ (levelRow (tShape (el l t.toNat)) (tA (el l t.toNat))
(tB (el l t.toNat))).length ≤ 16777216 ∧ 0 + (levelRow (tShape (el l t.toNat)) (tA (el l t.toNat)) (tB (el l t.toNat))).length ≤ (rowH (sumZ l t.toNat) (List.replicate (levelRow (tShape (el l t.toNat)) (tA (el l
t.toNat)) (tB (el l t.toNat))).length (D.int 0)).length x).length ∧ intL (List.take (levelRow (tShape (el l t.toNat)) (tA (el l t.toNat)) (tB (el l t.toNat))).length (rowH (sumZ l t.toNat) (List.replicate (levelRow
(tShape (el l t.toNat)) (tA (el l t.toNat)) (tB (el l t.toNat))).length (D.int 0)).length x)) ∧ ∃ (ss : List Int), sortP (List.map D.asInt (List.take (levelRow (tShape (el l t.toNat)) (tA (el l t.toNat)) (tB (el l
t.toNat))).length (rowH (sumZ l t.toNat) (List.replicate (levelRow (tShape (el l t.toNat)) (tA (el l t.toNat)) (tB (el l t.toNat))).length (D.int 0)).length x))) ss ∧ (∀ (x y : Int), List.Mem x ss → List.Mem y ss →
((-9223372036854775808) ≤ x - sumZ l t.toNat ∧ x - sumZ l t.toNat < 9223372036854775808) ∧ 0 ≤ x - sumZ l t.toNat ∧ x - sumZ l t.toNat < (↑(levelRow (tShape (el l t.toNat)) (tA (el l t.toNat)) (tB (el l t.toNat))).length
: Int) ∧ ((-9223372036854775808) ≤ y - sumZ l t.toNat ∧ y - sumZ l t.toNat < 9223372036854775808) ∧ 0 ≤ y - sumZ l t.toNat ∧ y - sumZ l t.toNat < (↑(levelRow (tShape (el l t.toNat)) (tA (el l t.toNat)) (tB (el l
t.toNat))).length : Int) ∧ True ∧ True ∧ 0 + 2 ≤ [D.int (cmpZ (nthD (levelRow (tShape (el l t.toNat)) (tA (el l t.toNat)) (tB (el l t.toNat))) (x - sumZ l t.toNat).toNat).asInt (nthD (levelRow (tShape (el l t.toNat)) (tA
(el l t.toNat)) (tB (el l t.toNat))) (y - sumZ l t.toNat).toNat).asInt), D.int (cmpZ x y)].length ∧ (List.take 2 [D.int (cmpZ (nthD (levelRow (tShape (el l t.toNat)) (tA (el l t.toNat)) (tB (el l t.toNat))) (x - sumZ l
t.toNat).toNat).asInt (nthD (levelRow (tShape (el l t.toNat)) (tA (el l t.toNat)) (tB (el l t.toNat))) (y - sumZ l t.toNat).toNat).asInt), D.int (cmpZ x y)]).length ≤ 100 ∧ ordP ss x y (orZ (D.list (List.take 2 [D.int
(cmpZ (nthD (levelRow (tShape (el l t.toNat)) (tA (el l t.toNat)) (tB (el l t.toNat))) (x - sumZ l t.toNat).toNat).asInt (nthD (levelRow (tShape (el l t.toNat)) (tA (el l t.toNat)) (tB (el l t.toNat))) (y - sumZ l
t.toNat).toNat).asInt), D.int (cmpZ x y)])))) ∧ 0 + (levelRow (tShape (el l t.toNat)) (tA (el l t.toNat)) (tB (el l t.toNat))).length ≤ (List.take 0 (rowH (sumZ l t.toNat) (List.replicate (levelRow (tShape (el l
t.toNat)) (tA (el l t.toNat)) (tB (el l t.toNat))).length (D.int 0)).length x) ++ List.map D.int ss ++ List.drop (0 + (levelRow (tShape (el l t.toNat)) (tA (el l t.toNat)) (tB (el l t.toNat))).length) (rowH (sumZ l
t.toNat) (List.replicate (levelRow (tShape (el l t.toNat)) (tA (el l t.toNat)) (tB (el l t.toNat))).length (D.int 0)).length x)).length ∧ D.list (List.take (levelRow (tShape (el l t.toNat)) (tA (el l t.toNat)) (tB (el l
t.toNat))).length (List.take 0 (rowH (sumZ l t.toNat) (List.replicate (levelRow (tShape (el l t.toNat)) (tA (el l t.toNat)) (tB (el l t.toNat))).length (D.int 0)).length x) ++ List.map D.int ss ++ List.drop (0 +
(levelRow (tShape (el l t.toNat)) (tA (el l t.toNat)) (tB (el l t.toNat))).length) (rowH (sumZ l t.toNat) (List.replicate (levelRow (tShape (el l t.toNat)) (tA (el l t.toNat)) (tB (el l t.toNat))).length (D.int
0)).length x))) = honD l t))) ∧ ((t < (l.len : Int) → False) → D.nil = honD l t)) ∧ ((0 ≤ t → False) → D.nil = honD l t)) := by intros; kernel_rfl
theorem s101 (a b : Int) : symFun (ctxF seat5 onAnn (fun _ _ => []) (fun _ _ => none)) 4 101 [.int .i64 a, .int .i64 b] (.int .i64 (cmpZ a b)) := by
 rw [vc101]
 refine ⟨fun h => absurd rfl h, fun _ => ⟨fun h => absurd rfl h, fun _ => ⟨fun h => ?_, fun h => ⟨fun h2 => ?_, fun h2 => ?_⟩⟩⟩⟩
 ·unfold cmpZ; rw [if_pos h]
 ·unfold cmpZ; rw [if_neg h, if_pos h2]
 ·unfold cmpZ; rw [if_neg h, if_neg h2]
theorem orL_zero : ∀ L : List D, (∀ j, j < L.length → (nthD L j).asInt = 0) → orL L = 0
 | [], _ => rfl
 | d :: r, h => by
  have h0 : d.asInt = 0 := h 0 (by simp)
  unfold orL; rw [if_pos h0]
  exact orL_zero r fun j hj => h (j + 1) (by simp; omega)
theorem orL_at : ∀ (L : List D) (x : Nat), x < L.length → (∀ j, j < x → (nthD L j).asInt = 0) → (nthD L x).asInt ≠ 0 → orL L = (nthD L x).asInt
 | [], x, h, _, _ => by simp at h
 | d :: r, 0, _, _, h => by
  have h : d.asInt ≠ 0 := h
  unfold orL; rw [if_neg h]; rfl
 | d :: r, x + 1, hx, h0, h => by
  have e : d.asInt = 0 := h0 0 (by omega)
  unfold orL; rw [if_pos e]
  exact orL_at r x (by simp at hx; omega) (fun j hj => h0 (j + 1) (by omega)) h
theorem s112 (l : D) (hl : l.len ≤ 100) : symFun (ctxF seat5 onAnn (fun _ _ => []) (fun _ _ => none)) 4 112 [.dat 29 l] (.int .i64 (orZ l)) := by
 rw [vc112]
 have hL : ∀ m : Nat, m ≤ 200 → m < LIM := fun m h => by unfold LIM; omega
 refine ⟨⟨0, ⟨Nat.zero_le _, ⟨fun j hj => absurd hj (Nat.not_lt_zero _)⟩⟩, ⟨rfl, trivial⟩, trivial⟩, fun x hx => ⟨hL _ (by omega), fun hlt => ?_, fun hge => ?_⟩⟩
 ·have hlx : x < l.asList.length := by have : x < l.len := by omega
                                       exact this
  refine ⟨by omega, hlt, fun hne => ?_, fun he => ?_⟩
  ·exact (orL_at l.asList x hlx hx.2.out hne).symm
  ·have he : (el l x).asInt = 0 := Classical.not_not.1 he
   refine ⟨by omega, x + 1, ⟨by omega, ⟨fun j hj => ?_⟩⟩, by omega, ⟨by omega, trivial⟩, trivial⟩
   rcases Nat.lt_succ_iff_lt_or_eq.1 hj with g | g
   ·exact hx.2.out j g
   ·rw [g]; exact he
 ·have hge : ¬ (x : Int) < (l.len : Int) := hge
  have : x = l.len := by omega
  subst this
  exact (orL_zero l.asList hx.2.out).symm
theorem rowH_len (F : Int) {n x : Nat} (h : x ≤ n) : (rowH F n x).length = n := by unfold rowH; simp; omega
theorem rowH_zero (F : Int) (n : Nat) : rowH F n 0 = List.replicate n (D.int 0) := by simp [rowH]
theorem rowH_full (F : Int) (n : Nat) : rowH F n n = (List.range n).map fun (k : Nat) => D.int (F + k) := by simp [rowH]
theorem rowH_set (F : Int) {n x : Nat} (h : x < n) : (rowH F n x).set x (.int (F + x)) = rowH F n (x + 1) := by
 unfold rowH
 rw [List.set_append_right _ _ (by simp), List.range_succ, List.map_append, List.append_assoc]
 congr 1
 simp only [List.length_map, List.length_range, Nat.sub_self]
 rw [show n - x = (n - (x + 1)) + 1 by omega, List.replicate_succ]
 rfl
theorem hoL_ints {d : D} {F : Int} : ∀ u, u ∈ hoL d F (dN d + 1) → ∃ k : Nat, k < dN d ∧ u = .int (F + k) := fun u hu => by
 obtain ⟨k, h1, _, _, h4⟩ := hoL_mem2 hu; exact ⟨k, h1, h4⟩
theorem s51 (l : D) (t : Int) (hsm : smallD l) : symFun (ctxF on1 onAnn (fun _ _ => []) (fun _ _ => none)) 5 51 [.dat 22 l, .int .i64 t] (.dat 29 (honD l t)) := by
 rw [vc51]
 simp only [imp_false, Classical.not_not]
 have no : ¬ hasT l t → D.nil = honD l t := fun h => by unfold honD; rw [if_neg h]
 refine ⟨fun h0 => ⟨fun h1 => ⟨hsm, fun hn => no fun hh => hn hh.out.2.2, fun ho => ?_⟩, fun h1 => no fun hh => h1 hh.out.2.1⟩, fun h0 => no fun hh => h0 hh.out.1⟩
 have h1' : t.toNat < l.len := by omega
 have hseat := ok_seated hsm ho
 have hz := hseat.out.2 _ h1'
 have h100 := hsm.out.1
 have hlv : (levelRow (tShape (el l t.toNat)) (tA (el l t.toNat)) (tB (el l t.toNat))).length = dN (el l t.toNat) := len_levelRow _ _ _
 have hr := size_range (el l t.toNat)
 have h24 : dN (el l t.toNat) ≤ 24 := by unfold dN; omega
 have hn0 : 0 < dN (el l t.toNat) := by unfold dN; omega
 have hF := sum_small h100 t.toNat (by omega)
 have hin := hon_in (show sizeZ (tShape (el l t.toNat)) (tA (el l t.toNat)) (tB (el l t.toNat)) ≠ 0 from hz)
 have hh : (honZ (tShape (el l t.toNat)) (tA (el l t.toNat)) (tB (el l t.toNat))).toNat < dN (el l t.toNat) := by
  have := hin.out.2; show _ < (sizeZ _ _ _).toNat; omega
 have hlvN : ∀ y, (nthD (levelRow (tShape (el l t.toNat)) (tA (el l t.toNat)) (tB (el l t.toNat))) y).asInt = lvN (el l t.toNat) y := fun _ => rfl
 have hrange : ∀ k, k < dN (el l t.toNat) → 0 ≤ lvN (el l t.toNat) k ∧ lvN (el l t.toNat) k ≤ dN (el l t.toNat) := fun k hk => lv_range hk hh
 have hhon : honD l t = .list (hoL (el l t.toNat) (sumZ l t.toNat) (dN (el l t.toNat) + 1)) := by unfold honD; rw [if_pos ⟨h0, h1, ho⟩]
 have e3 : (ctxF on1 onAnn (fun _ _ => []) (fun _ _ => none)).P.types[(3 : Nat)].bytes = 8 := rfl
 rw [hhon, e3]
 simp only [hlv, hlvN, List.length_replicate]
 have hcnt := hoL_count (d := el l t.toNat) (F := sumZ l t.toNat) hrange
 have hsort := hoL_sorted (d := el l t.toNat) (F := sumZ l t.toNat) (dN (el l t.toNat) + 1)
 have hall : ∀ {k : Nat}, k < dN (el l t.toNat) → D.int (sumZ l t.toNat + k) ∈ hoL (el l t.toNat) (sumZ l t.toNat) (dN (el l t.toNat) + 1) := fun hk => hoL_in hk (hrange _ hk).1 (by have := (hrange _ hk).2; omega)
 have hints := hoL_ints (d := el l t.toNat) (F := sumZ l t.toNat)
 have hL : ∀ m : Nat, m ≤ 64 → m < LIM := fun m h => by unfold LIM; omega
 generalize sumZ l t.toNat = F at *
 generalize el l t.toNat = d at *
 clear hlvN hlv hin hh hhon e3
 refine ⟨⟨h0, by omega, hseat⟩, h0, h1, hz, by omega, by omega, by omega, by omega, ⟨0, Nat.zero_le _, ⟨rfl, trivial⟩, (rowH_zero _ _).symm, trivial⟩, fun x hx => ?_⟩
 have hx : x ≤ dN d := hx
 refine ⟨hL _ (by omega), fun hlt => ?_, fun hge => ?_⟩
 ·exact ⟨by omega, by omega, hlt, by rw [rowH_len _ hx]; omega, by omega, x + 1, (show x + 1 ≤ dN d by omega), by omega, ⟨by omega, trivial⟩, rowH_set _ (by omega), trivial⟩
 have : x = dN d := by omega
 subst this
 generalize hO : hoL d F (dN d + 1) = O at *
 -- the order, as numbers
 have hOi : (O.map D.asInt).map D.int = O := by
  rw [List.map_map]
  exact (List.map_congr_left (g := id) fun u hu => by obtain ⟨k, _, rfl⟩ := hints u hu; rfl).trans (List.map_id _)
 have hmemS : ∀ {x : Int}, x ∈ O.map D.asInt → ∃ k : Nat, k < dN d ∧ x = F + k := fun hx => by
  obtain ⟨u, hu, rfl⟩ := List.mem_map.1 hx
  obtain ⟨k, hk, rfl⟩ := hints u hu
  exact ⟨k, hk, rfl⟩
 have hbefS : (O.map D.asInt).Pairwise fun u w => ∃ k m : Nat, u = F + k ∧ w = F + m ∧ (lvN d k < lvN d m ∨ (lvN d k = lvN d m ∧ k < m)) := by
  rw [List.pairwise_map]
  refine hsort.imp fun {u w} h => ?_
  obtain ⟨k, m, rfl, rfl, h3⟩ := h.out
  exact ⟨k, m, rfl, rfl, h3⟩
 have hnd : (O.map D.asInt).Nodup := hbefS.imp fun {u w} h e => by
  obtain ⟨k, m, rfl, rfl, h3⟩ := h
  have : k = m := by omega
  subst this
  omega
 have hidx : ∀ {k : Nat}, k < dN d → ∃ i : Nat, (O.map D.asInt)[i]? = some (F + k) := fun {k} hk => List.getElem?_of_mem (List.mem_map.2 ⟨_, hall hk, rfl⟩)
 have hbef : ∀ {k m : Nat}, k < dN d → m < dN d → (Bef (O.map D.asInt) (F + k) (F + m) ↔ (lvN d k < lvN d m ∨ (lvN d k = lvN d m ∧ k < m))) := fun {k m} hk hm => by
  obtain ⟨i, hi⟩ := hidx hk
  obtain ⟨j, hj⟩ := hidx hm
  have order : ∀ {k m i j : Nat}, (O.map D.asInt)[i]? = some (F + k) → (O.map D.asInt)[j]? = some (F + m) → i < j → (lvN d k < lvN d m ∨ (lvN d k = lvN d m ∧ k < m)) := fun {k m i j} hi hj hij => by
   obtain ⟨i1, i2⟩ := List.getElem?_eq_some_iff.1 hi
   obtain ⟨j1, j2⟩ := List.getElem?_eq_some_iff.1 hj
   obtain ⟨k', m', q1, q2, q3⟩ := List.pairwise_iff_getElem.1 hbefS i j i1 j1 hij
   rw [i2] at q1
   rw [j2] at q2
   have : k = k' := by omega
   subst this
   have : m = m' := by omega
   subst this
   exact q3
  rw [bef_idx hnd hi hj]
  constructor
  ·exact order hi hj
  ·intro h
   rcases Nat.lt_trichotomy i j with g | g | g
   ·exact g
   ·subst g
    rw [hi] at hj
    have : F + (k : Int) = F + m := Option.some.inj hj
    have : k = m := by omega
    subst this
    omega
   ·have := order hj hi g
    omega
 have hrow : List.map D.asInt (List.take (dN d) (rowH F (dN d) (dN d))) = (List.range (dN d)).map fun (k : Nat) => F + (k : Int) := by
  rw [rowH_full, List.take_of_length_le (by simp), List.map_map]; rfl
 refine ⟨by omega, by omega, by rw [rowH_len _ hx]; omega, ⟨fun u hu => ?_⟩, O.map D.asInt, ⟨?_, hnd⟩, fun x y hx hy => ?_, ?_, ?_⟩
 ·rw [rowH_full] at hu
  obtain ⟨k, _, rfl⟩ := List.mem_map.1 (List.mem_of_mem_take hu)
  exact ⟨_, rfl⟩
 ·rw [hrow]
  refine (List.perm_ext_iff_of_nodup hnd ?_).2 fun z => ⟨fun hz => ?_, fun hz => ?_⟩
  ·rw [List.Nodup, List.pairwise_map]
   exact List.pairwise_lt_range.imp fun {a b} h => by omega
  ·obtain ⟨k, hk, rfl⟩ := hmemS hz
   exact List.mem_map.2 ⟨k, List.mem_range.2 hk, rfl⟩
  ·obtain ⟨k, hk, rfl⟩ := List.mem_map.1 hz
   exact List.mem_map.2 ⟨_, hall (List.mem_range.1 hk), rfl⟩
 ·obtain ⟨k, hk, rfl⟩ := hmemS hx
  obtain ⟨m, hm, rfl⟩ := hmemS hy
  refine ⟨by omega, by omega, by omega, by omega, by omega, by omega, trivial, trivial, by simp, by simp, ⟨?_⟩⟩
  rw [hbef hk hm, show (F + (k : Int) - F).toNat = k by omega, show (F + (m : Int) - F).toNat = m by omega]
  show orL [D.int (cmpZ (lvN d k) (lvN d m)), D.int (cmpZ (F + k) (F + m))] < 0 ↔ _
  unfold orL orL orL
  show (if cmpZ (lvN d k) (lvN d m) = 0 then (if cmpZ (F + k) (F + m) = 0 then (0 : Int) else cmpZ (F + k) (F + m)) else cmpZ (lvN d k) (lvN d m)) < 0 ↔ _
  unfold cmpZ
  generalize lvN d k = a
  generalize lvN d m = b
  split <;> split <;> omega
 ·simp; omega
 ·congr 1
  rw [hOi]
  simp only [List.take_zero, List.nil_append, Nat.zero_add]
  rw [List.drop_of_length_le (by rw [rowH_len _ hx]; omega), List.append_nil, List.take_of_length_le (by omega)]
end Go.Ev

end

section
open Go.Proofs
namespace Go.Ev
set_option maxRecDepth 100000
set_option maxHeartbeats 4000000
theorem v36 : ∀ d, 55 ≤ d → VC d 36 con36 := fun d hd =>
 valid_of_sym (C := ctx seat3 metAnn) (G := GC) (B := 45) (m := 4) rfl rfl rfl vs3 (fun us p r hc hp ht => by
  unfold con36 at hc; split at hc
  ·cases hc; exact s36 _ _ hp
  ·cases hc) (fun _ _ => rfl) rfl rfl d (by omega)
end Go.Ev

end
