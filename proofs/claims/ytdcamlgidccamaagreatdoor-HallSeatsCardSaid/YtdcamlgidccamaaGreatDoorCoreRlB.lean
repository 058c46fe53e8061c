/-
  Part of the engine that the claim is proved with: it states nothing of the document by itself.
-/
import Derived.Test.YtdcamlgidccamaaGreatDoorCoreRl
open Go.Proofs
namespace Go.Ev
set_option maxRecDepth 100000
set_option maxHeartbeats 4000000
theorem vc72 : ∀ (own l all o : D) (x : Int), symFun (ctx rl2 rlAnn) 4 (72 : FuncId) [V.dat (22 : TypeId) own, V.dat (22 : TypeId) l, V.dat (91 : TypeId) all, V.int IntKind.i64 x, V.dat (29 : TypeId) o] (V.prop True) =
 (True ∧ (smallD own ∧ i64P x) ∧ (((whereT own x = knT all x → False) → False) → (((whereK own x = knK all x → False) → False) → (((whereP own x ↔ knP all x) → False) → (false = true ↔ True)) ∧ ((((whereP own x ↔ knP all
 x) → False) → False) → (knP all x → 0 ≤ whereT own x ∧ whereT own x < (l.len : Int) ∧ (sizeT' (el l (whereT own x).toNat) = 0 → False) ∧ 0 ≤ whereK own x ∧ whereK own x < (↑(levelRow (tShape (el l (whereT own x).toNat))
 (tA (el l (whereT own x).toNat)) (tB (el l (whereT own x).toNat))).length : Int) ∧ 0 ≤ whereT own x ∧ whereT own x < (l.len : Int) ∧ (tOpen (el l (whereT own x).toNat)).len ≤ 100 ∧ 0 ≤ whereT own x ∧ whereT own x <
 (l.len : Int) ∧ inTab (tShape (el l (whereT own x).toNat)) (tA (el l (whereT own x).toNat)) (tB (el l (whereT own x).toNat)) (whereK own x) ∧ ((∃ (x_1 : Nat), (x_1 ≤ (distRow (sizeT' (el l (whereT own x).toNat)).toNat
 (tShape (el l (whereT own x).toNat)) (tA (el l (whereT own x).toNat)) (tB (el l (whereT own x).toNat)) (whereK own x)).length ∧ nbX (el l (whereT own x).toNat) (whereK own x) (x - whereK own x) x_1 = []) ∧ (0 = (x_1 :
 Int) ∧ True ∧ True) ∧ True) ∨ ∃ (x_1 : Nat), (x_1 ≤ (distRow (sizeT' (el l (whereT own x).toNat)).toNat (tShape (el l (whereT own x).toNat)) (tA (el l (whereT own x).toNat)) (tB (el l (whereT own x).toNat)) (whereK own
 x)).length ∧ (nbX (el l (whereT own x).toNat) (whereK own x) (x - whereK own x) x_1 = [] → False)) ∧ (0 = (x_1 : Int) ∧ False ∧ True) ∧ False ∧ True) ∧ (∀ (x_1 : Nat), x_1 ≤ (distRow (sizeT' (el l (whereT own
 x).toNat)).toNat (tShape (el l (whereT own x).toNat)) (tA (el l (whereT own x).toNat)) (tB (el l (whereT own x).toNat)) (whereK own x)).length ∧ nbX (el l (whereT own x).toNat) (whereK own x) (x - whereK own x) x_1 = []
 → (distRow (sizeT' (el l (whereT own x).toNat)).toNat (tShape (el l (whereT own x).toNat)) (tA (el l (whereT own x).toNat)) (tB (el l (whereT own x).toNat)) (whereK own x)).length - x_1 < LIM ∧ ((x_1 : Int) < (↑(distRow
 (sizeT' (el l (whereT own x).toNat)).toNat (tShape (el l (whereT own x).toNat)) (tA (el l (whereT own x).toNat)) (tB (el l (whereT own x).toNat)) (whereK own x)).length : Int) → 0 ≤ whereT own x ∧ whereT own x < (l.len :
 Int) ∧ (inTab (tShape (el l (whereT own x).toNat)) (tA (el l (whereT own x).toNat)) (tB (el l (whereT own x).toNat)) (whereK own x) ∧ inTab (tShape (el l (whereT own x).toNat)) (tA (el l (whereT own x).toNat)) (tB (el l
 (whereT own x).toNat)) (x_1 : Int)) ∧ (nearP (tShape (el l (whereT own x).toNat)) (tA (el l (whereT own x).toNat)) (tB (el l (whereT own x).toNat)) (whereK own x) (x_1 : Int) → ((-9223372036854775808) ≤ x - whereK own x
 ∧ x - whereK own x < 9223372036854775808) ∧ ((-9223372036854775808) ≤ x - whereK own x + (x_1 : Int) ∧ x - whereK own x + (x_1 : Int) < 9223372036854775808) ∧ 0 + 1 ≤ [D.int (x - whereK own x + (x_1 : Int))].length ∧ (1
 : Nat) ≤ 16777216 ∧ ((-9223372036854775808) ≤ (x_1 : Int) + 1 ∧ (x_1 : Int) + 1 < 9223372036854775808) ∧ ((∃ (y : Nat), (y ≤ (distRow (sizeT' (el l (whereT own x).toNat)).toNat (tShape (el l (whereT own x).toNat)) (tA
 (el l (whereT own x).toNat)) (tB (el l (whereT own x).toNat)) (whereK own x)).length ∧ nbX (el l (whereT own x).toNat) (whereK own x) (x - whereK own x) y = []) ∧ (distRow (sizeT' (el l (whereT own x).toNat)).toNat
 (tShape (el l (whereT own x).toNat)) (tA (el l (whereT own x).toNat)) (tB (el l (whereT own x).toNat)) (whereK own x)).length - y < (distRow (sizeT' (el l (whereT own x).toNat)).toNat (tShape (el l (whereT own x).toNat))
 (tA (el l (whereT own x).toNat)) (tB (el l (whereT own x).toNat)) (whereK own x)).length - x_1 ∧ ((x_1 : Int) + 1 = (y : Int) ∧ False ∧ True) ∧ True) ∨ ∃ (y : Nat), (y ≤ (distRow (sizeT' (el l (whereT own
 x).toNat)).toNat (tShape (el l (whereT own x).toNat)) (tA (el l (whereT own x).toNat)) (tB (el l (whereT own x).toNat)) (whereK own x)).length ∧ (nbX (el l (whereT own x).toNat) (whereK own x) (x - whereK own x) y = [] →
 False)) ∧ (distRow (sizeT' (el l (whereT own x).toNat)).toNat (tShape (el l (whereT own x).toNat)) (tA (el l (whereT own x).toNat)) (tB (el l (whereT own x).toNat)) (whereK own x)).length - y < (distRow (sizeT' (el l
 (whereT own x).toNat)).toNat (tShape (el l (whereT own x).toNat)) (tA (el l (whereT own x).toNat)) (tB (el l (whereT own x).toNat)) (whereK own x)).length - x_1 ∧ ((x_1 : Int) + 1 = (y : Int) ∧ ((0 : Nat) = 0 ∧ 1 = (nbX
 (el l (whereT own x).toNat) (whereK own x) (x - whereK own x) y).length ∧ True) ∧ True) ∧ List.take 1 [D.int (x - whereK own x + (x_1 : Int))] = nbX (el l (whereT own x).toNat) (whereK own x) (x - whereK own x) y ∧
 True)) ∧ ((nearP (tShape (el l (whereT own x).toNat)) (tA (el l (whereT own x).toNat)) (tB (el l (whereT own x).toNat)) (whereK own x) (x_1 : Int) → False) → ((-9223372036854775808) ≤ (x_1 : Int) + 1 ∧ (x_1 : Int) + 1 <
 9223372036854775808) ∧ ((∃ (y : Nat), (y ≤ (distRow (sizeT' (el l (whereT own x).toNat)).toNat (tShape (el l (whereT own x).toNat)) (tA (el l (whereT own x).toNat)) (tB (el l (whereT own x).toNat)) (whereK own x)).length
 ∧ nbX (el l (whereT own x).toNat) (whereK own x) (x - whereK own x) y = []) ∧ (distRow (sizeT' (el l (whereT own x).toNat)).toNat (tShape (el l (whereT own x).toNat)) (tA (el l (whereT own x).toNat)) (tB (el l (whereT
 own x).toNat)) (whereK own x)).length - y < (distRow (sizeT' (el l (whereT own x).toNat)).toNat (tShape (el l (whereT own x).toNat)) (tA (el l (whereT own x).toNat)) (tB (el l (whereT own x).toNat)) (whereK own
 x)).length - x_1 ∧ ((x_1 : Int) + 1 = (y : Int) ∧ True ∧ True) ∧ True) ∨ ∃ (y : Nat), (y ≤ (distRow (sizeT' (el l (whereT own x).toNat)).toNat (tShape (el l (whereT own x).toNat)) (tA (el l (whereT own x).toNat)) (tB (el
 l (whereT own x).toNat)) (whereK own x)).length ∧ (nbX (el l (whereT own x).toNat) (whereK own x) (x - whereK own x) y = [] → False)) ∧ (distRow (sizeT' (el l (whereT own x).toNat)).toNat (tShape (el l (whereT own
 x).toNat)) (tA (el l (whereT own x).toNat)) (tB (el l (whereT own x).toNat)) (whereK own x)).length - y < (distRow (sizeT' (el l (whereT own x).toNat)).toNat (tShape (el l (whereT own x).toNat)) (tA (el l (whereT own
 x).toNat)) (tB (el l (whereT own x).toNat)) (whereK own x)).length - x_1 ∧ ((x_1 : Int) + 1 = (y : Int) ∧ False ∧ True) ∧ False ∧ True))) ∧ (((x_1 : Int) < (↑(distRow (sizeT' (el l (whereT own x).toNat)).toNat (tShape
 (el l (whereT own x).toNat)) (tA (el l (whereT own x).toNat)) (tB (el l (whereT own x).toNat)) (whereK own x)).length : Int) → False) → (∃ (x : Nat), x.le o.len ∧ (0 = (x : Int) ∧ True) ∧ True) ∧ ∀ (x_2 : Nat), x_2.le
 o.len → o.len - x_2 < LIM ∧ ((x_2 : Int) < (o.len : Int) → 0 ≤ (x_2 : Int) ∧ (x_2 : Int) < (o.len : Int) ∧ (asked own l all ∧ i64P x ∧ i64P (el o x_2).asInt ∧ D.list (distRow (sizeT' (el l (whereT own x).toNat)).toNat
 (tShape (el l (whereT own x).toNat)) (tA (el l (whereT own x).toNat)) (tB (el l (whereT own x).toNat)) (whereK own x)) = farD l x) ∧ ((True → False) → (false = true ↔ True)) ∧ (((True → False) → False) →
 ((-9223372036854775808) ≤ (x_2 : Int) + 1 ∧ (x_2 : Int) + 1 < 9223372036854775808) ∧ ∃ (y : Nat), y.le o.len ∧ o.len - y < o.len - x_2 ∧ ((x_2 : Int) + 1 = (y : Int) ∧ True) ∧ True)) ∧ (((x_2 : Int) < (o.len : Int) →
 False) → (smallD own ∧ i64P x) ∧ (levelH own x = (nthD (levelRow (tShape (el l (whereT own x).toNat)) (tA (el l (whereT own x).toNat)) (tB (el l (whereT own x).toNat))) (whereK own x).toNat).asInt → (smallD own ∧ i64P x)
 ∧ ((openH own x ↔ isIn (tOpen (el l (whereT own x).toNat)) (whereK own x)) → (smallD own ∧ i64P x) ∧ (nbD own x).len ≤ 100 ∧ (((nbD own x).len = 0 ∧ ∀ (i : Nat), i < (nbD own x).len → atI (nbD own x) i = atI D.nil i) ↔
 True)) ∧ (((openH own x ↔ isIn (tOpen (el l (whereT own x).toNat)) (whereK own x)) → False) → (false = true ↔ True))) ∧ ((levelH own x = (nthD (levelRow (tShape (el l (whereT own x).toNat)) (tA (el l (whereT own
 x).toNat)) (tB (el l (whereT own x).toNat))) (whereK own x).toNat).asInt → False) → (false = true ↔ True))))) ∧ ∀ (x_1 : Nat), x_1 ≤ (distRow (sizeT' (el l (whereT own x).toNat)).toNat (tShape (el l (whereT own
 x).toNat)) (tA (el l (whereT own x).toNat)) (tB (el l (whereT own x).toNat)) (whereK own x)).length ∧ (nbX (el l (whereT own x).toNat) (whereK own x) (x - whereK own x) x_1 = [] → False) → (distRow (sizeT' (el l (whereT
 own x).toNat)).toNat (tShape (el l (whereT own x).toNat)) (tA (el l (whereT own x).toNat)) (tB (el l (whereT own x).toNat)) (whereK own x)).length - x_1 < LIM ∧ ((x_1 : Int) < (↑(distRow (sizeT' (el l (whereT own
 x).toNat)).toNat (tShape (el l (whereT own x).toNat)) (tA (el l (whereT own x).toNat)) (tB (el l (whereT own x).toNat)) (whereK own x)).length : Int) → 0 ≤ whereT own x ∧ whereT own x < (l.len : Int) ∧ (inTab (tShape (el
 l (whereT own x).toNat)) (tA (el l (whereT own x).toNat)) (tB (el l (whereT own x).toNat)) (whereK own x) ∧ inTab (tShape (el l (whereT own x).toNat)) (tA (el l (whereT own x).toNat)) (tB (el l (whereT own x).toNat))
 (x_1 : Int)) ∧ (nearP (tShape (el l (whereT own x).toNat)) (tA (el l (whereT own x).toNat)) (tB (el l (whereT own x).toNat)) (whereK own x) (x_1 : Int) → ((-9223372036854775808) ≤ x - whereK own x ∧ x - whereK own x <
 9223372036854775808) ∧ ((-9223372036854775808) ≤ x - whereK own x + (x_1 : Int) ∧ x - whereK own x + (x_1 : Int) < 9223372036854775808) ∧ 0 + 1 ≤ [D.int (x - whereK own x + (x_1 : Int))].length ∧ 0 + (nbX (el l (whereT
 own x).toNat) (whereK own x) (x - whereK own x) x_1).length ≤ (nbX (el l (whereT own x).toNat) (whereK own x) (x - whereK own x) x_1).length ∧ (nbX (el l (whereT own x).toNat) (whereK own x) (x - whereK own x)
 x_1).length + 1 ≤ 16777216 ∧ ((-9223372036854775808) ≤ (x_1 : Int) + 1 ∧ (x_1 : Int) + 1 < 9223372036854775808) ∧ ((∃ (y : Nat), (y ≤ (distRow (sizeT' (el l (whereT own x).toNat)).toNat (tShape (el l (whereT own
 x).toNat)) (tA (el l (whereT own x).toNat)) (tB (el l (whereT own x).toNat)) (whereK own x)).length ∧ nbX (el l (whereT own x).toNat) (whereK own x) (x - whereK own x) y = []) ∧ (distRow (sizeT' (el l (whereT own
 x).toNat)).toNat (tShape (el l (whereT own x).toNat)) (tA (el l (whereT own x).toNat)) (tB (el l (whereT own x).toNat)) (whereK own x)).length - y < (distRow (sizeT' (el l (whereT own x).toNat)).toNat (tShape (el l
 (whereT own x).toNat)) (tA (el l (whereT own x).toNat)) (tB (el l (whereT own x).toNat)) (whereK own x)).length - x_1 ∧ ((x_1 : Int) + 1 = (y : Int) ∧ False ∧ True) ∧ True) ∨ ∃ (y : Nat), (y ≤ (distRow (sizeT' (el l
 (whereT own x).toNat)).toNat (tShape (el l (whereT own x).toNat)) (tA (el l (whereT own x).toNat)) (tB (el l (whereT own x).toNat)) (whereK own x)).length ∧ (nbX (el l (whereT own x).toNat) (whereK own x) (x - whereK own
 x) y = [] → False)) ∧ (distRow (sizeT' (el l (whereT own x).toNat)).toNat (tShape (el l (whereT own x).toNat)) (tA (el l (whereT own x).toNat)) (tB (el l (whereT own x).toNat)) (whereK own x)).length - y < (distRow
 (sizeT' (el l (whereT own x).toNat)).toNat (tShape (el l (whereT own x).toNat)) (tA (el l (whereT own x).toNat)) (tB (el l (whereT own x).toNat)) (whereK own x)).length - x_1 ∧ ((x_1 : Int) + 1 = (y : Int) ∧ ((0 : Nat) =
 0 ∧ (nbX (el l (whereT own x).toNat) (whereK own x) (x - whereK own x) x_1).length + 1 = (nbX (el l (whereT own x).toNat) (whereK own x) (x - whereK own x) y).length ∧ True) ∧ True) ∧ List.take (nbX (el l (whereT own
 x).toNat) (whereK own x) (x - whereK own x) x_1).length (nbX (el l (whereT own x).toNat) (whereK own x) (x - whereK own x) x_1) ++ List.take 1 [D.int (x - whereK own x + (x_1 : Int))] = nbX (el l (whereT own x).toNat)
 (whereK own x) (x - whereK own x) y ∧ True)) ∧ ((nearP (tShape (el l (whereT own x).toNat)) (tA (el l (whereT own x).toNat)) (tB (el l (whereT own x).toNat)) (whereK own x) (x_1 : Int) → False) → ((-9223372036854775808)
 ≤ (x_1 : Int) + 1 ∧ (x_1 : Int) + 1 < 9223372036854775808) ∧ ((∃ (y : Nat), (y ≤ (distRow (sizeT' (el l (whereT own x).toNat)).toNat (tShape (el l (whereT own x).toNat)) (tA (el l (whereT own x).toNat)) (tB (el l (whereT
 own x).toNat)) (whereK own x)).length ∧ nbX (el l (whereT own x).toNat) (whereK own x) (x - whereK own x) y = []) ∧ (distRow (sizeT' (el l (whereT own x).toNat)).toNat (tShape (el l (whereT own x).toNat)) (tA (el l
 (whereT own x).toNat)) (tB (el l (whereT own x).toNat)) (whereK own x)).length - y < (distRow (sizeT' (el l (whereT own x).toNat)).toNat (tShape (el l (whereT own x).toNat)) (tA (el l (whereT own x).toNat)) (tB (el l
 (whereT own x).toNat)) (whereK own x)).length - x_1 ∧ ((x_1 : Int) + 1 = (y : Int) ∧ False ∧ True) ∧ True) ∨ ∃ (y : Nat), (y ≤ (distRow (sizeT' (el l (whereT own x).toNat)).toNat (tShape (el l (whereT own x).toNat)) (tA
 (el l (whereT own x).toNat)) (tB (el l (whereT own x).toNat)) (whereK own x)).length ∧ (nbX (el l (whereT own x).toNat) (whereK own x) (x - whereK own x) y = [] → False)) ∧ (distRow (sizeT' (el l (whereT own
 x).toNat)).toNat (tShape (el l (whereT own x).toNat)) (tA (el l (whereT own x).toNat)) (tB (el l (whereT own x).toNat)) (whereK own x)).length - y < (distRow (sizeT' (el l (whereT own x).toNat)).toNat (tShape (el l
 (whereT own x).toNat)) (tA (el l (whereT own x).toNat)) (tB (el l (whereT own x).toNat)) (whereK own x)).length - x_1 ∧ ((x_1 : Int) + 1 = (y : Int) ∧ ((0 : Nat) = 0 ∧ (nbX (el l (whereT own x).toNat) (whereK own x) (x -
 whereK own x) x_1).length = (nbX (el l (whereT own x).toNat) (whereK own x) (x - whereK own x) y).length ∧ True) ∧ True) ∧ nbX (el l (whereT own x).toNat) (whereK own x) (x - whereK own x) x_1 = nbX (el l (whereT own
 x).toNat) (whereK own x) (x - whereK own x) y ∧ True))) ∧ (((x_1 : Int) < (↑(distRow (sizeT' (el l (whereT own x).toNat)).toNat (tShape (el l (whereT own x).toNat)) (tA (el l (whereT own x).toNat)) (tB (el l (whereT own
 x).toNat)) (whereK own x)).length : Int) → False) → (∃ (x : Nat), x.le o.len ∧ (0 = (x : Int) ∧ True) ∧ True) ∧ ∀ (x_2 : Nat), x_2.le o.len → o.len - x_2 < LIM ∧ ((x_2 : Int) < (o.len : Int) → 0 ≤ (x_2 : Int) ∧ (x_2 :
 Int) < (o.len : Int) ∧ (asked own l all ∧ i64P x ∧ i64P (el o x_2).asInt ∧ D.list (distRow (sizeT' (el l (whereT own x).toNat)).toNat (tShape (el l (whereT own x).toNat)) (tA (el l (whereT own x).toNat)) (tB (el l
 (whereT own x).toNat)) (whereK own x)) = farD l x) ∧ ((True → False) → (false = true ↔ True)) ∧ (((True → False) → False) → ((-9223372036854775808) ≤ (x_2 : Int) + 1 ∧ (x_2 : Int) + 1 < 9223372036854775808) ∧ ∃ (y :
 Nat), y.le o.len ∧ o.len - y < o.len - x_2 ∧ ((x_2 : Int) + 1 = (y : Int) ∧ True) ∧ True)) ∧ (((x_2 : Int) < (o.len : Int) → False) → (smallD own ∧ i64P x) ∧ (levelH own x = (nthD (levelRow (tShape (el l (whereT own
 x).toNat)) (tA (el l (whereT own x).toNat)) (tB (el l (whereT own x).toNat))) (whereK own x).toNat).asInt → (smallD own ∧ i64P x) ∧ ((openH own x ↔ isIn (tOpen (el l (whereT own x).toNat)) (whereK own x)) → (smallD own ∧
 i64P x) ∧ 0 + (nbX (el l (whereT own x).toNat) (whereK own x) (x - whereK own x) x_1).length ≤ (nbX (el l (whereT own x).toNat) (whereK own x) (x - whereK own x) x_1).length ∧ (nbD own x).len ≤ 100 ∧ (((nbD own x).len =
 (List.take (nbX (el l (whereT own x).toNat) (whereK own x) (x - whereK own x) x_1).length (nbX (el l (whereT own x).toNat) (whereK own x) (x - whereK own x) x_1)).length ∧ ∀ (i : Nat), i < (nbD own x).len → atI (nbD own
 x) i = atI (D.list (List.take (nbX (el l (whereT own x).toNat) (whereK own x) (x - whereK own x) x_1).length (nbX (el l (whereT own x).toNat) (whereK own x) (x - whereK own x) x_1))) i) ↔ True)) ∧ (((openH own x ↔ isIn
 (tOpen (el l (whereT own x).toNat)) (whereK own x)) → False) → (false = true ↔ True))) ∧ ((levelH own x = (nthD (levelRow (tShape (el l (whereT own x).toNat)) (tA (el l (whereT own x).toNat)) (tB (el l (whereT own
 x).toNat))) (whereK own x).toNat).asInt → False) → (false = true ↔ True))))) ∧ ((knP all x → False) → (∃ (x : Nat), x.le o.len ∧ (0 = (x : Int) ∧ True) ∧ True) ∧ ∀ (x_1 : Nat), x_1.le o.len → o.len - x_1 < LIM ∧ ((x_1 :
 Int) < (o.len : Int) → 0 ≤ (x_1 : Int) ∧ (x_1 : Int) < (o.len : Int) ∧ (asked own l all ∧ i64P x ∧ i64P (el o x_1).asInt ∧ D.nil = farD l x) ∧ ((True → False) → (false = true ↔ True)) ∧ (((True → False) → False) →
 ((-9223372036854775808) ≤ (x_1 : Int) + 1 ∧ (x_1 : Int) + 1 < 9223372036854775808) ∧ ∃ (y : Nat), y.le o.len ∧ o.len - y < o.len - x_1 ∧ ((x_1 : Int) + 1 = (y : Int) ∧ True) ∧ True)) ∧ (((x_1 : Int) < (o.len : Int) →
 False) → (smallD own ∧ i64P x) ∧ (levelH own x = 0 → (smallD own ∧ i64P x) ∧ ((openH own x ↔ false = true) → (smallD own ∧ i64P x) ∧ (nbD own x).len ≤ 100 ∧ (((nbD own x).len = 0 ∧ ∀ (i : Nat), i < (nbD own x).len → atI
 (nbD own x) i = atI D.nil i) ↔ True)) ∧ (((openH own x ↔ false = true) → False) → (false = true ↔ True))) ∧ ((levelH own x = 0 → False) → (false = true ↔ True)))))) ∧ ((whereK own x = knK all x → False) → (false = true ↔
 True))) ∧ ((whereT own x = knT all x → False) → (false = true ↔ True))) := by intros; kernel_rfl
theorem c_openL (l : D) (i : Nat) : (tOpen (el (copyD l) i)).asList = (tOpen (el l i)).asList := by
  rcases copy_el l i with ⟨_, h⟩ | ⟨h, h'⟩
  · rw [h]; rfl
  · rw [h, h']
theorem c_openH (l : D) (p : Int) : openH (copyD l) p = openH l p := by
  have e : (tOpen (tabAt (copyD l) p)).asList = (tOpen (tabAt l p)).asList := by unfold tabAt; rw [c_whereT]; exact c_openL l _
  have e1 : (tOpen (tabAt (copyD l) p)).len = (tOpen (tabAt l p)).len := by unfold D.len; rw [e]
  have e2 : ∀ j, el (tOpen (tabAt (copyD l) p)) j = el (tOpen (tabAt l p)) j := fun j => by unfold el; rw [e]
  refine propext ⟨fun h => ⟨?_⟩, fun h => ⟨?_⟩⟩
  · obtain ⟨h1, j, h2, h3⟩ := h.out
    rw [c_whereP] at h1; rw [e1] at h2; rw [e2, c_whereK] at h3
    exact ⟨h1, j, h2, h3⟩
  · obtain ⟨h1, j, h2, h3⟩ := h.out
    rw [c_whereP]
    exact ⟨h1, j, by rw [e1]; exact h2, by rw [e2, c_whereK]; exact h3⟩
theorem c_levelH (l : D) (p : Int) : levelH (copyD l) p = levelH l p := by
  obtain ⟨h1, h2, h3⟩ := c_tab l p
  unfold levelH; rw [c_whereP, h1, h2, h3, c_whereK]
theorem c_nbD (l : D) (p : Int) : nbD (copyD l) p = nbD l p := by
  obtain ⟨h1, h2, h3⟩ := c_tab l p
  unfold nbD nearL nbX; rw [c_whereP, h1, h2, h3, c_tabS, c_whereK]
theorem s72 (own l all o : D) (x : Int) (ha : asked own l all) (hx : i64P x) (ho : okInts o) : symFun (ctx rl2 rlAnn) 4 72 [.dat 22 own, .dat 22 l, .dat 91 all, .int .i64 x, .dat 29 o] (.prop True) := by
  rw [vc72]
  have ha' := ha
  obtain ⟨hc, hsm, hall⟩ := ha
  subst hc
  obtain ⟨p1, t1, k1⟩ := kn_where hall x
  have hs3 : smallD (copyD l) ∧ i64P x := ⟨c_small hsm, hx⟩
  rw [c_whereT, c_whereK, c_whereP, c_levelH, c_openH, c_nbD, t1, k1, propext p1]
  have loop : ∀ (fr : D) (F : Prop), fr = farD l x → F → (∃ z : Nat, z.le o.len ∧ ((0 : Int) = (z : Int) ∧ True) ∧ True) ∧ ∀ z : Nat, z.le o.len → o.len - z < LIM ∧
      ((z : Int) < (o.len : Int) → (0 : Int) ≤ (z : Int) ∧ (z : Int) < (o.len : Int) ∧ (asked (copyD l) l all ∧ i64P x ∧ i64P (el o z).asInt ∧ fr = farD l x) ∧ ((True → False) → (false = true ↔ True)) ∧
        (((True → False) → False) → ((-9223372036854775808 : Int) ≤ (z : Int) + 1 ∧ (z : Int) + 1 < 9223372036854775808) ∧ ∃ y : Nat, y.le o.len ∧ o.len - y < o.len - z ∧ ((z : Int) + 1 = (y : Int) ∧ True) ∧ True)) ∧
      (((z : Int) < (o.len : Int) → False) → F) := fun fr F hfr hF => by
    have h100 := ho.out.1
    refine ⟨⟨0, Nat.zero_le _, ⟨rfl, trivial⟩, trivial⟩, fun z hz => ?_⟩
    have hz : z ≤ o.len := hz
    exact ⟨by unfold LIM; omega, fun hlt => ⟨by omega, hlt, ⟨ha', hx, ho.out.2 z (by omega), hfr⟩, fun h => absurd trivial h, fun _ => ⟨by omega, z + 1, show z + 1 ≤ o.len by omega, by omega, ⟨rfl, trivial⟩, trivial⟩⟩, fun _ => hF⟩
  have fin : ∀ (LV : Int) (OP T : Prop), levelH l x = LV → (openH l x ↔ OP) → T → (smallD (copyD l) ∧ i64P x) ∧ (levelH l x = LV → (smallD (copyD l) ∧ i64P x) ∧ ((openH l x ↔ OP) → T) ∧ (((openH l x ↔ OP) → False) → (false = true ↔ True))) ∧ ((levelH l x = LV → False) → (false = true ↔ True)) :=
    fun LV OP T h1 h2 h3 => ⟨hs3, fun _ => ⟨hs3, fun _ => h3, fun h => absurd h2 h⟩, fun h => absurd h1 h⟩
  refine ⟨trivial, hs3, fun _ => ⟨fun _ => ⟨fun h => absurd Iff.rfl h, fun _ => ⟨fun h1 => ?_, fun h1 => ?_⟩⟩, fun h => absurd rfl h⟩, fun h => absurd rfl h⟩
  · obtain ⟨t1, t2, t3⟩ := whereP_tab h1
    obtain ⟨o1, o2⟩ := whereP_off h1
    have hk := t3.out
    have hl := hsm.out.1
    have hx' := hx.out
    have hnb : nbD l x = listD (nbX (el l (whereT l x).toNat) (whereK l x) (x - whereK l x) (sizeT' (el l (whereT l x).toNat)).toNat) := by unfold nbD; rw [if_pos h1]; rfl
    have hN := size_range (el l (whereT l x).toNat)
    have hz : sizeT' (el l (whereT l x).toNat) ≠ 0 := hk.1
    have hT : ∀ m : Int, 0 ≤ m → m < sizeT' (el l (whereT l x).toNat) → inTab (tShape (el l (whereT l x).toNat)) (tA (el l (whereT l x).toNat)) (tB (el l (whereT l x).toNat)) m := fun m h h' => ⟨hk.1, h, h'⟩
    have hfar : D.list (distRow (sizeT' (el l (whereT l x).toNat)).toNat (tShape (el l (whereT l x).toNat)) (tA (el l (whereT l x).toNat)) (tB (el l (whereT l x).toNat)) (whereK l x)) = farD l x := by unfold farD; rw [if_pos h1]; rfl
    have hlv : levelH l x = (nthD (levelRow (tShape (el l (whereT l x).toNat)) (tA (el l (whereT l x).toNat)) (tB (el l (whereT l x).toNat))) (whereK l x).toNat).asInt := by unfold levelH; rw [if_pos h1]; rfl
    have hop : openH l x ↔ isIn (tOpen (el l (whereT l x).toNat)) (whereK l x) := ⟨fun h => ⟨h.out.2⟩, fun h => ⟨h1, h.out⟩⟩
    have hll : ((levelRow (tShape (el l (whereT l x).toNat)) (tA (el l (whereT l x).toNat)) (tB (el l (whereT l x).toNat))).length : Int) = sizeT' (el l (whereT l x).toNat) := by rw [len_levelRow]; show (((sizeT' (el l (whereT l x).toNat)).toNat : Nat) : Int) = _; omega
    have hopl := hsm.out.2 (whereT l x).toNat (by omega)
    have hkx : whereK l x < sizeT' (el l (whereT l x).toNat) := hk.2.2
    rw [hnb, len_dist]
    refine ⟨t1, t2, hz, hk.2.1, by omega, t1, t2, hopl, t1, t2, t3, .inl ⟨0, ⟨Nat.zero_le _, rfl⟩, ⟨rfl, trivial, trivial⟩, trivial⟩, fun z hzz => ⟨by unfold LIM; omega, fun hlt => ?_, fun hge => loop _ _ hfar (fin _ _ _ hlv hop ?_)⟩, fun z hzz => ⟨by unfold LIM; omega, fun hlt => ?_, fun hge => loop _ _ hfar (fin _ _ _ hlv hop ?_)⟩⟩
    · refine ⟨t1, t2, ⟨t3, hT _ (by omega) (by omega)⟩, fun hn => ⟨⟨by omega, by omega⟩, ⟨by omega, by omega⟩, by simp, by omega, ⟨by omega, by omega⟩, .inr ⟨z + 1, ⟨by omega, ?_⟩, by omega, ⟨by omega, ⟨rfl, ?_, trivial⟩, trivial⟩, ?_, trivial⟩⟩, fun hn => ⟨⟨by omega, by omega⟩, .inl ⟨z + 1, ⟨by omega, by rw [nbX_far hn]; exact hzz.2⟩, by omega, ⟨by omega, trivial, trivial⟩, trivial⟩⟩⟩
      all_goals rw [nbX_near hn, hzz.2]; simp
    · have hge : ¬ ((z : Int) < (((sizeT' (el l (whereT l x).toNat)).toNat : Nat) : Int)) := hge
      have e : (sizeT' (el l (whereT l x).toNat)).toNat = z := by omega
      rw [e, hzz.2]
      exact ⟨hs3, Nat.zero_le _, ⟨fun _ => trivial, fun _ => ⟨rfl, fun i hi => absurd hi (Nat.not_lt_zero _)⟩⟩⟩
    · have hlen := nbX_len (el l (whereT l x).toNat) (whereK l x) (x - whereK l x) z
      refine ⟨t1, t2, ⟨t3, hT _ (by omega) (by omega)⟩, fun hn => ⟨⟨by omega, by omega⟩, ⟨by omega, by omega⟩, by simp, by omega, by omega, ⟨by omega, by omega⟩, .inr ⟨z + 1, ⟨by omega, ?_⟩, by omega, ⟨by omega, ⟨rfl, ?_, trivial⟩, trivial⟩, ?_, trivial⟩⟩, fun hn => ⟨⟨by omega, by omega⟩, .inr ⟨z + 1, ⟨by omega, by rw [nbX_far hn]; exact hzz.2⟩, by omega, ⟨by omega, ⟨rfl, by rw [nbX_far hn], trivial⟩, trivial⟩, by rw [nbX_far hn], trivial⟩⟩⟩
      all_goals rw [nbX_near hn]; simp
    · have hge : ¬ ((z : Int) < (((sizeT' (el l (whereT l x).toNat)).toNat : Nat) : Int)) := hge
      have e : (sizeT' (el l (whereT l x).toNat)).toNat = z := by omega
      have hlen := nbX_len (el l (whereT l x).toNat) (whereK l x) (x - whereK l x) z
      rw [e, List.take_length, listD_len, listD_ne hzz.2]
      exact ⟨hs3, by omega, by omega, ⟨fun _ => trivial, fun _ => ⟨rfl, fun i hi => rfl⟩⟩⟩
  · have hfar : D.nil = farD l x := by unfold farD; rw [if_neg h1]
    have hlv : levelH l x = 0 := by unfold levelH; rw [if_neg h1]
    have hop : openH l x ↔ false = true := ⟨fun h => absurd h.out.1 h1, fun h => by cases h⟩
    have hnb : nbD l x = .nil := by unfold nbD; rw [if_neg h1]
    refine loop _ _ hfar (fin _ _ _ hlv hop ⟨hs3, ?_⟩)
    rw [hnb]
    exact ⟨Nat.zero_le _, ⟨fun _ => trivial, fun _ => ⟨rfl, fun i hi => absurd hi (Nat.not_lt_zero _)⟩⟩⟩
theorem v72 : ∀ d, 66 ≤ d → VC d 72 con72 := fun d hd =>
  valid_of_sym (C := ctx rl2 rlAnn) (G := GC) (B := 62) (m := 4) rfl rfl rfl vl2 (fun us p r hc hp ht => by
    unfold con72 at hc; split at hc
    · cases hc; exact s72 _ _ _ _ _ hp.1 hp.2.1 hp.2.2
    · cases hc) (fun _ _ => rfl) rfl d hd
theorem vl3 : ∀ d, 66 ≤ d → ∀ g c, rl3 g = some c → VC d g c := fun d hd g c h => by
  unfold rl3 at h
  split at h
  · cases h; exact valid_nil (fun t ht => by simp at ht; subst ht; rfl) (v72 d hd)
  · exact vl2 d (by omega) _ c h
/-- What is to be shown of the list of seats that are asked. -/
def ListC (l all : D) (a b N : Int) : Prop := ((∃ (x : Nat), x = (0 : Nat) ∧ ((0 : Int) = (↑x : Int) ∧ ((0 : Nat) = (0 : Nat) ∧ (4 : Nat) = (4 : Nat) ∧ (4 : Nat) = (4 : Nat)) ∧ True) ∧ [D.int a, D.int b, D.int (-1 : Int), D.int N] = [D.int a,
 D.int b, D.int (-1 : Int), D.int N] ∧ True) ∨ ∃ (x : Nat), ((0 : Nat) < x ∧ x ≤ (bif false then max N (30 : Int) else min N (30 : Int)).toNat) ∧ False) ∧ (∀ (x : Nat), x = (0 : Nat) → (bif false then
 max N (30 : Int) else min N (30 : Int)).toNat - x < LIM ∧ (((↑x : Int) < bif false then max N (30 : Int) else min N (30 : Int)) → (0 : Nat) + (1 : Nat) ≤ [D.int (↑x : Int)].length ∧ (0 : Nat) + (4 :
 Nat) ≤ [D.int a, D.int b, D.int (-1 : Int), D.int N].length ∧ (4 : Nat) + (1 : Nat) ≤ (16777216 : Nat) ∧ ((-9223372036854775808 : Int) ≤ (↑x : Int) + (1 : Int) ∧ (↑x : Int) + (1 : Int) <
 (9223372036854775808 : Int)) ∧ ((∃ (y : Nat), y = (0 : Nat) ∧ (bif false then max N (30 : Int) else min N (30 : Int)).toNat - y < (bif false then max N (30 : Int) else min N (30 : Int)).toNat - x ∧
 False) ∨ ∃ (y : Nat), ((0 : Nat) < y ∧ y ≤ (bif false then max N (30 : Int) else min N (30 : Int)).toNat) ∧ (bif false then max N (30 : Int) else min N (30 : Int)).toNat - y < (bif false then max N
 (30 : Int) else min N (30 : Int)).toNat - x ∧ ((↑x : Int) + (1 : Int) = (↑y : Int) ∧ ((0 : Nat) = (0 : Nat) ∧ (4 : Nat) + (1 : Nat) = (4 : Nat) + y ∧ True) ∧ True) ∧ List.take (4 : Nat) [D.int a,
 D.int b, D.int (-1 : Int), D.int N] ++ List.take (1 : Nat) [D.int (↑x : Int)] = [D.int a, D.int b, D.int (-1 : Int), D.int N] ++ numsL y ∧ True)) ∧ ((((↑x : Int) < bif false then max N (30 : Int) else
 min N (30 : Int)) → False) → (∃ (x : Nat), x.le (4 : Nat) ∧ ((0 : Int) = (↑x : Int) ∧ True) ∧ True) ∧ ∀ (x : Nat), x.le (4 : Nat) → (4 : Nat) - x < LIM ∧ ((↑x : Int) < (↑(4 : Nat) : Int) → (0 : Int) ≤
 (↑x : Int) ∧ (↑x : Int) < (↑(4 : Nat) : Int) ∧ x < [D.int a, D.int b, D.int (-1 : Int), D.int N].length ∧ (0 : Nat) + (4 : Nat) ≤ [D.int a, D.int b, D.int (-1 : Int), D.int N].length ∧ (asked (copyD
 l) l all ∧ i64P (nthD [D.int a, D.int b, D.int (-1 : Int), D.int N] x).asInt ∧ okInts (D.list (List.take (4 : Nat) [D.int a, D.int b, D.int (-1 : Int), D.int N]))) ∧ ((True → False) → (false = true ↔
 True)) ∧ (((True → False) → False) → ((-9223372036854775808 : Int) ≤ (↑x : Int) + (1 : Int) ∧ (↑x : Int) + (1 : Int) < (9223372036854775808 : Int)) ∧ ∃ (y : Nat), y.le (4 : Nat) ∧ (4 : Nat) - y < (4 :
 Nat) - x ∧ ((↑x : Int) + (1 : Int) = (↑y : Int) ∧ True) ∧ True)) ∧ (((↑x : Int) < (↑(4 : Nat) : Int) → False) → smallD (copyD l) ∧ (sameAll (copyD l) l ↔ True)))) ∧ ∀ (x : Nat), (0 : Nat) < x ∧ x ≤
 (bif false then max N (30 : Int) else min N (30 : Int)).toNat → (bif false then max N (30 : Int) else min N (30 : Int)).toNat - x < LIM ∧ (((↑x : Int) < bif false then max N (30 : Int) else min N (30
 : Int)) → (0 : Nat) + (1 : Nat) ≤ [D.int (↑x : Int)].length ∧ (0 : Nat) + ((4 : Nat) + x) ≤ ([D.int a, D.int b, D.int (-1 : Int), D.int N] ++ numsL x).length ∧ (4 : Nat) + x + (1 : Nat) ≤ (16777216 :
 Nat) ∧ ((-9223372036854775808 : Int) ≤ (↑x : Int) + (1 : Int) ∧ (↑x : Int) + (1 : Int) < (9223372036854775808 : Int)) ∧ ((∃ (y : Nat), y = (0 : Nat) ∧ (bif false then max N (30 : Int) else min N (30 :
 Int)).toNat - y < (bif false then max N (30 : Int) else min N (30 : Int)).toNat - x ∧ False) ∨ ∃ (y : Nat), ((0 : Nat) < y ∧ y ≤ (bif false then max N (30 : Int) else min N (30 : Int)).toNat) ∧ (bif
 false then max N (30 : Int) else min N (30 : Int)).toNat - y < (bif false then max N (30 : Int) else min N (30 : Int)).toNat - x ∧ ((↑x : Int) + (1 : Int) = (↑y : Int) ∧ ((0 : Nat) = (0 : Nat) ∧ (4 :
 Nat) + x + (1 : Nat) = (4 : Nat) + y ∧ True) ∧ True) ∧ List.take ((4 : Nat) + x) ([D.int a, D.int b, D.int (-1 : Int), D.int N] ++ numsL x) ++ List.take (1 : Nat) [D.int (↑x : Int)] = [D.int a, D.int
 b, D.int (-1 : Int), D.int N] ++ numsL y ∧ True)) ∧ ((((↑x : Int) < bif false then max N (30 : Int) else min N (30 : Int)) → False) → (∃ (x_1 : Nat), x_1.le ((4 : Nat) + x) ∧ ((0 : Int) = (↑x_1 : Int)
 ∧ True) ∧ True) ∧ ∀ (x_1 : Nat), x_1.le ((4 : Nat) + x) → (4 : Nat) + x - x_1 < LIM ∧ ((↑x_1 : Int) < (↑((4 : Nat) + x) : Int) → (0 : Int) ≤ (↑x_1 : Int) ∧ (↑x_1 : Int) < (↑((4 : Nat) + x) : Int) ∧
 x_1 < ([D.int a, D.int b, D.int (-1 : Int), D.int N] ++ numsL x).length ∧ (0 : Nat) + ((4 : Nat) + x) ≤ ([D.int a, D.int b, D.int (-1 : Int), D.int N] ++ numsL x).length ∧ (asked (copyD l) l all ∧
 i64P (nthD ([D.int a, D.int b, D.int (-1 : Int), D.int N] ++ numsL x) x_1).asInt ∧ okInts (D.list (List.take ((4 : Nat) + x) ([D.int a, D.int b, D.int (-1 : Int), D.int N] ++ numsL x)))) ∧ ((True →
 False) → (false = true ↔ True)) ∧ (((True → False) → False) → ((-9223372036854775808 : Int) ≤ (↑x_1 : Int) + (1 : Int) ∧ (↑x_1 : Int) + (1 : Int) < (9223372036854775808 : Int)) ∧ ∃ (y : Nat), y.le ((4
 : Nat) + x) ∧ (4 : Nat) + x - y < (4 : Nat) + x - x_1 ∧ ((↑x_1 : Int) + (1 : Int) = (↑y : Int) ∧ True) ∧ True)) ∧ (((↑x_1 : Int) < (↑((4 : Nat) + x) : Int) → False) → smallD (copyD l) ∧ (sameAll
 (copyD l) l ↔ True)))
theorem list_cond (l all : D) (a b N : Int) (ha : asked (copyD l) l all) (hN : 0 ≤ N ∧ N ≤ 100000) (hai : i64P a) (hbi : i64P b) : ListC l all a b N := by
  unfold ListC
  have hai' := hai.out
  have hbi' := hbi.out
  have hM : (bif false then max N (30 : Int) else min N 30) = min N 30 := rfl
  rw [hM]
  simp only [imp_false]
  have hLIM : ∀ m : Nat, m ≤ 64 → m < LIM := fun m h => by unfold LIM; omega
  have nl : ∀ x, (numsL x).length = x := fun x => by simp [numsL]
  have mem : ∀ x, x ≤ 30 → ∀ d ∈ ([D.int a, D.int b, D.int (-1), D.int N] ++ numsL x), i64P d.asInt := fun x hx d hd => by
    rcases List.mem_append.1 hd with h | h
    · simp only [List.mem_cons, List.not_mem_nil, or_false] at h
      rcases h with rfl | rfl | rfl | rfl
      · exact hai
      · exact hbi
      · exact ⟨by show -9223372036854775808 ≤ (-1 : Int) ∧ (-1 : Int) < 9223372036854775808; omega⟩
      · exact ⟨by show -9223372036854775808 ≤ N ∧ N < 9223372036854775808; omega⟩
    · unfold numsL at h
      obtain ⟨m, hm, rfl⟩ := List.mem_map.1 h
      have := List.mem_range.1 hm
      exact ⟨by show -9223372036854775808 ≤ (m : Int) ∧ (m : Int) < 9223372036854775808; omega⟩
  have len : ∀ x, ([D.int a, D.int b, D.int (-1), D.int N] ++ numsL x).length = 4 + x := fun x => by rw [List.length_append, nl]; rfl
  have elt : ∀ x, x ≤ 30 → ∀ j, j < 4 + x → i64P (nthD ([D.int a, D.int b, D.int (-1), D.int N] ++ numsL x) j).asInt := fun x hx j hj => by
    rw [nthD_get _ _ (by rw [len]; exact hj)]
    exact mem x hx _ (List.getElem_mem _)
  have ints : ∀ x, x ≤ 30 → okInts (.list (List.take (4 + x) ([D.int a, D.int b, D.int (-1), D.int N] ++ numsL x))) := fun x hx => by
    rw [List.take_of_length_le (by rw [len]; exact Nat.le_refl _)]
    refine ⟨by rw [len_list, len]; omega, fun j hj => ?_⟩
    rw [len_list, len] at hj
    exact elt x hx j hj
  have hsame := c_same l
  have hcs := c_small ha.small
  have z0 : ∀ {x : Nat}, numsL 0 = [] := rfl
  refine ⟨.inl ⟨0, rfl, by simp⟩, fun x hx => ?_, fun x hx => ?_⟩
  · subst hx
    refine ⟨hLIM _ (by omega), fun hlt => ⟨by simp, by simp, by omega, by omega, .inr ⟨1, ⟨by omega, by omega⟩, by omega, (by simp), rfl, trivial⟩⟩, fun hge => ⟨⟨0, Nat.zero_le _, (by simp), trivial⟩, fun z hz => ?_⟩⟩
    have hz : z ≤ 4 := hz
    refine ⟨hLIM _ (by omega), fun hlt => ⟨by omega, hlt, by show z < 4; omega, Nat.le_refl 4, ⟨ha, elt 0 (by omega) z (by omega), ints 0 (by omega)⟩, fun h => absurd trivial h, fun _ => ⟨by omega, z + 1, show z + 1 ≤ 4 by omega, by omega, (by simp), trivial⟩⟩, fun _ => ⟨hcs, (by simp [hsame])⟩⟩
  · obtain ⟨hx0, hx1⟩ := hx
    refine ⟨hLIM _ (by omega), fun hlt => ⟨by simp, by rw [len]; omega, by omega, by omega, .inr ⟨x + 1, ⟨by omega, by omega⟩, by omega, (by simp; try omega), ?_, trivial⟩⟩, fun hge => ⟨⟨0, Nat.zero_le _, (by simp), trivial⟩, fun z hz => ?_⟩⟩
    · rw [List.take_of_length_le (by rw [len]; exact Nat.le_refl _)]
      unfold numsL
      rw [List.range_succ, List.map_append, List.append_assoc]; rfl
    · have hz : z ≤ 4 + x := hz
      refine ⟨hLIM _ (by omega), fun hlt => ⟨by omega, hlt, by rw [len]; omega, by rw [len]; omega, ⟨ha, elt x (by omega) z (by omega), ints x (by omega)⟩, fun h => absurd trivial h, fun _ => ⟨by omega, z + 1, show z + 1 ≤ 4 + x by omega, by omega, (by simp), trivial⟩⟩, fun _ => ⟨hcs, (by simp [hsame])⟩⟩
theorem vc22 : ∀ (l : D) (a b : Int), symFun (ctx rl3 rlAnn) 4 (22 : FuncId) [V.dat (22 : TypeId) l, V.int IntKind.i64 a, V.int IntKind.i64 b] (V.prop True) = (smallD l ∧ smallD l ∧ ((badZ l).snd = 0 → l.len ≤ 100 ∧
 ListC l (listD (seatsL l l.len)) a b ((listD (seatsL l l.len)).len : Int)) ∧ (((badZ l).snd = 0 → False) → ListC l .nil a b 0)) := by intros; kernel_rfl
theorem vc4 : ∀ (l : D) (a b : Int), symFun (ctx rl4 rlAnn) 4 (4 : FuncId) [V.dat (22 : TypeId) l, V.int IntKind.i64 a, V.int IntKind.i64 b] (V.prop True) = (True ∧ (((fewD l → False) → False) → ((4 < (l.len : Int) →
 False) → (fewD l ∧ l.len ≤ 4 ∧ i64P a ∧ i64P b) ∧ (True → (true = true ↔ True)) ∧ ((True → False) → (false = true ↔ True))) ∧ (4 < (l.len : Int) → (true = true ↔ True))) ∧ ((fewD l → False) → (true = true ↔ True))) := by intros; kernel_rfl
theorem s22 (l : D) (a b : Int) (hf : fewD l) (h4 : l.len ≤ 4) (hai : i64P a) (hbi : i64P b) : symFun (ctx rl3 rlAnn) 4 22 [.dat 22 l, .int .i64 a, .int .i64 b] (.prop True) := by
  have hsm : smallD l := ⟨by omega, fun i hi => by have := (hf.out.2 i hi).out.2; omega⟩
  rw [vc22]
  have hlim := seats_lim l l.len
  refine ⟨hsm, hsm, fun hok => ⟨by omega, list_cond l (listD (seatsL l l.len)) a b ((listD (seatsL l l.len)).len : Int) ⟨rfl, hsm, by unfold allD; rw [if_pos ⟨hok⟩]⟩ ⟨by omega, by rw [listD_len]; omega⟩ hai hbi⟩, fun hok => list_cond l .nil a b 0 ⟨rfl, hsm, by unfold allD; rw [if_neg fun h => hok h.out]⟩ ⟨by omega, by omega⟩ hai hbi⟩
theorem v22 : ∀ d, 70 ≤ d → VC d 22 con22 := fun d hd =>
  valid_of_sym (C := ctx rl3 rlAnn) (G := GC) (B := 66) (m := 4) rfl rfl rfl vl3 (fun us p r hc hp ht => by
    unfold con22 at hc; split at hc
    · cases hc; exact s22 _ _ _ hp.1 hp.2.1 hp.2.2.1 hp.2.2.2
    · cases hc) (fun _ _ => rfl) rfl d hd
theorem vl4 : ∀ d, 70 ≤ d → ∀ g c, rl4 g = some c → VC d g c := fun d hd g c h => by
  unfold rl4 at h
  split at h
  · cases h; exact v22 d hd
  · exact vl3 d (by omega) _ c h
theorem s4 (l : D) (a b : Int) (hai : i64P a) (hbi : i64P b) : symFun (ctx rl4 rlAnn) 4 4 [.dat 22 l, .int .i64 a, .int .i64 b] (.prop True) := by
  rw [vc4]
  exact ⟨trivial, fun h => ⟨fun h1 => ⟨⟨Classical.byContradiction h, by have h1 : ¬ (4 : Int) < (l.len : Int) := h1; omega, hai, hbi⟩, fun _ => ⟨fun _ => trivial, fun _ => rfl⟩, fun h => absurd trivial h⟩, fun _ => ⟨fun _ => trivial, fun _ => rfl⟩⟩, fun _ => ⟨fun _ => trivial, fun _ => rfl⟩⟩
theorem v4 : ∀ d, 74 ≤ d → VC d 4 con4 := fun d hd =>
  valid_of_sym (C := ctx rl4 rlAnn) (G := GC) (B := 70) (m := 4) rfl rfl rfl vl4 (fun us p r hc hp ht => by
    unfold con4 at hc; split at hc
    · cases hc; exact s4 _ _ _ hp.1 hp.2
    · cases hc) (fun _ _ => rfl) rfl d hd
end Go.Ev
