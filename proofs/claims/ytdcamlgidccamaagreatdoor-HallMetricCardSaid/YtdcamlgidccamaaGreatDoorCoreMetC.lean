/-
  Part of the engine that the claim is proved with: it states nothing of the document by itself.
-/
import Derived.Test.YtdcamlgidccamaaGreatDoorCoreMetG
import Derived.Test.YtdcamlgidccamaaGreatDoorCoreLev
open Go.Proofs
namespace Go.Ev
set_option maxRecDepth 100000
set_option maxHeartbeats 4000000
theorem vc11 : ∀ (sh a b : Int) (o : D), symFun (ctx met2 metAnn) 4 (11 : FuncId) [V.agg [V.int IntKind.u8 sh, V.int IntKind.u8 a, V.int IntKind.u8 b, V.dat (39 : TypeId) o]] (V.prop True) = ((byteP sh ∧ byteP a ∧ byteP
 b ∧ bytesP o) ∧ ((True → False) → (false = true ↔ True)) ∧ (((True → False) → False) → (∃ (x : Nat), x.le (oneN sh a b o).toNat ∧ (0 = (x : Int) ∧ True) ∧ List.replicate (24 * 24) (D.int 0) = gridL (oneN sh a b o).toNat
 (farF (oneD sh a b o)) x 0 ∧ True) ∧ ∀ (x : Nat), x.le (oneN sh a b o).toNat → (oneN sh a b o).toNat - x < LIM ∧ ((x : Int) < oneN sh a b o → (∃ (x_1 : Nat), x_1.le (oneN sh a b o).toNat ∧ (0 = (x_1 : Int) ∧ True) ∧
 gridL (oneN sh a b o).toNat (farF (oneD sh a b o)) x 0 = gridL (oneN sh a b o).toNat (farF (oneD sh a b o)) x x_1 ∧ True) ∧ ∀ (x_1 : Nat), x_1.le (oneN sh a b o).toNat → (oneN sh a b o).toNat - x_1 < LIM ∧ ((x_1 : Int) <
 oneN sh a b o → (smallD (oneD sh a b o) ∧ i64P (x : Int) ∧ i64P (x_1 : Int)) ∧ ((distP (oneD sh a b o) (x : Int) (x_1 : Int) → False) → ((distP (oneD sh a b o) (x : Int) (x_1 : Int) → False) → ((((false = true ↔ (x :
 Int) = (x_1 : Int)) → False) → False) → (smallD (oneD sh a b o) ∧ i64P (x : Int) ∧ i64P (x_1 : Int)) ∧ ((((false = true ↔ nearH (oneD sh a b o) (x : Int) (x_1 : Int)) → False) → False) → (smallD (oneD sh a b o) ∧ i64P (x
 : Int) ∧ i64P (x_1 : Int)) ∧ (smallD (oneD sh a b o) ∧ i64P (x : Int) ∧ i64P (x_1 : Int)) ∧ ((besideH (oneD sh a b o) (x : Int) (x_1 : Int) → False) → (smallD (oneD sh a b o) ∧ i64P (x : Int) ∧ i64P (x_1 : Int)) ∧
 (((nearH (oneD sh a b o) (x : Int) (x_1 : Int) ↔ acrossH (oneD sh a b o) (x : Int) (x_1 : Int)) → False) → (false = true ↔ True)) ∧ ((((nearH (oneD sh a b o) (x : Int) (x_1 : Int) ↔ acrossH (oneD sh a b o) (x : Int) (x_1
 : Int)) → False) → False) → 0 ≤ (x : Int) ∧ (x : Int) < (↑(24 : Nat) : Int) ∧ 0 ≤ (x_1 : Int) ∧ (x_1 : Int) < (↑(24 : Nat) : Int) ∧ x * (ctx met2 metAnn).P.types[44].size + x_1 * (ctx met2 metAnn).P.types[3].size <
 (gridL (oneN sh a b o).toNat (farF (oneD sh a b o)) x x_1).length ∧ ((-9223372036854775808) ≤ (x_1 : Int) + 1 ∧ (x_1 : Int) + 1 < 9223372036854775808) ∧ ∃ (y : Nat), y.le (oneN sh a b o).toNat ∧ (oneN sh a b o).toNat - y
 < (oneN sh a b o).toNat - x_1 ∧ ((x_1 : Int) + 1 = (y : Int) ∧ True) ∧ (gridL (oneN sh a b o).toNat (farF (oneD sh a b o)) x x_1).set (x * (ctx met2 metAnn).P.types[44].size + x_1 * (ctx met2 metAnn).P.types[3].size)
 (D.int 99) = gridL (oneN sh a b o).toNat (farF (oneD sh a b o)) x y ∧ True)) ∧ (besideH (oneD sh a b o) (x : Int) (x_1 : Int) → (((nearH (oneD sh a b o) (x : Int) (x_1 : Int) ↔ true = true) → False) → (false = true ↔
 True)) ∧ ((((nearH (oneD sh a b o) (x : Int) (x_1 : Int) ↔ true = true) → False) → False) → 0 ≤ (x : Int) ∧ (x : Int) < (↑(24 : Nat) : Int) ∧ 0 ≤ (x_1 : Int) ∧ (x_1 : Int) < (↑(24 : Nat) : Int) ∧ x * (ctx met2
 metAnn).P.types[44].size + x_1 * (ctx met2 metAnn).P.types[3].size < (gridL (oneN sh a b o).toNat (farF (oneD sh a b o)) x x_1).length ∧ ((-9223372036854775808) ≤ (x_1 : Int) + 1 ∧ (x_1 : Int) + 1 < 9223372036854775808)
 ∧ ∃ (y : Nat), y.le (oneN sh a b o).toNat ∧ (oneN sh a b o).toNat - y < (oneN sh a b o).toNat - x_1 ∧ ((x_1 : Int) + 1 = (y : Int) ∧ True) ∧ (gridL (oneN sh a b o).toNat (farF (oneD sh a b o)) x x_1).set (x * (ctx met2
 metAnn).P.types[44].size + x_1 * (ctx met2 metAnn).P.types[3].size) (D.int 99) = gridL (oneN sh a b o).toNat (farF (oneD sh a b o)) x y ∧ True))) ∧ (((false = true ↔ nearH (oneD sh a b o) (x : Int) (x_1 : Int)) → False)
 → (false = true ↔ True))) ∧ (((false = true ↔ (x : Int) = (x_1 : Int)) → False) → (false = true ↔ True))) ∧ (((distP (oneD sh a b o) (x : Int) (x_1 : Int) → False) → False) → ((((false = true ↔ (x : Int) = (x_1 : Int)) →
 False) → False) → (smallD (oneD sh a b o) ∧ i64P (x : Int) ∧ i64P (x_1 : Int)) ∧ ((((false = true ↔ nearH (oneD sh a b o) (x : Int) (x_1 : Int)) → False) → False) → (smallD (oneD sh a b o) ∧ i64P (x : Int) ∧ i64P (x_1 :
 Int)) ∧ (smallD (oneD sh a b o) ∧ i64P (x : Int) ∧ i64P (x_1 : Int)) ∧ ((besideH (oneD sh a b o) (x : Int) (x_1 : Int) → False) → (smallD (oneD sh a b o) ∧ i64P (x : Int) ∧ i64P (x_1 : Int)) ∧ (((nearH (oneD sh a b o) (x
 : Int) (x_1 : Int) ↔ acrossH (oneD sh a b o) (x : Int) (x_1 : Int)) → False) → (false = true ↔ True)) ∧ ((((nearH (oneD sh a b o) (x : Int) (x_1 : Int) ↔ acrossH (oneD sh a b o) (x : Int) (x_1 : Int)) → False) → False) →
 0 ≤ (x : Int) ∧ (x : Int) < (↑(24 : Nat) : Int) ∧ 0 ≤ (x_1 : Int) ∧ (x_1 : Int) < (↑(24 : Nat) : Int) ∧ x * (ctx met2 metAnn).P.types[44].size + x_1 * (ctx met2 metAnn).P.types[3].size < (gridL (oneN sh a b o).toNat
 (farF (oneD sh a b o)) x x_1).length ∧ ((-9223372036854775808) ≤ (x_1 : Int) + 1 ∧ (x_1 : Int) + 1 < 9223372036854775808) ∧ ∃ (y : Nat), y.le (oneN sh a b o).toNat ∧ (oneN sh a b o).toNat - y < (oneN sh a b o).toNat -
 x_1 ∧ ((x_1 : Int) + 1 = (y : Int) ∧ True) ∧ (gridL (oneN sh a b o).toNat (farF (oneD sh a b o)) x x_1).set (x * (ctx met2 metAnn).P.types[44].size + x_1 * (ctx met2 metAnn).P.types[3].size) (D.int 99) = gridL (oneN sh a
 b o).toNat (farF (oneD sh a b o)) x y ∧ True)) ∧ (besideH (oneD sh a b o) (x : Int) (x_1 : Int) → (((nearH (oneD sh a b o) (x : Int) (x_1 : Int) ↔ true = true) → False) → (false = true ↔ True)) ∧ ((((nearH (oneD sh a b
 o) (x : Int) (x_1 : Int) ↔ true = true) → False) → False) → 0 ≤ (x : Int) ∧ (x : Int) < (↑(24 : Nat) : Int) ∧ 0 ≤ (x_1 : Int) ∧ (x_1 : Int) < (↑(24 : Nat) : Int) ∧ x * (ctx met2 metAnn).P.types[44].size + x_1 * (ctx met2
 metAnn).P.types[3].size < (gridL (oneN sh a b o).toNat (farF (oneD sh a b o)) x x_1).length ∧ ((-9223372036854775808) ≤ (x_1 : Int) + 1 ∧ (x_1 : Int) + 1 < 9223372036854775808) ∧ ∃ (y : Nat), y.le (oneN sh a b o).toNat ∧
 (oneN sh a b o).toNat - y < (oneN sh a b o).toNat - x_1 ∧ ((x_1 : Int) + 1 = (y : Int) ∧ True) ∧ (gridL (oneN sh a b o).toNat (farF (oneD sh a b o)) x x_1).set (x * (ctx met2 metAnn).P.types[44].size + x_1 * (ctx met2
 metAnn).P.types[3].size) (D.int 99) = gridL (oneN sh a b o).toNat (farF (oneD sh a b o)) x y ∧ True))) ∧ (((false = true ↔ nearH (oneD sh a b o) (x : Int) (x_1 : Int)) → False) → (false = true ↔ True))) ∧ (((false = true
 ↔ (x : Int) = (x_1 : Int)) → False) → (false = true ↔ True)))) ∧ (((distP (oneD sh a b o) (x : Int) (x_1 : Int) → False) → False) → ((distH (oneD sh a b o) (x : Int) (x_1 : Int) < 0 → False) → ((distP (oneD sh a b o) (x
 : Int) (x_1 : Int) → False) → (((distH (oneD sh a b o) (x : Int) (x_1 : Int) = 99 → False) → False) → ((((distH (oneD sh a b o) (x : Int) (x_1 : Int) = 0 ↔ (x : Int) = (x_1 : Int)) → False) → False) → (smallD (oneD sh a
 b o) ∧ i64P (x : Int) ∧ i64P (x_1 : Int)) ∧ ((((distH (oneD sh a b o) (x : Int) (x_1 : Int) = 1 ↔ nearH (oneD sh a b o) (x : Int) (x_1 : Int)) → False) → False) → (smallD (oneD sh a b o) ∧ i64P (x : Int) ∧ i64P (x_1 :
 Int)) ∧ (smallD (oneD sh a b o) ∧ i64P (x : Int) ∧ i64P (x_1 : Int)) ∧ ((besideH (oneD sh a b o) (x : Int) (x_1 : Int) → False) → (smallD (oneD sh a b o) ∧ i64P (x : Int) ∧ i64P (x_1 : Int)) ∧ (((nearH (oneD sh a b o) (x
 : Int) (x_1 : Int) ↔ acrossH (oneD sh a b o) (x : Int) (x_1 : Int)) → False) → (false = true ↔ True)) ∧ ((((nearH (oneD sh a b o) (x : Int) (x_1 : Int) ↔ acrossH (oneD sh a b o) (x : Int) (x_1 : Int)) → False) → False) →
 0 ≤ (x : Int) ∧ (x : Int) < (↑(24 : Nat) : Int) ∧ 0 ≤ (x_1 : Int) ∧ (x_1 : Int) < (↑(24 : Nat) : Int) ∧ x * (ctx met2 metAnn).P.types[44].size + x_1 * (ctx met2 metAnn).P.types[3].size < (gridL (oneN sh a b o).toNat
 (farF (oneD sh a b o)) x x_1).length ∧ ((-9223372036854775808) ≤ (x_1 : Int) + 1 ∧ (x_1 : Int) + 1 < 9223372036854775808) ∧ ∃ (y : Nat), y.le (oneN sh a b o).toNat ∧ (oneN sh a b o).toNat - y < (oneN sh a b o).toNat -
 x_1 ∧ ((x_1 : Int) + 1 = (y : Int) ∧ True) ∧ (gridL (oneN sh a b o).toNat (farF (oneD sh a b o)) x x_1).set (x * (ctx met2 metAnn).P.types[44].size + x_1 * (ctx met2 metAnn).P.types[3].size) (D.int (distH (oneD sh a b o)
 (x : Int) (x_1 : Int))) = gridL (oneN sh a b o).toNat (farF (oneD sh a b o)) x y ∧ True)) ∧ (besideH (oneD sh a b o) (x : Int) (x_1 : Int) → (((nearH (oneD sh a b o) (x : Int) (x_1 : Int) ↔ true = true) → False) → (false
 = true ↔ True)) ∧ ((((nearH (oneD sh a b o) (x : Int) (x_1 : Int) ↔ true = true) → False) → False) → 0 ≤ (x : Int) ∧ (x : Int) < (↑(24 : Nat) : Int) ∧ 0 ≤ (x_1 : Int) ∧ (x_1 : Int) < (↑(24 : Nat) : Int) ∧ x * (ctx met2
 metAnn).P.types[44].size + x_1 * (ctx met2 metAnn).P.types[3].size < (gridL (oneN sh a b o).toNat (farF (oneD sh a b o)) x x_1).length ∧ ((-9223372036854775808) ≤ (x_1 : Int) + 1 ∧ (x_1 : Int) + 1 < 9223372036854775808)
 ∧ ∃ (y : Nat), y.le (oneN sh a b o).toNat ∧ (oneN sh a b o).toNat - y < (oneN sh a b o).toNat - x_1 ∧ ((x_1 : Int) + 1 = (y : Int) ∧ True) ∧ (gridL (oneN sh a b o).toNat (farF (oneD sh a b o)) x x_1).set (x * (ctx met2
 metAnn).P.types[44].size + x_1 * (ctx met2 metAnn).P.types[3].size) (D.int (distH (oneD sh a b o) (x : Int) (x_1 : Int))) = gridL (oneN sh a b o).toNat (farF (oneD sh a b o)) x y ∧ True))) ∧ (((distH (oneD sh a b o) (x :
 Int) (x_1 : Int) = 1 ↔ nearH (oneD sh a b o) (x : Int) (x_1 : Int)) → False) → (false = true ↔ True))) ∧ (((distH (oneD sh a b o) (x : Int) (x_1 : Int) = 0 ↔ (x : Int) = (x_1 : Int)) → False) → (false = true ↔ True))) ∧
 ((distH (oneD sh a b o) (x : Int) (x_1 : Int) = 99 → False) → (false = true ↔ True))) ∧ (((distP (oneD sh a b o) (x : Int) (x_1 : Int) → False) → False) → ((((distH (oneD sh a b o) (x : Int) (x_1 : Int) = 0 ↔ (x : Int) =
 (x_1 : Int)) → False) → False) → (smallD (oneD sh a b o) ∧ i64P (x : Int) ∧ i64P (x_1 : Int)) ∧ ((((distH (oneD sh a b o) (x : Int) (x_1 : Int) = 1 ↔ nearH (oneD sh a b o) (x : Int) (x_1 : Int)) → False) → False) →
 (smallD (oneD sh a b o) ∧ i64P (x : Int) ∧ i64P (x_1 : Int)) ∧ (smallD (oneD sh a b o) ∧ i64P (x : Int) ∧ i64P (x_1 : Int)) ∧ ((besideH (oneD sh a b o) (x : Int) (x_1 : Int) → False) → (smallD (oneD sh a b o) ∧ i64P (x :
 Int) ∧ i64P (x_1 : Int)) ∧ (((nearH (oneD sh a b o) (x : Int) (x_1 : Int) ↔ acrossH (oneD sh a b o) (x : Int) (x_1 : Int)) → False) → (false = true ↔ True)) ∧ ((((nearH (oneD sh a b o) (x : Int) (x_1 : Int) ↔ acrossH
 (oneD sh a b o) (x : Int) (x_1 : Int)) → False) → False) → 0 ≤ (x : Int) ∧ (x : Int) < (↑(24 : Nat) : Int) ∧ 0 ≤ (x_1 : Int) ∧ (x_1 : Int) < (↑(24 : Nat) : Int) ∧ x * (ctx met2 metAnn).P.types[44].size + x_1 * (ctx met2
 metAnn).P.types[3].size < (gridL (oneN sh a b o).toNat (farF (oneD sh a b o)) x x_1).length ∧ ((-9223372036854775808) ≤ (x_1 : Int) + 1 ∧ (x_1 : Int) + 1 < 9223372036854775808) ∧ ∃ (y : Nat), y.le (oneN sh a b o).toNat ∧
 (oneN sh a b o).toNat - y < (oneN sh a b o).toNat - x_1 ∧ ((x_1 : Int) + 1 = (y : Int) ∧ True) ∧ (gridL (oneN sh a b o).toNat (farF (oneD sh a b o)) x x_1).set (x * (ctx met2 metAnn).P.types[44].size + x_1 * (ctx met2
 metAnn).P.types[3].size) (D.int (distH (oneD sh a b o) (x : Int) (x_1 : Int))) = gridL (oneN sh a b o).toNat (farF (oneD sh a b o)) x y ∧ True)) ∧ (besideH (oneD sh a b o) (x : Int) (x_1 : Int) → (((nearH (oneD sh a b o)
 (x : Int) (x_1 : Int) ↔ true = true) → False) → (false = true ↔ True)) ∧ ((((nearH (oneD sh a b o) (x : Int) (x_1 : Int) ↔ true = true) → False) → False) → 0 ≤ (x : Int) ∧ (x : Int) < (↑(24 : Nat) : Int) ∧ 0 ≤ (x_1 :
 Int) ∧ (x_1 : Int) < (↑(24 : Nat) : Int) ∧ x * (ctx met2 metAnn).P.types[44].size + x_1 * (ctx met2 metAnn).P.types[3].size < (gridL (oneN sh a b o).toNat (farF (oneD sh a b o)) x x_1).length ∧ ((-9223372036854775808) ≤
 (x_1 : Int) + 1 ∧ (x_1 : Int) + 1 < 9223372036854775808) ∧ ∃ (y : Nat), y.le (oneN sh a b o).toNat ∧ (oneN sh a b o).toNat - y < (oneN sh a b o).toNat - x_1 ∧ ((x_1 : Int) + 1 = (y : Int) ∧ True) ∧ (gridL (oneN sh a b
 o).toNat (farF (oneD sh a b o)) x x_1).set (x * (ctx met2 metAnn).P.types[44].size + x_1 * (ctx met2 metAnn).P.types[3].size) (D.int (distH (oneD sh a b o) (x : Int) (x_1 : Int))) = gridL (oneN sh a b o).toNat (farF
 (oneD sh a b o)) x y ∧ True))) ∧ (((distH (oneD sh a b o) (x : Int) (x_1 : Int) = 1 ↔ nearH (oneD sh a b o) (x : Int) (x_1 : Int)) → False) → (false = true ↔ True))) ∧ (((distH (oneD sh a b o) (x : Int) (x_1 : Int) = 0 ↔
 (x : Int) = (x_1 : Int)) → False) → (false = true ↔ True)))) ∧ (distH (oneD sh a b o) (x : Int) (x_1 : Int) < 0 → (false = true ↔ True)))) ∧ (((x_1 : Int) < oneN sh a b o → False) → ((-9223372036854775808) ≤ (x : Int) +
 1 ∧ (x : Int) + 1 < 9223372036854775808) ∧ ∃ (y : Nat), y.le (oneN sh a b o).toNat ∧ (oneN sh a b o).toNat - y < (oneN sh a b o).toNat - x ∧ ((x : Int) + 1 = (y : Int) ∧ True) ∧ gridL (oneN sh a b o).toNat (farF (oneD sh
 a b o)) x x_1 = gridL (oneN sh a b o).toNat (farF (oneD sh a b o)) y 0 ∧ True)) ∧ (((x : Int) < oneN sh a b o → False) → (∃ (x : Nat), x.le (oneN sh a b o).toNat ∧ (0 = (x : Int) ∧ True) ∧ True) ∧ ∀ (x_1 : Nat), x_1.le
 (oneN sh a b o).toNat → (oneN sh a b o).toNat - x_1 < LIM ∧ ((x_1 : Int) < oneN sh a b o → (∃ (x : Nat), x.le (oneN sh a b o).toNat ∧ (0 = (x : Int) ∧ True) ∧ True) ∧ ∀ (x_2 : Nat), x_2.le (oneN sh a b o).toNat → (oneN
 sh a b o).toNat - x_2 < LIM ∧ ((x_2 : Int) < oneN sh a b o → (∃ (x : Nat), x.le (oneN sh a b o).toNat ∧ (0 = (x : Int) ∧ True) ∧ True) ∧ ∀ (x_3 : Nat), x_3.le (oneN sh a b o).toNat → (oneN sh a b o).toNat - x_3 < LIM ∧
 ((x_3 : Int) < oneN sh a b o → 0 ≤ (x_1 : Int) ∧ (x_1 : Int) < (↑(24 : Nat) : Int) ∧ 0 ≤ (x_2 : Int) ∧ (x_2 : Int) < (↑(24 : Nat) : Int) ∧ x_1 * (ctx met2 metAnn).P.types[44].size + x_2 * (ctx met2
 metAnn).P.types[3].size < (gridL (oneN sh a b o).toNat (farF (oneD sh a b o)) x 0).length ∧ 0 ≤ (x_2 : Int) ∧ (x_2 : Int) < (↑(24 : Nat) : Int) ∧ 0 ≤ (x_1 : Int) ∧ (x_1 : Int) < (↑(24 : Nat) : Int) ∧ x_2 * (ctx met2
 metAnn).P.types[44].size + x_1 * (ctx met2 metAnn).P.types[3].size < (gridL (oneN sh a b o).toNat (farF (oneD sh a b o)) x 0).length ∧ ((((nthD (gridL (oneN sh a b o).toNat (farF (oneD sh a b o)) x 0) (x_1 * (ctx met2
 metAnn).P.types[44].size + x_2 * (ctx met2 metAnn).P.types[3].size)).asInt = (nthD (gridL (oneN sh a b o).toNat (farF (oneD sh a b o)) x 0) (x_2 * (ctx met2 metAnn).P.types[44].size + x_1 * (ctx met2
 metAnn).P.types[3].size)).asInt → False) → False) → 0 ≤ (x_1 : Int) ∧ (x_1 : Int) < (↑(24 : Nat) : Int) ∧ 0 ≤ (x_2 : Int) ∧ (x_2 : Int) < (↑(24 : Nat) : Int) ∧ x_1 * (ctx met2 metAnn).P.types[44].size + x_2 * (ctx met2
 metAnn).P.types[3].size < (gridL (oneN sh a b o).toNat (farF (oneD sh a b o)) x 0).length ∧ ((nthD (gridL (oneN sh a b o).toNat (farF (oneD sh a b o)) x 0) (x_1 * (ctx met2 metAnn).P.types[44].size + x_2 * (ctx met2
 metAnn).P.types[3].size)).asInt < 99 → 0 ≤ (x_2 : Int) ∧ (x_2 : Int) < (↑(24 : Nat) : Int) ∧ 0 ≤ (x_3 : Int) ∧ (x_3 : Int) < (↑(24 : Nat) : Int) ∧ x_2 * (ctx met2 metAnn).P.types[44].size + x_3 * (ctx met2
 metAnn).P.types[3].size < (gridL (oneN sh a b o).toNat (farF (oneD sh a b o)) x 0).length ∧ ((nthD (gridL (oneN sh a b o).toNat (farF (oneD sh a b o)) x 0) (x_2 * (ctx met2 metAnn).P.types[44].size + x_3 * (ctx met2
 metAnn).P.types[3].size)).asInt < 99 → 0 ≤ (x_1 : Int) ∧ (x_1 : Int) < (↑(24 : Nat) : Int) ∧ 0 ≤ (x_3 : Int) ∧ (x_3 : Int) < (↑(24 : Nat) : Int) ∧ x_1 * (ctx met2 metAnn).P.types[44].size + x_3 * (ctx met2
 metAnn).P.types[3].size < (gridL (oneN sh a b o).toNat (farF (oneD sh a b o)) x 0).length ∧ 0 ≤ (x_1 : Int) ∧ (x_1 : Int) < (↑(24 : Nat) : Int) ∧ 0 ≤ (x_2 : Int) ∧ (x_2 : Int) < (↑(24 : Nat) : Int) ∧ x_1 * (ctx met2
 metAnn).P.types[44].size + x_2 * (ctx met2 metAnn).P.types[3].size < (gridL (oneN sh a b o).toNat (farF (oneD sh a b o)) x 0).length ∧ 0 ≤ (x_2 : Int) ∧ (x_2 : Int) < (↑(24 : Nat) : Int) ∧ 0 ≤ (x_3 : Int) ∧ (x_3 : Int) <
 (↑(24 : Nat) : Int) ∧ x_2 * (ctx met2 metAnn).P.types[44].size + x_3 * (ctx met2 metAnn).P.types[3].size < (gridL (oneN sh a b o).toNat (farF (oneD sh a b o)) x 0).length ∧ ((-9223372036854775808) ≤ (nthD (gridL (oneN sh
 a b o).toNat (farF (oneD sh a b o)) x 0) (x_1 * (ctx met2 metAnn).P.types[44].size + x_2 * (ctx met2 metAnn).P.types[3].size)).asInt + (nthD (gridL (oneN sh a b o).toNat (farF (oneD sh a b o)) x 0) (x_2 * (ctx met2
 metAnn).P.types[44].size + x_3 * (ctx met2 metAnn).P.types[3].size)).asInt ∧ (nthD (gridL (oneN sh a b o).toNat (farF (oneD sh a b o)) x 0) (x_1 * (ctx met2 metAnn).P.types[44].size + x_2 * (ctx met2
 metAnn).P.types[3].size)).asInt + (nthD (gridL (oneN sh a b o).toNat (farF (oneD sh a b o)) x 0) (x_2 * (ctx met2 metAnn).P.types[44].size + x_3 * (ctx met2 metAnn).P.types[3].size)).asInt < 9223372036854775808) ∧ ((nthD
 (gridL (oneN sh a b o).toNat (farF (oneD sh a b o)) x 0) (x_1 * (ctx met2 metAnn).P.types[44].size + x_2 * (ctx met2 metAnn).P.types[3].size)).asInt + (nthD (gridL (oneN sh a b o).toNat (farF (oneD sh a b o)) x 0) (x_2 *
 (ctx met2 metAnn).P.types[44].size + x_3 * (ctx met2 metAnn).P.types[3].size)).asInt < (nthD (gridL (oneN sh a b o).toNat (farF (oneD sh a b o)) x 0) (x_1 * (ctx met2 metAnn).P.types[44].size + x_3 * (ctx met2
 metAnn).P.types[3].size)).asInt → (false = true ↔ True)) ∧ (((nthD (gridL (oneN sh a b o).toNat (farF (oneD sh a b o)) x 0) (x_1 * (ctx met2 metAnn).P.types[44].size + x_2 * (ctx met2 metAnn).P.types[3].size)).asInt +
 (nthD (gridL (oneN sh a b o).toNat (farF (oneD sh a b o)) x 0) (x_2 * (ctx met2 metAnn).P.types[44].size + x_3 * (ctx met2 metAnn).P.types[3].size)).asInt < (nthD (gridL (oneN sh a b o).toNat (farF (oneD sh a b o)) x 0)
 (x_1 * (ctx met2 metAnn).P.types[44].size + x_3 * (ctx met2 metAnn).P.types[3].size)).asInt → False) → ((-9223372036854775808) ≤ (x_3 : Int) + 1 ∧ (x_3 : Int) + 1 < 9223372036854775808) ∧ ∃ (y : Nat), y.le (oneN sh a b
 o).toNat ∧ (oneN sh a b o).toNat - y < (oneN sh a b o).toNat - x_3 ∧ ((x_3 : Int) + 1 = (y : Int) ∧ True) ∧ True)) ∧ (((nthD (gridL (oneN sh a b o).toNat (farF (oneD sh a b o)) x 0) (x_2 * (ctx met2
 metAnn).P.types[44].size + x_3 * (ctx met2 metAnn).P.types[3].size)).asInt < 99 → False) → ((-9223372036854775808) ≤ (x_3 : Int) + 1 ∧ (x_3 : Int) + 1 < 9223372036854775808) ∧ ∃ (y : Nat), y.le (oneN sh a b o).toNat ∧
 (oneN sh a b o).toNat - y < (oneN sh a b o).toNat - x_3 ∧ ((x_3 : Int) + 1 = (y : Int) ∧ True) ∧ True)) ∧ (((nthD (gridL (oneN sh a b o).toNat (farF (oneD sh a b o)) x 0) (x_1 * (ctx met2 metAnn).P.types[44].size + x_2 *
 (ctx met2 metAnn).P.types[3].size)).asInt < 99 → False) → ((-9223372036854775808) ≤ (x_3 : Int) + 1 ∧ (x_3 : Int) + 1 < 9223372036854775808) ∧ ∃ (y : Nat), y.le (oneN sh a b o).toNat ∧ (oneN sh a b o).toNat - y < (oneN
 sh a b o).toNat - x_3 ∧ ((x_3 : Int) + 1 = (y : Int) ∧ True) ∧ True)) ∧ (((nthD (gridL (oneN sh a b o).toNat (farF (oneD sh a b o)) x 0) (x_1 * (ctx met2 metAnn).P.types[44].size + x_2 * (ctx met2
 metAnn).P.types[3].size)).asInt = (nthD (gridL (oneN sh a b o).toNat (farF (oneD sh a b o)) x 0) (x_2 * (ctx met2 metAnn).P.types[44].size + x_1 * (ctx met2 metAnn).P.types[3].size)).asInt → False) → (false = true ↔
 True))) ∧ (((x_3 : Int) < oneN sh a b o → False) → ((-9223372036854775808) ≤ (x_2 : Int) + 1 ∧ (x_2 : Int) + 1 < 9223372036854775808) ∧ ∃ (y : Nat), y.le (oneN sh a b o).toNat ∧ (oneN sh a b o).toNat - y < (oneN sh a b
 o).toNat - x_2 ∧ ((x_2 : Int) + 1 = (y : Int) ∧ True) ∧ True)) ∧ (((x_2 : Int) < oneN sh a b o → False) → ((-9223372036854775808) ≤ (x_1 : Int) + 1 ∧ (x_1 : Int) + 1 < 9223372036854775808) ∧ ∃ (y : Nat), y.le (oneN sh a
 b o).toNat ∧ (oneN sh a b o).toNat - y < (oneN sh a b o).toNat - x_1 ∧ ((x_1 : Int) + 1 = (y : Int) ∧ True) ∧ True)) ∧ (((x_1 : Int) < oneN sh a b o → False) → smallD (oneD sh a b o) ∧ (∃ (x : Nat), x.le (blocksD (oneD
 sh a b o) 0).len ∧ (0 = (x : Int) ∧ 0 = sumLen (blocksD (oneD sh a b o) 0) x ∧ True) ∧ True) ∧ ∀ (x_2 : Nat), x_2.le (blocksD (oneD sh a b o) 0).len → (blocksD (oneD sh a b o) 0).len - x_2 < LIM ∧ ((x_2 : Int) <
 (↑(blocksD (oneD sh a b o) 0).len : Int) → 0 ≤ (x_2 : Int) ∧ (x_2 : Int) < (↑(blocksD (oneD sh a b o) 0).len : Int) ∧ (el (blocksD (oneD sh a b o) 0) x_2).len ≤ 100 ∧ ((sortedP (el (blocksD (oneD sh a b o) 0) x_2) →
 False) → (false = true ↔ True)) ∧ (((sortedP (el (blocksD (oneD sh a b o) 0) x_2) → False) → False) → (∃ (x : Nat), x.le (el (blocksD (oneD sh a b o) 0) x_2).len ∧ (0 = (x : Int) ∧ sumLen (blocksD (oneD sh a b o) 0) x_2
 = sumLen (blocksD (oneD sh a b o) 0) x_2 + (x : Int) ∧ True) ∧ True) ∧ ∀ (x_3 : Nat), x_3.le (el (blocksD (oneD sh a b o) 0) x_2).len → (el (blocksD (oneD sh a b o) 0) x_2).len - x_3 < LIM ∧ ((x_3 : Int) < (↑(el (blocksD
 (oneD sh a b o) 0) x_2).len : Int) → 0 ≤ (x_3 : Int) ∧ (x_3 : Int) < (↑(el (blocksD (oneD sh a b o) 0) x_2).len : Int) ∧ (∃ (x : Nat), x.le (oneN sh a b o).toNat ∧ (0 = (x : Int) ∧ True) ∧ True) ∧ ∀ (x_4 : Nat), x_4.le
 (oneN sh a b o).toNat → (oneN sh a b o).toNat - x_4 < LIM ∧ ((x_4 : Int) < oneN sh a b o → (((el (el (blocksD (oneD sh a b o) 0) x_2) x_3).asInt < 0 → False) → ((oneN sh a b o ≤ (el (el (blocksD (oneD sh a b o) 0) x_2)
 x_3).asInt → False) → 0 ≤ (el (el (blocksD (oneD sh a b o) 0) x_2) x_3).asInt ∧ (el (el (blocksD (oneD sh a b o) 0) x_2) x_3).asInt < (↑(24 : Nat) : Int) ∧ 0 ≤ (x_4 : Int) ∧ (x_4 : Int) < (↑(24 : Nat) : Int) ∧ (el (el
 (blocksD (oneD sh a b o) 0) x_2) x_3).asInt.toNat * (ctx met2 metAnn).P.types[44].size + x_4 * (ctx met2 metAnn).P.types[3].size < (gridL (oneN sh a b o).toNat (farF (oneD sh a b o)) x 0).length ∧ (el (blocksD (oneD sh a
 b o) 0) x_2).len ≤ 100 ∧ ((((nthD (gridL (oneN sh a b o).toNat (farF (oneD sh a b o)) x 0) ((el (el (blocksD (oneD sh a b o) 0) x_2) x_3).asInt.toNat * (ctx met2 metAnn).P.types[44].size + x_4 * (ctx met2
 metAnn).P.types[3].size)).asInt < 99 ↔ isIn (el (blocksD (oneD sh a b o) 0) x_2) (x_4 : Int)) → False) → (false = true ↔ True)) ∧ (((((nthD (gridL (oneN sh a b o).toNat (farF (oneD sh a b o)) x 0) ((el (el (blocksD (oneD
 sh a b o) 0) x_2) x_3).asInt.toNat * (ctx met2 metAnn).P.types[44].size + x_4 * (ctx met2 metAnn).P.types[3].size)).asInt < 99 ↔ isIn (el (blocksD (oneD sh a b o) 0) x_2) (x_4 : Int)) → False) → False) →
 ((-9223372036854775808) ≤ (x_4 : Int) + 1 ∧ (x_4 : Int) + 1 < 9223372036854775808) ∧ ∃ (y : Nat), y.le (oneN sh a b o).toNat ∧ (oneN sh a b o).toNat - y < (oneN sh a b o).toNat - x_4 ∧ ((x_4 : Int) + 1 = (y : Int) ∧
 True) ∧ True)) ∧ (oneN sh a b o ≤ (el (el (blocksD (oneD sh a b o) 0) x_2) x_3).asInt → (false = true ↔ True))) ∧ ((el (el (blocksD (oneD sh a b o) 0) x_2) x_3).asInt < 0 → (false = true ↔ True))) ∧ (((x_4 : Int) < oneN
 sh a b o → False) → ((-9223372036854775808) ≤ sumLen (blocksD (oneD sh a b o) 0) x_2 + (x_3 : Int) + 1 ∧ sumLen (blocksD (oneD sh a b o) 0) x_2 + (x_3 : Int) + 1 < 9223372036854775808) ∧ ((-9223372036854775808) ≤ (x_3 :
 Int) + 1 ∧ (x_3 : Int) + 1 < 9223372036854775808) ∧ ∃ (y : Nat), y.le (el (blocksD (oneD sh a b o) 0) x_2).len ∧ (el (blocksD (oneD sh a b o) 0) x_2).len - y < (el (blocksD (oneD sh a b o) 0) x_2).len - x_3 ∧ ((x_3 :
 Int) + 1 = (y : Int) ∧ sumLen (blocksD (oneD sh a b o) 0) x_2 + (x_3 : Int) + 1 = sumLen (blocksD (oneD sh a b o) 0) x_2 + (y : Int) ∧ True) ∧ True)) ∧ (((x_3 : Int) < (↑(el (blocksD (oneD sh a b o) 0) x_2).len : Int) →
 False) → ((-9223372036854775808) ≤ (x_2 : Int) + 1 ∧ (x_2 : Int) + 1 < 9223372036854775808) ∧ ∃ (y : Nat), y.le (blocksD (oneD sh a b o) 0).len ∧ (blocksD (oneD sh a b o) 0).len - y < (blocksD (oneD sh a b o) 0).len -
 x_2 ∧ ((x_2 : Int) + 1 = (y : Int) ∧ sumLen (blocksD (oneD sh a b o) 0) x_2 + (x_3 : Int) = sumLen (blocksD (oneD sh a b o) 0) y ∧ True) ∧ True))) ∧ (((x_2 : Int) < (↑(blocksD (oneD sh a b o) 0).len : Int) → False) →
 (sumLen (blocksD (oneD sh a b o) 0) x_2 = oneN sh a b o → (true = true ↔ True)) ∧ ((sumLen (blocksD (oneD sh a b o) 0) x_2 = oneN sh a b o → False) → (false = true ↔ True))))))) := by intros; kernel_rfl
/-! ### The hall of one table -/
theorem one_where {sh a b : Int} {o : D} (h : byteP sh ∧ byteP a ∧ byteP b ∧ bytesP o) {n : Nat} (hn : oneN sh a b o = n) {x : Nat} (hx : x < n) : whereP (oneD sh a b o) x ∧ whereT (oneD sh a b o) x = 0 ∧ whereK (oneD sh a b o) x = x := by
  obtain ⟨h1, h2, h3, h4, h5, h6, h7, h8⟩ := one_facts h
  have hw : whereO (oneD sh a b o) x = some (((0 : Nat) : Int), (x : Int)) := by
    unfold whereO
    rw [if_neg (by rintro (g | g); · omega
                   · exact g h6)]
    have := where_at (oneD sh a b o) (j := 0) (k := (x : Int)) (by omega) (by show (x : Int) < oneN sh a b o; omega) (oneD sh a b o).len 0 (Nat.le_refl 0) (by omega)
    rw [show sumZ (oneD sh a b o) 0 - sumZ (oneD sh a b o) 0 + (x : Int) = x by omega] at this
    exact this
  refine ⟨⟨by rw [hw]; simp⟩, ?_, ?_⟩
  · unfold whereT; rw [hw]; rfl
  · unfold whereK; rw [hw]; rfl
theorem s11 (sh a b : Int) (o : D) (h : byteP sh ∧ byteP a ∧ byteP b ∧ bytesP o) : symFun (ctx met2 metAnn) 4 11 [.agg [.int .u8 sh, .int .u8 a, .int .u8 b, .dat 39 o]] (.prop True) := by
  rw [vc11]
  obtain ⟨h1, h2, h3, h4, h5, h6, h7, h8⟩ := one_facts h
  have hs44 : (ctx met2 metAnn).P.types[44].size = 24 := by kernel_rfl
  have hs3 : (ctx met2 metAnn).P.types[3].size = 1 := by kernel_rfl
  rw [hs44, hs3]
  obtain ⟨n, hn⟩ : ∃ n : Nat, oneN sh a b o = n := ⟨(oneN sh a b o).toNat, by omega⟩
  have hw := fun {x : Nat} (hx : x < n) => one_where h hn hx
  -- the table
  have hsz : sizeT' (el (oneD sh a b o) 0) = n := hn
  have hbl : blocksD (oneD sh a b o) 0 = .list (blkL (tShape (el (oneD sh a b o) 0)) (tA (el (oneD sh a b o) 0)) (tB (el (oneD sh a b o) 0)) 0 n n) := by
    unfold blocksD
    rw [if_pos ⟨by omega, by rw [h2]; omega, h6⟩]
    unfold blkX dN
    rw [show (0 : Int).toNat = 0 from rfl, hsz, Int.toNat_natCast]; rfl
  have htab : ∀ {x : Nat}, x < n → tabAt (oneD sh a b o) x = el (oneD sh a b o) 0 := fun hx => by unfold tabAt; rw [(hw hx).2.1]; rfl
  have hone : ∀ {x y : Nat}, x < n → y < n → oneT (oneD sh a b o) x y := fun hx hy => ⟨(hw hx).1, (hw hy).1, by rw [(hw hx).2.1, (hw hy).2.1]⟩
  have hdD : ∀ {x y : Nat}, x < n → y < n → distD (oneD sh a b o) x y = distZ n (nearN (tShape (el (oneD sh a b o) 0)) (tA (el (oneD sh a b o) 0)) (tB (el (oneD sh a b o) 0))) x y := fun {x y} hx hy => by
    unfold distD rowT
    rw [htab hx, hsz, (hw hx).2.2, (hw hy).2.2, Int.toNat_natCast, Int.toNat_natCast]
    unfold distRow; rw [nth_rowN _ hy, Int.toNat_natCast]
  have hNr : ∀ {x y : Nat}, x < n → y < n → (nearH (oneD sh a b o) x y ↔ nearN (tShape (el (oneD sh a b o) 0)) (tA (el (oneD sh a b o) 0)) (tB (el (oneD sh a b o) 0)) x y) := fun {x y} hx hy => by
    constructor
    · intro g; have := g.out.2; rw [htab hx, (hw hx).2.2, (hw hy).2.2] at this; exact this
    · intro g; exact ⟨hone hx hy, by rw [htab hx, (hw hx).2.2, (hw hy).2.2]; exact g⟩
  have hBA : ∀ {x y : Nat}, x < n → y < n → (nearH (oneD sh a b o) x y ↔ besideH (oneD sh a b o) x y ∨ acrossH (oneD sh a b o) x y) := fun {x y} hx hy =>
    ⟨fun g => g.out.2.out.imp (fun q => ⟨g.out.1, q⟩) (fun q => ⟨g.out.1, q⟩), fun g => g.elim (fun q => ⟨q.out.1, ⟨.inl q.out.2⟩⟩) (fun q => ⟨q.out.1, ⟨.inr q.out.2⟩⟩)⟩
  rw [hbl, hn]
  simp only [Int.toNat_natCast]
  generalize tShape (el (oneD sh a b o) 0) = s at *
  generalize tA (el (oneD sh a b o) 0) = ta at *
  generalize tB (el (oneD sh a b o) 0) = tb at *
  generalize oneD sh a b o = L at *
  have hn24 : n ≤ 24 := by omega
  have hn1 : 0 < n := by omega
  have hP : ∀ {x y : Nat}, x < n → y < n → (distP L x y ↔ 0 ≤ distZ n (nearN s ta tb) x y) := fun hx hy => ⟨fun g => by have := g.out.2; rw [hdD hx hy] at this; exact this, fun g => ⟨hone hx hy, by rw [hdD hx hy]; exact g⟩⟩
  have hH : ∀ {x y : Nat}, x < n → y < n → distP L x y → distH L x y = distZ n (nearN s ta tb) x y := fun hx hy g => by unfold distH; rw [if_pos g, hdD hx hy]
  have hH0 : ∀ {x y : Nat}, ¬ distP L x y → distH L x y = 0 := fun g => by unfold distH; rw [if_neg g]
  have hf : ∀ {x y : Nat}, x < n → y < n → (0 ≤ distZ n (nearN s ta tb) x y ∧ farF L x y = distZ n (nearN s ta tb) x y) ∨ (¬ 0 ≤ distZ n (nearN s ta tb) x y ∧ farF L x y = 99) := fun {x y} hx hy => by
    by_cases g : distP L x y
    · exact .inl ⟨(hP hx hy).1 g, by unfold farF; rw [if_pos g, hH hx hy g]⟩
    · exact .inr ⟨fun q => g ((hP hx hy).2 q), by unfold farF; rw [if_neg g]⟩
  have hlt : ∀ {x y : Nat}, x < n → y < n → distZ n (nearN s ta tb) x y < n := fun hx hy => distZ_lt hx hy
  have hLIM : ∀ m : Nat, m ≤ 64 → m < LIM := fun m g => by unfold LIM; omega
  have hsm : ∀ {x y : Nat}, x ≤ 24 → y ≤ 24 → smallD L ∧ i64P x ∧ i64P y := fun g1 g2 => ⟨h7, ⟨by omega⟩, ⟨by omega⟩⟩
  clear hbl hsz htab hdD h1 h2 h3 h8 hs44 hs3
  refine ⟨h, fun g => absurd trivial g, fun _ => ⟨⟨0, Nat.zero_le _, ⟨rfl, trivial⟩, g_zero, trivial⟩, fun x hx => ?_⟩⟩
  have hx : x ≤ n := hx
  refine ⟨hLIM _ (by omega), fun hlx => ⟨⟨0, Nat.zero_le _, ⟨rfl, trivial⟩, rfl, trivial⟩, fun y hy => ?_⟩, fun hgx => ?_⟩
  · have hy : y ≤ n := hy
    refine ⟨hLIM _ (by omega), fun hly => ?_, fun hgy => ?_⟩
    · have hxn : x < n := by omega
      have hyn : y < n := by omega
      have sm := hsm (x := x) (y := y) (by omega) (by omega)
      have store : ∀ v, v = farF L x y → (0 : Int) ≤ (x : Int) ∧ (x : Int) < ((24 : Nat) : Int) ∧ (0 : Int) ≤ (y : Int) ∧ (y : Int) < ((24 : Nat) : Int) ∧ x * 24 + y * 1 < (gridL n (farF L) x y).length ∧ ((-9223372036854775808 : Int) ≤ (y : Int) + 1 ∧ (y : Int) + 1 < 9223372036854775808) ∧ ∃ z : Nat, z.le n ∧ n - z < n - y ∧ ((y : Int) + 1 = (z : Int) ∧ True) ∧ (gridL n (farF L) x y).set (x * 24 + y * 1) (D.int v) = gridL n (farF L) x z ∧ True := fun v hv => by
        subst hv
        exact ⟨by omega, by omega, by omega, by omega, by rw [g_len]; omega, by omega, y + 1, show y + 1 ≤ n by omega, by omega, ⟨rfl, trivial⟩, g_set (by omega) hyn hn24, trivial⟩
      have hN1 := hNr hxn hyn
      have hba := hBA hxn hyn
      have d1 : distZ n (nearN s ta tb) x y = 1 ↔ nearN s ta tb x y := dz_one hxn
      have d0 : distZ n (nearN s ta tb) x y = 0 ↔ x = y := dz_nil
      have tail : ∀ v, v = farF L x y → (besideH L x y → False) → (smallD L ∧ i64P x ∧ i64P y) ∧ (((nearH L x y ↔ acrossH L x y) → False) → (false = true ↔ True)) ∧ ((((nearH L x y ↔ acrossH L x y) → False) → False) → (0 : Int) ≤ (x : Int) ∧ (x : Int) < ((24 : Nat) : Int) ∧ (0 : Int) ≤ (y : Int) ∧ (y : Int) < ((24 : Nat) : Int) ∧ x * 24 + y * 1 < (gridL n (farF L) x y).length ∧ ((-9223372036854775808 : Int) ≤ (y : Int) + 1 ∧ (y : Int) + 1 < 9223372036854775808) ∧ ∃ z : Nat, z.le n ∧ n - z < n - y ∧ ((y : Int) + 1 = (z : Int) ∧ True) ∧ (gridL n (farF L) x y).set (x * 24 + y * 1) (D.int v) = gridL n (farF L) x z ∧ True) := fun v hv hb =>
        ⟨sm, fun g => absurd ⟨fun q => (hba.1 q).resolve_left hb, fun q => hba.2 (.inr q)⟩ g, fun _ => store v hv⟩
      have tail2 : ∀ v, v = farF L x y → besideH L x y → (((nearH L x y ↔ True) → False) → (false = true ↔ True)) ∧ ((((nearH L x y ↔ True) → False) → False) → (0 : Int) ≤ (x : Int) ∧ (x : Int) < ((24 : Nat) : Int) ∧ (0 : Int) ≤ (y : Int) ∧ (y : Int) < ((24 : Nat) : Int) ∧ x * 24 + y * 1 < (gridL n (farF L) x y).length ∧ ((-9223372036854775808 : Int) ≤ (y : Int) + 1 ∧ (y : Int) + 1 < 9223372036854775808) ∧ ∃ z : Nat, z.le n ∧ n - z < n - y ∧ ((y : Int) + 1 = (z : Int) ∧ True) ∧ (gridL n (farF L) x y).set (x * 24 + y * 1) (D.int v) = gridL n (farF L) x z ∧ True) := fun v hv hb =>
        ⟨fun g => absurd ⟨fun _ => trivial, fun _ => hba.2 (.inl hb)⟩ g, fun _ => store v hv⟩
      refine ⟨sm, fun hp => ⟨fun _ => ?_, fun g => absurd hp g⟩, fun hp => ?_⟩
      · have hp' : ¬ 0 ≤ distZ n (nearN s ta tb) x y := fun g => hp ((hP hxn hyn).2 g)
        have hfv : (99 : Int) = farF L x y := by rcases hf hxn hyn with ⟨g, _⟩ | ⟨_, g⟩; exact absurd g hp'; exact g.symm
        have e1 : (false = true ↔ (x : Int) = (y : Int)) := ⟨fun g => (by cases g), fun g => absurd (d0.2 (by omega)) (by omega)⟩
        have e2 : (false = true ↔ nearH L x y) := ⟨fun g => (by cases g), fun g => absurd (d1.2 (hN1.1 g)) (by omega)⟩
        exact ⟨fun _ => ⟨sm, fun _ => ⟨sm, sm, tail 99 hfv, tail2 99 hfv⟩, fun g => absurd e2 g⟩, fun g => absurd e1 g⟩
      · have hp1 : distP L x y := Classical.not_not.1 hp
        have hp' := (hP hxn hyn).1 hp1
        have hv := hH hxn hyn hp1
        have hfv : distH L x y = farF L x y := by rcases hf hxn hyn with ⟨_, g⟩ | ⟨g, _⟩; rw [hv, g]; exact absurd hp' g
        have e1 : (distH L x y = 0 ↔ (x : Int) = (y : Int)) := by rw [hv, d0]; omega
        have e2 : (distH L x y = 1 ↔ nearH L x y) := by rw [hv, d1, hN1]
        exact ⟨fun _ => ⟨fun g => absurd hp1 g, fun _ => ⟨fun _ => ⟨sm, fun _ => ⟨sm, sm, tail _ hfv, tail2 _ hfv⟩, fun g => absurd e2 g⟩, fun g => absurd e1 g⟩⟩, fun g => by omega⟩
    · have hgy : ¬ (y : Int) < (n : Int) := hgy
      have : y = n := by omega
      subst this
      exact ⟨by omega, x + 1, show x + 1 ≤ y by omega, by omega, ⟨rfl, trivial⟩, g_row, trivial⟩
  · have hgx : ¬ (x : Int) < (n : Int) := hgx
    have : x = n := by omega
    subst this
    clear hx hgx
    have ix : ∀ {p q : Nat}, p < x → q < x → p * 24 + q * 1 < (gridL x (farF L) x 0).length := fun g1 g2 => by rw [g_len]; omega
    have gv : ∀ {p q : Nat}, p < x → q < x → (nthD (gridL x (farF L) x 0) (p * 24 + q * 1)).asInt = farF L p q := fun g1 g2 => g_nth g1 g2 hn24
    refine ⟨⟨0, Nat.zero_le _, ⟨rfl, trivial⟩, trivial⟩, fun p hp => ⟨hLIM _ (by omega), fun hlp => ⟨⟨0, Nat.zero_le _, ⟨rfl, trivial⟩, trivial⟩, fun q hq => ⟨hLIM _ (by omega), fun hlq => ⟨⟨0, Nat.zero_le _, ⟨rfl, trivial⟩, trivial⟩, fun r hr => ⟨hLIM _ (by omega), fun hlr => ?_, fun hgr => ?_⟩⟩, fun hgq => ?_⟩⟩, fun hgp => ?_⟩⟩
    · have hpx : p < x := by omega
      have hqx : q < x := by omega
      have hrx : r < x := by omega
      rw [gv hpx hqx, gv hqx hpx, gv hqx hrx, gv hpx hrx]
      have sym : farF L p q = farF L q p := by
        have e := dz_symm (sh := s) (a := ta) (b := tb) hpx hqx
        rcases hf hpx hqx with g | g <;> rcases hf hqx hpx with g' | g' <;> omega
      have b1 := hlt hpx hqx
      have b2 := hlt hqx hrx
      have nx : ∃ y : Nat, y.le x ∧ x - y < x - r ∧ ((r : Int) + 1 = (y : Int) ∧ True) ∧ True := ⟨r + 1, show r + 1 ≤ x by omega, by omega, ⟨rfl, trivial⟩, trivial⟩
      have tri : farF L p q < 99 → farF L q r < 99 → ¬ farF L p q + farF L q r < farF L p r := fun g1 g2 => by
        rcases hf hpx hqx with u | u
        · rcases hf hqx hrx with v | v
          · have := dz_tri (sh := s) (a := ta) (b := tb) hqx u.1 v.1
            rcases hf hpx hrx with w | w <;> omega
          · omega
        · omega
      have r1 : 0 ≤ farF L p q ∧ farF L p q ≤ 99 := by rcases hf hpx hqx with u | u <;> omega
      have r2 : 0 ≤ farF L q r ∧ farF L q r ≤ 99 := by rcases hf hqx hrx with u | u <;> omega
      exact ⟨by omega, by omega, by omega, by omega, ix hpx hqx, by omega, by omega, by omega, by omega, ix hqx hpx, fun _ => ⟨by omega, by omega, by omega, by omega, ix hpx hqx, fun g1 => ⟨by omega, by omega, by omega, by omega, ix hqx hrx, fun g2 => ⟨by omega, by omega, by omega, by omega, ix hpx hrx, by omega, by omega, by omega, by omega, ix hpx hqx, by omega, by omega, by omega, by omega, ix hqx hrx, by omega, fun g3 => absurd g3 (tri g1 g2), fun _ => ⟨by omega, nx⟩⟩, fun _ => ⟨by omega, nx⟩⟩, fun _ => ⟨by omega, nx⟩⟩, fun g => absurd sym g⟩
    · exact ⟨by omega, q + 1, show q + 1 ≤ x by omega, by omega, ⟨rfl, trivial⟩, trivial⟩
    · exact ⟨by omega, p + 1, show p + 1 ≤ x by omega, by omega, ⟨rfl, trivial⟩, trivial⟩
    · have hbn := bl_len (sh := s) (a := ta) (b := tb) (first := 0) (n := x) x
      have hbL : (D.list (blkL s ta tb 0 x x)).len = (blkL s ta tb 0 x x).length := rfl
      have hsum := bl_sum (sh := s) (a := ta) (b := tb) (n := x)
      have hsr : ∀ z, z ≤ (blkL s ta tb 0 x x).length → 0 ≤ sumLen (.list (blkL s ta tb 0 x x)) z ∧ sumLen (.list (blkL s ta tb 0 x x)) z ≤ 24 * (z : Int) := fun z => by
        induction z with
        | zero => intro _; exact ⟨Int.le_refl 0, Int.le_refl _⟩
        | succ z ih =>
          intro hz
          have ih := ih (by omega)
          obtain ⟨k, hk, he⟩ := bl_el (sh := s) (a := ta) (b := tb) (n := x) (i := z) (by rw [hbL]; omega)
          have hml := bm_len (sh := s) (a := ta) (b := tb) (first := 0) (n := x) k x
          have : sumLen (.list (blkL s ta tb 0 x x)) (z + 1) = sumLen (.list (blkL s ta tb 0 x x)) z + ((el (.list (blkL s ta tb 0 x x)) z).len : Int) := rfl
          rw [this, he]
          have hl : (D.list (blkMem s ta tb 0 x k x)).len = (blkMem s ta tb 0 x k x).length := rfl
          rw [hl]; omega
      refine ⟨h7, ⟨0, Nat.zero_le _, ⟨rfl, rfl, trivial⟩, trivial⟩, fun i hi => ?_⟩
      have hi : i ≤ (D.list (blkL s ta tb 0 x x)).len := hi
      have hsi := hsr i (by rw [← hbL]; exact hi)
      refine ⟨hLIM _ (by omega), fun hli => ?_, fun hgi => ?_⟩
      · obtain ⟨k, hk, he⟩ := bl_el (sh := s) (a := ta) (b := tb) (n := x) (i := i) (by omega)
        have hml := bm_len (sh := s) (a := ta) (b := tb) (first := 0) (n := x) k x
        have hl : (D.list (blkMem s ta tb 0 x k x)).len = (blkMem s ta tb 0 x k x).length := rfl
        have hnext : sumLen (.list (blkL s ta tb 0 x x)) (i + 1) = sumLen (.list (blkL s ta tb 0 x x)) i + ((D.list (blkMem s ta tb 0 x k x)).len : Int) := by rw [← he]; rfl
        rw [he]
        refine ⟨by omega, hli, by omega, fun g => absurd (bm_sorted k) g, fun _ => ⟨⟨0, Nat.zero_le _, ⟨rfl, by omega, trivial⟩, trivial⟩, fun j hj => ?_⟩⟩
        have hj : j ≤ (D.list (blkMem s ta tb 0 x k x)).len := hj
        refine ⟨hLIM _ (by omega), fun hlj => ?_, fun hgj => ?_⟩
        · obtain ⟨m, hm, hrm, hem⟩ := bm_mem (sh := s) (a := ta) (b := tb) (n := x) (k := k) (j := j) (by omega)
          rw [hem, Int.toNat_natCast]
          refine ⟨by omega, hlj, ⟨0, Nat.zero_le _, ⟨rfl, trivial⟩, trivial⟩, fun y hy => ⟨hLIM _ (by omega), fun hly => ⟨fun _ => ⟨fun _ => ?_, fun g => by omega⟩, fun g => by omega⟩, fun hgy => ?_⟩⟩
          · have hyx : y < x := by omega
            have key : farF L m y < 99 ↔ isIn (.list (blkMem s ta tb 0 x k x)) (y : Int) := by
              rw [bm_in hyx]
              have b1 := hlt hm hyx
              constructor
              · intro g
                have : 0 ≤ distZ x (nearN s ta tb) m y := by rcases hf hm hyx with u | u; exact u.1; omega
                exact reach_trans hm hrm ⟨this⟩
              · intro g
                have := (reach_trans hk (reach_symm hk hm hrm) g).out
                rcases hf hm hyx with u | u
                · omega
                · exact absurd this u.1
            rw [gv hm hyx]
            exact ⟨by omega, by omega, by omega, by omega, ix hm hyx, by omega, fun g => absurd key g, fun _ => ⟨by omega, y + 1, show y + 1 ≤ x by omega, by omega, ⟨rfl, trivial⟩, trivial⟩⟩
          · exact ⟨by omega, by omega, j + 1, show j + 1 ≤ (D.list (blkMem s ta tb 0 x k x)).len by omega, by omega, ⟨rfl, by omega, trivial⟩, trivial⟩
        · have hgj : ¬ (j : Int) < ((D.list (blkMem s ta tb 0 x k x)).len : Int) := hgj
          exact ⟨by omega, i + 1, show i + 1 ≤ (D.list (blkL s ta tb 0 x x)).len by omega, by omega, ⟨rfl, by rw [hnext]; omega, trivial⟩, trivial⟩
      · have hgi : ¬ (i : Int) < ((D.list (blkL s ta tb 0 x x)).len : Int) := hgi
        have : i = (D.list (blkL s ta tb 0 x x)).len := by omega
        subst this
        exact ⟨fun _ => trivial, fun g => absurd hsum g⟩
theorem v37 : ∀ d, 49 ≤ d → VC d 37 con37 := fun d hd =>
  valid_of_sym (C := ctx seat3 metAnn) (G := GC) (B := 45) (m := 4) rfl rfl rfl vs3 (fun us p r hc hp ht => by
    unfold con37 at hc; split at hc
    · cases hc; exact s37 _ hp
    · cases hc) (fun _ _ => rfl) rfl d hd
theorem v38 : ∀ d, 49 ≤ d → VC d 38 con38 := fun d hd =>
  valid_of_sym (C := ctx seat3 metAnn) (G := GC) (B := 45) (m := 4) rfl rfl rfl vs3 (fun us p r hc hp ht => by
    unfold con38 at hc; split at hc
    · cases hc; exact s38 _ _ hp
    · cases hc) (fun _ _ => rfl) rfl d hd
theorem v31 : ∀ d, 49 ≤ d → VC d 31 con31 := fun d hd =>
  valid_of_sym (C := ctx seat3 metAnn) (G := GC) (B := 45) (m := 4) rfl rfl rfl vs3 (fun us p r hc hp ht => by
    unfold con31 at hc; split at hc
    · cases hc; exact s31 _ _ _ _ hp
    · cases hc) (fun _ _ => rfl) rfl d hd
theorem vm1 : ∀ d, 51 ≤ d → ∀ g c, met1 g = some c → VC d g c := fun d hd g c h => by
  unfold met1 at h
  split at h
  · cases h; exact v32 d (by omega)
  · cases h; exact v34 d (by omega)
  · cases h; exact v35 d (by omega)
  · cases h; exact v33 d (by omega)
  · cases h; exact v38 d (by omega)
  · cases h; exact v37 d (by omega)
  · cases h; exact v31 d (by omega)
  · exact vs3 d (by omega) _ c h
theorem v36 : ∀ d, 55 ≤ d → VC d 36 con36 := fun d hd =>
  valid_of_sym (C := ctx met1 metAnn) (G := GC) (B := 51) (m := 4) rfl rfl rfl vm1 (fun us p r hc hp ht => by
    unfold con36 at hc; split at hc
    · cases hc; exact s36 _ _ hp
    · cases hc) (fun _ _ => rfl) rfl d hd
theorem vm2 : ∀ d, 55 ≤ d → ∀ g c, met2 g = some c → VC d g c := fun d hd g c h => by
  unfold met2 at h
  split at h
  · cases h; exact valid_ext (v36 d hd)
  · exact vm1 d (by omega) _ c h
theorem v11 : ∀ d, 59 ≤ d → VC d 11 con11 := fun d hd =>
  valid_of_sym (C := ctx met2 metAnn) (G := GC) (B := 55) (m := 4) rfl rfl rfl vm2 (fun us p r hc hp ht => by
    unfold con11 at hc; split at hc
    · cases hc; exact s11 _ _ _ _ hp
    · cases hc) (fun _ _ => rfl) rfl d hd
end Go.Ev
