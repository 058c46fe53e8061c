/-
  Part of the engine that the claim is proved with: it states nothing of the document by itself.
-/
import Derived.Test.YtehipkhbnhagbaaGreatDoorCoreRefDefs
import Derived.Test.YtehipkhbnhagbaaGreatDoorCoreNum
open Go.Proofs
namespace Go.Ev
set_option maxRecDepth 100000
set_option maxHeartbeats 4000000
theorem vc32i : ∀ (l : D) (a b : Int), symFun (ctx num2 refAnn) (5 : Nat) (32 : FuncId) [V.dat (22 : TypeId) l, V.int IntKind.i64 a, V.int IntKind.i64 b] (V.tup [V.int IntKind.i64 (0 : Int), V.prop
 False]) = ((smallD l ∧ i64P a) ∧ (smallD l ∧ i64P b) ∧ (((whereP l a → False) → False) → (((whereP l b → False) → False) → ((whereT l a = whereT l b → False) → (0 : Int) = (0 : Int) ∧ (false = true ↔
 False) ∧ True) ∧ (((whereT l a = whereT l b → False) → False) → (0 : Int) ≤ whereT l a ∧ whereT l a < (↑l.len : Int) ∧ (sizeT' (el l (whereT l a).toNat) = (0 : Int) → False) ∧ (sizeT' (el l (whereT l
 a).toNat) < (0 : Int) → False) ∧ ((sizeT' (el l (whereT l a).toNat) < (0 : Int) → False) → False))) ∧ ((whereP l b → False) → (0 : Int) = (0 : Int) ∧ (false = true ↔ False) ∧ True)) ∧ ((whereP l a →
 False) → (0 : Int) = (0 : Int) ∧ (false = true ↔ False) ∧ True)) := by intros; kernel_rfl

theorem vc53i : ∀ (l : D) (a : Int), symFun (ctx num2 refAnn) (5 : Nat) (53 : FuncId) [V.dat (22 : TypeId) l, V.int IntKind.i64 a] (V.int IntKind.i64 (0 : Int)) = ((smallD l ∧ i64P a) ∧ ((whereP l a →
 False) → (0 : Int) = (0 : Int)) ∧ (((whereP l a → False) → False) → (0 : Int) ≤ whereT l a ∧ whereT l a < (↑l.len : Int) ∧ (tShape (el l (whereT l a).toNat) = (1 : Int) → False) ∧ ((tShape (el l
 (whereT l a).toNat) = (1 : Int) → False) → (tShape (el l (whereT l a).toNat) = (2 : Int) → False) ∧ ((tShape (el l (whereT l a).toNat) = (2 : Int) → False) → (tShape (el l (whereT l a).toNat) = (3 :
 Int) → False) ∧ ((tShape (el l (whereT l a).toNat) = (3 : Int) → False) → (tShape (el l (whereT l a).toNat) = (4 : Int) → False) ∧ ((tShape (el l (whereT l a).toNat) = (4 : Int) → False) → False))))))
 := by intros; kernel_rfl

theorem vc51i : ∀ (l : D) (a : Int), symFun (ctx num2 refAnn) (5 : Nat) (51 : FuncId) [V.dat (22 : TypeId) l, V.int IntKind.i64 a] (V.val (Value.slice none (0 : Nat) (0 : Nat))) = (((0 : Int) ≤ a → (a
 < (↑l.len : Int) → smallD l ∧ ((okHall l → False) → True) ∧ (((okHall l → False) → False) → ((0 : Int) ≤ a ∧ a ≤ (↑l.len : Int) ∧ seatedD l) ∧ (0 : Int) ≤ a ∧ a < (↑l.len : Int) ∧ (tShape (el l
 a.toNat) = (1 : Int) → False) ∧ ((tShape (el l a.toNat) = (1 : Int) → False) → (tShape (el l a.toNat) = (2 : Int) → False) ∧ ((tShape (el l a.toNat) = (2 : Int) → False) → (tShape (el l a.toNat) = (3
 : Int) → False) ∧ ((tShape (el l a.toNat) = (3 : Int) → False) → (tShape (el l a.toNat) = (4 : Int) → False) ∧ ((tShape (el l a.toNat) = (4 : Int) → False) → False)))))) ∧ ((a < (↑l.len : Int) →
 False) → True)) ∧ (((0 : Int) ≤ a → False) → True)) := by intros; kernel_rfl

theorem vc36i : ∀ (l : D) (a : Int), symFun (ctx num2 refAnn) (5 : Nat) (36 : FuncId) [V.dat (22 : TypeId) l, V.int IntKind.i64 a] (V.val (Value.slice none (0 : Nat) (0 : Nat))) = (((0 : Int) ≤ a → (a
 < (↑l.len : Int) → smallD l ∧ ((okHall l → False) → True) ∧ (((okHall l → False) → False) → ((0 : Int) ≤ a ∧ a ≤ (↑l.len : Int) ∧ seatedD l) ∧ (0 : Int) ≤ a ∧ a < (↑l.len : Int) ∧ (sizeT' (el l
 a.toNat) = (0 : Int) → False) ∧ (0 : Int) ≤ sizeT' (el l a.toNat) ∧ sizeT' (el l a.toNat) ≤ sizeT' (el l a.toNat) ∧ sizeT' (el l a.toNat) ≤ (16777216 : Int) ∧ (ctx num2 refAnn).P.types[(4 :
 Nat)].bytes * (sizeT' (el l a.toNat)).toNat ≤ (281474976710656 : Nat) ∧ False ∧ True)) ∧ ((a < (↑l.len : Int) → False) → True)) ∧ (((0 : Int) ≤ a → False) → True)) := by intros; kernel_rfl

theorem vc54i : ∀ (l : D) (a : Int), symFun (ctx num2 refAnn) (5 : Nat) (54 : FuncId) [V.dat (22 : TypeId) l, V.int IntKind.i64 a] (V.val (Value.slice none (0 : Nat) (0 : Nat))) = ((smallD l ∧ i64P a)
 ∧ ((whereP l a → False) → True) ∧ (((whereP l a → False) → False) → (0 : Int) ≤ whereT l a ∧ whereT l a < (↑l.len : Int) ∧ (sizeT' (el l (whereT l a).toNat) = (0 : Int) → False) ∧ False ∧ True)) := by
 intros; kernel_rfl

theorem vc45i : ∀ (l : D) (a : Int), symFun (ctx num2 refAnn) (5 : Nat) (45 : FuncId) [V.dat (22 : TypeId) l, V.int IntKind.i64 a] (V.prop False) = ((smallD l ∧ i64P a) ∧ (whereP l a → (0 : Int) ≤
 whereT l a ∧ whereT l a < (↑l.len : Int) ∧ False ∧ True) ∧ ((whereP l a → False) → (false = true ↔ False))) := by intros; kernel_rfl

theorem vc33i : ∀ (l : D) (a b : Int), symFun (ctx num2 refAnn) (5 : Nat) (33 : FuncId) [V.dat (22 : TypeId) l, V.int IntKind.i64 a, V.int IntKind.i64 b] (V.prop False) = ((smallD l ∧ i64P a) ∧
 (smallD l ∧ i64P b) ∧ (((whereP l a → False) → False) → (((whereP l b → False) → False) → ((whereT l a = whereT l b → False) → (false = true ↔ False)) ∧ (((whereT l a = whereT l b → False) → False) →
 (0 : Int) ≤ whereT l a ∧ whereT l a < (↑l.len : Int) ∧ ((whereK l a = whereK l b → False) → False) ∧ (((whereK l a = whereK l b → False) → False) → ((whereK l a = whereK l b → False) → False) ∧
 (((whereK l a = whereK l b → False) → False) → (false = true ↔ False))))) ∧ ((whereP l b → False) → (false = true ↔ False))) ∧ ((whereP l a → False) → (false = true ↔ False))) := by intros; kernel_rfl

theorem vc58i : ∀ (l : D), symFun (ctx num2 refAnn) (5 : Nat) (58 : FuncId) [V.dat (22 : TypeId) l] (V.str []) = (smallD l ∧ ((okHall l → False) → ([] : List UInt8) = []) ∧ (((okHall l → False) →
 False) → (∃ (x : Unit), l.len = (0 : Nat) ∧ ((0 : Int) = (0 : Int) ∧ True) ∧ True) ∧ ∀ (x : Unit), l.len = (0 : Nat) → (0 : Nat) < LIM ∧ ((0 : Int) < (↑l.len : Int) → (0 : Int) ≤ (0 : Int) ∧ (0 : Int)
 < (↑l.len : Int) ∧ [(116 : UInt8), (97 : UInt8), (98 : UInt8), (108 : UInt8), (101 : UInt8), (32 : UInt8)].length + (tName (el l (Int.toNat (0 : Int)))).length < (9223372036854775808 : Nat) ∧ ([(116 :
 UInt8), (97 : UInt8), (98 : UInt8), (108 : UInt8), (101 : UInt8), (32 : UInt8)] ++ tName (el l (Int.toNat (0 : Int)))).length + [(32 : UInt8)].length < (9223372036854775808 : Nat) ∧ (tShape (el l
 (Int.toNat (0 : Int))) = (1 : Int) → ([(116 : UInt8), (97 : UInt8), (98 : UInt8), (108 : UInt8), (101 : UInt8), (32 : UInt8)] ++ tName (el l (Int.toNat (0 : Int))) ++ [(32 : UInt8)]).length + [(114 :
 UInt8), (111 : UInt8), (117 : UInt8), (110 : UInt8), (100 : UInt8)].length < (9223372036854775808 : Nat) ∧ (([(116 : UInt8), (97 : UInt8), (98 : UInt8), (108 : UInt8), (101 : UInt8), (32 : UInt8)] ++
 tName (el l (Int.toNat (0 : Int))) ++ [(32 : UInt8)] ++ [(114 : UInt8), (111 : UInt8), (117 : UInt8), (110 : UInt8), (100 : UInt8)]).length = (0 : Nat) → ((tOpen (el l (Int.toNat (0 : Int)))).len = (0
 : Nat) → False ∧ True) ∧ ((0 : Nat) < (tOpen (el l (Int.toNat (0 : Int)))).len → (0 : Nat) + (4 : Nat) ≤ [D.int (tA (el l (Int.toNat (0 : Int)))), D.int (tB (el l (Int.toNat (0 : Int)))), D.int (tX
 (el l (Int.toNat (0 : Int)))), D.int (tY (el l (Int.toNat (0 : Int))))].length ∧ (4 : Nat) + (tOpen (el l (Int.toNat (0 : Int)))).len ≤ (16777216 : Nat) ∧ ((4 : Nat) + (tOpen (el l (Int.toNat (0 :
 Int)))).len ≤ (4 : Nat) → (0 : Nat) + (4 : Nat) + (tOpen (el l (Int.toNat (0 : Int)))).len ≤ [D.int (tA (el l (Int.toNat (0 : Int)))), D.int (tB (el l (Int.toNat (0 : Int)))), D.int (tX (el l
 (Int.toNat (0 : Int)))), D.int (tY (el l (Int.toNat (0 : Int))))].length ∧ False ∧ True) ∧ ((4 : Nat) < (4 : Nat) + (tOpen (el l (Int.toNat (0 : Int)))).len → False ∧ True))) ∧ ((0 : Nat) < ([(116 :
 UInt8), (97 : UInt8), (98 : UInt8), (108 : UInt8), (101 : UInt8), (32 : UInt8)] ++ tName (el l (Int.toNat (0 : Int))) ++ [(32 : UInt8)] ++ [(114 : UInt8), (111 : UInt8), (117 : UInt8), (110 : UInt8),
 (100 : UInt8)]).length → ([(116 : UInt8), (97 : UInt8), (98 : UInt8), (108 : UInt8), (101 : UInt8), (32 : UInt8)] ++ tName (el l (Int.toNat (0 : Int))) ++ [(32 : UInt8)] ++ [(114 : UInt8), (111 :
 UInt8), (117 : UInt8), (110 : UInt8), (100 : UInt8)]).length ≤ (16777216 : Nat) ∧ ((tOpen (el l (Int.toNat (0 : Int)))).len = (0 : Nat) → False ∧ True) ∧ ((0 : Nat) < (tOpen (el l (Int.toNat (0 :
 Int)))).len → (0 : Nat) + (4 : Nat) ≤ [D.int (tA (el l (Int.toNat (0 : Int)))), D.int (tB (el l (Int.toNat (0 : Int)))), D.int (tX (el l (Int.toNat (0 : Int)))), D.int (tY (el l (Int.toNat (0 :
 Int))))].length ∧ (4 : Nat) + (tOpen (el l (Int.toNat (0 : Int)))).len ≤ (16777216 : Nat) ∧ ((4 : Nat) + (tOpen (el l (Int.toNat (0 : Int)))).len ≤ (4 : Nat) → (0 : Nat) + (4 : Nat) + (tOpen (el l
 (Int.toNat (0 : Int)))).len ≤ [D.int (tA (el l (Int.toNat (0 : Int)))), D.int (tB (el l (Int.toNat (0 : Int)))), D.int (tX (el l (Int.toNat (0 : Int)))), D.int (tY (el l (Int.toNat (0 :
 Int))))].length ∧ False ∧ True) ∧ ((4 : Nat) < (4 : Nat) + (tOpen (el l (Int.toNat (0 : Int)))).len → False ∧ True)))) ∧ ((tShape (el l (Int.toNat (0 : Int))) = (1 : Int) → False) → (tShape (el l
 (Int.toNat (0 : Int))) = (2 : Int) → ([(116 : UInt8), (97 : UInt8), (98 : UInt8), (108 : UInt8), (101 : UInt8), (32 : UInt8)] ++ tName (el l (Int.toNat (0 : Int))) ++ [(32 : UInt8)]).length + [(108 :
 UInt8), (111 : UInt8), (110 : UInt8), (103 : UInt8)].length < (9223372036854775808 : Nat) ∧ (([(116 : UInt8), (97 : UInt8), (98 : UInt8), (108 : UInt8), (101 : UInt8), (32 : UInt8)] ++ tName (el l
 (Int.toNat (0 : Int))) ++ [(32 : UInt8)] ++ [(108 : UInt8), (111 : UInt8), (110 : UInt8), (103 : UInt8)]).length = (0 : Nat) → ((tOpen (el l (Int.toNat (0 : Int)))).len = (0 : Nat) → False ∧ True) ∧
 ((0 : Nat) < (tOpen (el l (Int.toNat (0 : Int)))).len → (0 : Nat) + (4 : Nat) ≤ [D.int (tA (el l (Int.toNat (0 : Int)))), D.int (tB (el l (Int.toNat (0 : Int)))), D.int (tX (el l (Int.toNat (0 :
 Int)))), D.int (tY (el l (Int.toNat (0 : Int))))].length ∧ (4 : Nat) + (tOpen (el l (Int.toNat (0 : Int)))).len ≤ (16777216 : Nat) ∧ ((4 : Nat) + (tOpen (el l (Int.toNat (0 : Int)))).len ≤ (4 : Nat) →
 (0 : Nat) + (4 : Nat) + (tOpen (el l (Int.toNat (0 : Int)))).len ≤ [D.int (tA (el l (Int.toNat (0 : Int)))), D.int (tB (el l (Int.toNat (0 : Int)))), D.int (tX (el l (Int.toNat (0 : Int)))), D.int (tY
 (el l (Int.toNat (0 : Int))))].length ∧ False ∧ True) ∧ ((4 : Nat) < (4 : Nat) + (tOpen (el l (Int.toNat (0 : Int)))).len → False ∧ True))) ∧ ((0 : Nat) < ([(116 : UInt8), (97 : UInt8), (98 : UInt8),
 (108 : UInt8), (101 : UInt8), (32 : UInt8)] ++ tName (el l (Int.toNat (0 : Int))) ++ [(32 : UInt8)] ++ [(108 : UInt8), (111 : UInt8), (110 : UInt8), (103 : UInt8)]).length → ([(116 : UInt8), (97 :
 UInt8), (98 : UInt8), (108 : UInt8), (101 : UInt8), (32 : UInt8)] ++ tName (el l (Int.toNat (0 : Int))) ++ [(32 : UInt8)] ++ [(108 : UInt8), (111 : UInt8), (110 : UInt8), (103 : UInt8)]).length ≤
 (16777216 : Nat) ∧ ((tOpen (el l (Int.toNat (0 : Int)))).len = (0 : Nat) → False ∧ True) ∧ ((0 : Nat) < (tOpen (el l (Int.toNat (0 : Int)))).len → (0 : Nat) + (4 : Nat) ≤ [D.int (tA (el l (Int.toNat
 (0 : Int)))), D.int (tB (el l (Int.toNat (0 : Int)))), D.int (tX (el l (Int.toNat (0 : Int)))), D.int (tY (el l (Int.toNat (0 : Int))))].length ∧ (4 : Nat) + (tOpen (el l (Int.toNat (0 : Int)))).len ≤
 (16777216 : Nat) ∧ ((4 : Nat) + (tOpen (el l (Int.toNat (0 : Int)))).len ≤ (4 : Nat) → (0 : Nat) + (4 : Nat) + (tOpen (el l (Int.toNat (0 : Int)))).len ≤ [D.int (tA (el l (Int.toNat (0 : Int)))),
 D.int (tB (el l (Int.toNat (0 : Int)))), D.int (tX (el l (Int.toNat (0 : Int)))), D.int (tY (el l (Int.toNat (0 : Int))))].length ∧ False ∧ True) ∧ ((4 : Nat) < (4 : Nat) + (tOpen (el l (Int.toNat (0
 : Int)))).len → False ∧ True)))) ∧ ((tShape (el l (Int.toNat (0 : Int))) = (2 : Int) → False) → (tShape (el l (Int.toNat (0 : Int))) = (3 : Int) → ([(116 : UInt8), (97 : UInt8), (98 : UInt8), (108 :
 UInt8), (101 : UInt8), (32 : UInt8)] ++ tName (el l (Int.toNat (0 : Int))) ++ [(32 : UInt8)]).length + [(104 : UInt8), (111 : UInt8), (114 : UInt8), (115 : UInt8), (101 : UInt8), (115 : UInt8), (104 :
 UInt8), (111 : UInt8), (101 : UInt8)].length < (9223372036854775808 : Nat) ∧ (([(116 : UInt8), (97 : UInt8), (98 : UInt8), (108 : UInt8), (101 : UInt8), (32 : UInt8)] ++ tName (el l (Int.toNat (0 :
 Int))) ++ [(32 : UInt8)] ++ [(104 : UInt8), (111 : UInt8), (114 : UInt8), (115 : UInt8), (101 : UInt8), (115 : UInt8), (104 : UInt8), (111 : UInt8), (101 : UInt8)]).length = (0 : Nat) → ((tOpen (el l
 (Int.toNat (0 : Int)))).len = (0 : Nat) → False ∧ True) ∧ ((0 : Nat) < (tOpen (el l (Int.toNat (0 : Int)))).len → (0 : Nat) + (4 : Nat) ≤ [D.int (tA (el l (Int.toNat (0 : Int)))), D.int (tB (el l
 (Int.toNat (0 : Int)))), D.int (tX (el l (Int.toNat (0 : Int)))), D.int (tY (el l (Int.toNat (0 : Int))))].length ∧ (4 : Nat) + (tOpen (el l (Int.toNat (0 : Int)))).len ≤ (16777216 : Nat) ∧ ((4 : Nat)
 + (tOpen (el l (Int.toNat (0 : Int)))).len ≤ (4 : Nat) → (0 : Nat) + (4 : Nat) + (tOpen (el l (Int.toNat (0 : Int)))).len ≤ [D.int (tA (el l (Int.toNat (0 : Int)))), D.int (tB (el l (Int.toNat (0 :
 Int)))), D.int (tX (el l (Int.toNat (0 : Int)))), D.int (tY (el l (Int.toNat (0 : Int))))].length ∧ False ∧ True) ∧ ((4 : Nat) < (4 : Nat) + (tOpen (el l (Int.toNat (0 : Int)))).len → False ∧ True)))
 ∧ ((0 : Nat) < ([(116 : UInt8), (97 : UInt8), (98 : UInt8), (108 : UInt8), (101 : UInt8), (32 : UInt8)] ++ tName (el l (Int.toNat (0 : Int))) ++ [(32 : UInt8)] ++ [(104 : UInt8), (111 : UInt8), (114 :
 UInt8), (115 : UInt8), (101 : UInt8), (115 : UInt8), (104 : UInt8), (111 : UInt8), (101 : UInt8)]).length → ([(116 : UInt8), (97 : UInt8), (98 : UInt8), (108 : UInt8), (101 : UInt8), (32 : UInt8)] ++
 tName (el l (Int.toNat (0 : Int))) ++ [(32 : UInt8)] ++ [(104 : UInt8), (111 : UInt8), (114 : UInt8), (115 : UInt8), (101 : UInt8), (115 : UInt8), (104 : UInt8), (111 : UInt8), (101 : UInt8)]).length
 ≤ (16777216 : Nat) ∧ ((tOpen (el l (Int.toNat (0 : Int)))).len = (0 : Nat) → False ∧ True) ∧ ((0 : Nat) < (tOpen (el l (Int.toNat (0 : Int)))).len → (0 : Nat) + (4 : Nat) ≤ [D.int (tA (el l (Int.toNat
 (0 : Int)))), D.int (tB (el l (Int.toNat (0 : Int)))), D.int (tX (el l (Int.toNat (0 : Int)))), D.int (tY (el l (Int.toNat (0 : Int))))].length ∧ (4 : Nat) + (tOpen (el l (Int.toNat (0 : Int)))).len ≤
 (16777216 : Nat) ∧ ((4 : Nat) + (tOpen (el l (Int.toNat (0 : Int)))).len ≤ (4 : Nat) → (0 : Nat) + (4 : Nat) + (tOpen (el l (Int.toNat (0 : Int)))).len ≤ [D.int (tA (el l (Int.toNat (0 : Int)))),
 D.int (tB (el l (Int.toNat (0 : Int)))), D.int (tX (el l (Int.toNat (0 : Int)))), D.int (tY (el l (Int.toNat (0 : Int))))].length ∧ False ∧ True) ∧ ((4 : Nat) < (4 : Nat) + (tOpen (el l (Int.toNat (0
 : Int)))).len → False ∧ True)))) ∧ ((tShape (el l (Int.toNat (0 : Int))) = (3 : Int) → False) → (tShape (el l (Int.toNat (0 : Int))) = (4 : Int) → ([(116 : UInt8), (97 : UInt8), (98 : UInt8), (108 :
 UInt8), (101 : UInt8), (32 : UInt8)] ++ tName (el l (Int.toNat (0 : Int))) ++ [(32 : UInt8)]).length + [(114 : UInt8), (111 : UInt8), (119 : UInt8)].length < (9223372036854775808 : Nat) ∧ (([(116 :
 UInt8), (97 : UInt8), (98 : UInt8), (108 : UInt8), (101 : UInt8), (32 : UInt8)] ++ tName (el l (Int.toNat (0 : Int))) ++ [(32 : UInt8)] ++ [(114 : UInt8), (111 : UInt8), (119 : UInt8)]).length = (0 :
 Nat) → ((tOpen (el l (Int.toNat (0 : Int)))).len = (0 : Nat) → False ∧ True) ∧ ((0 : Nat) < (tOpen (el l (Int.toNat (0 : Int)))).len → (0 : Nat) + (4 : Nat) ≤ [D.int (tA (el l (Int.toNat (0 : Int)))),
 D.int (tB (el l (Int.toNat (0 : Int)))), D.int (tX (el l (Int.toNat (0 : Int)))), D.int (tY (el l (Int.toNat (0 : Int))))].length ∧ (4 : Nat) + (tOpen (el l (Int.toNat (0 : Int)))).len ≤ (16777216 :
 Nat) ∧ ((4 : Nat) + (tOpen (el l (Int.toNat (0 : Int)))).len ≤ (4 : Nat) → (0 : Nat) + (4 : Nat) + (tOpen (el l (Int.toNat (0 : Int)))).len ≤ [D.int (tA (el l (Int.toNat (0 : Int)))), D.int (tB (el l
 (Int.toNat (0 : Int)))), D.int (tX (el l (Int.toNat (0 : Int)))), D.int (tY (el l (Int.toNat (0 : Int))))].length ∧ False ∧ True) ∧ ((4 : Nat) < (4 : Nat) + (tOpen (el l (Int.toNat (0 : Int)))).len →
 False ∧ True))) ∧ ((0 : Nat) < ([(116 : UInt8), (97 : UInt8), (98 : UInt8), (108 : UInt8), (101 : UInt8), (32 : UInt8)] ++ tName (el l (Int.toNat (0 : Int))) ++ [(32 : UInt8)] ++ [(114 : UInt8), (111
 : UInt8), (119 : UInt8)]).length → ([(116 : UInt8), (97 : UInt8), (98 : UInt8), (108 : UInt8), (101 : UInt8), (32 : UInt8)] ++ tName (el l (Int.toNat (0 : Int))) ++ [(32 : UInt8)] ++ [(114 : UInt8),
 (111 : UInt8), (119 : UInt8)]).length ≤ (16777216 : Nat) ∧ ((tOpen (el l (Int.toNat (0 : Int)))).len = (0 : Nat) → False ∧ True) ∧ ((0 : Nat) < (tOpen (el l (Int.toNat (0 : Int)))).len → (0 : Nat) +
 (4 : Nat) ≤ [D.int (tA (el l (Int.toNat (0 : Int)))), D.int (tB (el l (Int.toNat (0 : Int)))), D.int (tX (el l (Int.toNat (0 : Int)))), D.int (tY (el l (Int.toNat (0 : Int))))].length ∧ (4 : Nat) +
 (tOpen (el l (Int.toNat (0 : Int)))).len ≤ (16777216 : Nat) ∧ ((4 : Nat) + (tOpen (el l (Int.toNat (0 : Int)))).len ≤ (4 : Nat) → (0 : Nat) + (4 : Nat) + (tOpen (el l (Int.toNat (0 : Int)))).len ≤
 [D.int (tA (el l (Int.toNat (0 : Int)))), D.int (tB (el l (Int.toNat (0 : Int)))), D.int (tX (el l (Int.toNat (0 : Int)))), D.int (tY (el l (Int.toNat (0 : Int))))].length ∧ False ∧ True) ∧ ((4 : Nat)
 < (4 : Nat) + (tOpen (el l (Int.toNat (0 : Int)))).len → False ∧ True)))) ∧ ((tShape (el l (Int.toNat (0 : Int))) = (4 : Int) → False) → ([(116 : UInt8), (97 : UInt8), (98 : UInt8), (108 : UInt8),
 (101 : UInt8), (32 : UInt8)] ++ tName (el l (Int.toNat (0 : Int))) ++ [(32 : UInt8)]).length + ([] : List UInt8).length < (9223372036854775808 : Nat) ∧ (([(116 : UInt8), (97 : UInt8), (98 : UInt8),
 (108 : UInt8), (101 : UInt8), (32 : UInt8)] ++ tName (el l (Int.toNat (0 : Int))) ++ [(32 : UInt8)] ++ ([] : List UInt8)).length = (0 : Nat) → ((tOpen (el l (Int.toNat (0 : Int)))).len = (0 : Nat) →
 False ∧ True) ∧ ((0 : Nat) < (tOpen (el l (Int.toNat (0 : Int)))).len → (0 : Nat) + (4 : Nat) ≤ [D.int (tA (el l (Int.toNat (0 : Int)))), D.int (tB (el l (Int.toNat (0 : Int)))), D.int (tX (el l
 (Int.toNat (0 : Int)))), D.int (tY (el l (Int.toNat (0 : Int))))].length ∧ (4 : Nat) + (tOpen (el l (Int.toNat (0 : Int)))).len ≤ (16777216 : Nat) ∧ ((4 : Nat) + (tOpen (el l (Int.toNat (0 :
 Int)))).len ≤ (4 : Nat) → (0 : Nat) + (4 : Nat) + (tOpen (el l (Int.toNat (0 : Int)))).len ≤ [D.int (tA (el l (Int.toNat (0 : Int)))), D.int (tB (el l (Int.toNat (0 : Int)))), D.int (tX (el l
 (Int.toNat (0 : Int)))), D.int (tY (el l (Int.toNat (0 : Int))))].length ∧ False ∧ True) ∧ ((4 : Nat) < (4 : Nat) + (tOpen (el l (Int.toNat (0 : Int)))).len → False ∧ True))) ∧ ((0 : Nat) < ([(116 :
 UInt8), (97 : UInt8), (98 : UInt8), (108 : UInt8), (101 : UInt8), (32 : UInt8)] ++ tName (el l (Int.toNat (0 : Int))) ++ [(32 : UInt8)] ++ ([] : List UInt8)).length → ([(116 : UInt8), (97 : UInt8),
 (98 : UInt8), (108 : UInt8), (101 : UInt8), (32 : UInt8)] ++ tName (el l (Int.toNat (0 : Int))) ++ [(32 : UInt8)] ++ ([] : List UInt8)).length ≤ (16777216 : Nat) ∧ ((tOpen (el l (Int.toNat (0 :
 Int)))).len = (0 : Nat) → False ∧ True) ∧ ((0 : Nat) < (tOpen (el l (Int.toNat (0 : Int)))).len → (0 : Nat) + (4 : Nat) ≤ [D.int (tA (el l (Int.toNat (0 : Int)))), D.int (tB (el l (Int.toNat (0 :
 Int)))), D.int (tX (el l (Int.toNat (0 : Int)))), D.int (tY (el l (Int.toNat (0 : Int))))].length ∧ (4 : Nat) + (tOpen (el l (Int.toNat (0 : Int)))).len ≤ (16777216 : Nat) ∧ ((4 : Nat) + (tOpen (el l
 (Int.toNat (0 : Int)))).len ≤ (4 : Nat) → (0 : Nat) + (4 : Nat) + (tOpen (el l (Int.toNat (0 : Int)))).len ≤ [D.int (tA (el l (Int.toNat (0 : Int)))), D.int (tB (el l (Int.toNat (0 : Int)))), D.int
 (tX (el l (Int.toNat (0 : Int)))), D.int (tY (el l (Int.toNat (0 : Int))))].length ∧ False ∧ True) ∧ ((4 : Nat) < (4 : Nat) + (tOpen (el l (Int.toNat (0 : Int)))).len → False ∧ True)))))))) ∧ (((0 :
 Int) < (↑l.len : Int) → False) → ([] : List UInt8) = []))) := by intros; kernel_rfl

theorem vc39i : ∀ (nm : List UInt8) (sh a b : Int) (o : D) (x y : Int), symFun (ctx num2 refAnn) (5 : Nat) (39 : FuncId) [V.agg [V.str nm, V.int IntKind.u8 sh, V.int IntKind.i64 a, V.int IntKind.i64
 b, V.dat (29 : TypeId) o, V.int IntKind.i64 x, V.int IntKind.i64 y]] (V.val (Value.slice none (0 : Nat) (0 : Nat))) = (o.len ≤ (100 : Nat) ∧ ((errZ nm sh a b o x y = (0 : Int) → False) → True) ∧
 (((errZ nm sh a b o x y = (0 : Int) → False) → False) → (sizeZ sh a b = (0 : Int) → False) ∧ (0 : Int) ≤ sizeZ sh a b ∧ sizeZ sh a b ≤ sizeZ sh a b ∧ sizeZ sh a b ≤ (16777216 : Int) ∧ (ctx num2
 refAnn).P.types[(159 : Nat)].bytes * (sizeZ sh a b).toNat ≤ (281474976710656 : Nat) ∧ False ∧ True)) := by intros; kernel_rfl

theorem vc18 : ∀ (l : D) (w v n : Int), symFun (ctxF ref1 refAnn refFrz refJoin) (5 : Nat) (18 : FuncId) [V.dat (65 : TypeId) l, V.int IntKind.u8 w, V.int IntKind.u8 v, V.int IntKind.i64 n] (V.prop
 True) = ((0 : Int) ≤ (0 : Int) ∧ ((0 : Int) ≤ bif false then max (↑l.len : Int) (16 : Int) else min (↑l.len : Int) (16 : Int)) ∧ (bif false then max (↑l.len : Int) (16 : Int) else min (↑l.len : Int)
 (16 : Int)) ≤ (↑l.len : Int) ∧ ((∃ (x : Nat), x = (0 : Nat) ∧ ((0 : Int) = (0 : Int) ∧ True ∧ True) ∧ True) ∨ ∃ (x : Nat), ((0 : Nat) < x ∧ x ≤ min l.len (16 : Nat)) ∧ ((0 : Int) = (↑x : Int) ∧ False
 ∧ True) ∧ False ∧ True) ∧ (∀ (x : Nat), x = (0 : Nat) → (16 : Nat) - x < LIM ∧ ((0 : Int) < (↑(l.sub (0 : Nat) (bif false then max (↑l.len : Int) (16 : Int) else min (↑l.len : Int) (16 :
 Int)).toNat).len : Int) → (0 : Int) ≤ (0 : Int) ∧ (0 : Int) < (↑(l.sub (0 : Nat) (bif false then max (↑l.len : Int) (16 : Int) else min (↑l.len : Int) (16 : Int)).toNat).len : Int) ∧
 ((-9223372036854775808 : Int) ≤ (97 : Int) + (0 : Int) ∧ (97 : Int) + (0 : Int) < (9223372036854775808 : Int)) ∧ (0 : Nat) + (1 : Nat) ≤ [D.int (IntKind.u8.wrap ((97 : Int) + (0 : Int)))].length ∧
 byteL (List.take (1 : Nat) [D.int (IntKind.u8.wrap ((97 : Int) + (0 : Int)))]) ∧ (byteP ((el (l.sub (0 : Nat) (bif false then max (↑l.len : Int) (16 : Int) else min (↑l.len : Int) (16 : Int)).toNat)
 (Int.toNat (0 : Int))).fld (0 : Nat)).asInt ∧ byteP (tShape (el (l.sub (0 : Nat) (bif false then max (↑l.len : Int) (16 : Int) else min (↑l.len : Int) (16 : Int)).toNat) (Int.toNat (0 : Int)))) ∧
 byteP (tA (el (l.sub (0 : Nat) (bif false then max (↑l.len : Int) (16 : Int) else min (↑l.len : Int) (16 : Int)).toNat) (Int.toNat (0 : Int)))) ∧ bytesP ((el (l.sub (0 : Nat) (bif false then max
 (↑l.len : Int) (16 : Int) else min (↑l.len : Int) (16 : Int)).toNat) (Int.toNat (0 : Int))).fld (3 : Nat))) ∧ ((-9223372036854775808 : Int) ≤ (7 : Int) * (0 : Int) ∧ (7 : Int) * (0 : Int) <
 (9223372036854775808 : Int)) ∧ ((-9223372036854775808 : Int) ≤ (100 : Int) - (0 : Int) ∧ (100 : Int) - (0 : Int) < (9223372036854775808 : Int)) ∧ (0 : Nat) + (1 : Nat) ≤ [D.sct [D.str (bytesD
 (List.take (1 : Nat) [D.int (IntKind.u8.wrap ((97 : Int) + (0 : Int)))])), D.int (mSh ((el (l.sub (0 : Nat) (bif false then max (↑l.len : Int) (16 : Int) else min (↑l.len : Int) (16 : Int)).toNat)
 (Int.toNat (0 : Int))).fld (0 : Nat)).asInt), D.int (mA ((el (l.sub (0 : Nat) (bif false then max (↑l.len : Int) (16 : Int) else min (↑l.len : Int) (16 : Int)).toNat) (Int.toNat (0 : Int))).fld (0 :
 Nat)).asInt (tShape (el (l.sub (0 : Nat) (bif false then max (↑l.len : Int) (16 : Int) else min (↑l.len : Int) (16 : Int)).toNat) (Int.toNat (0 : Int))))), D.int (mB ((el (l.sub (0 : Nat) (bif false
 then max (↑l.len : Int) (16 : Int) else min (↑l.len : Int) (16 : Int)).toNat) (Int.toNat (0 : Int))).fld (0 : Nat)).asInt (tShape (el (l.sub (0 : Nat) (bif false then max (↑l.len : Int) (16 : Int)
 else min (↑l.len : Int) (16 : Int)).toNat) (Int.toNat (0 : Int)))) (tA (el (l.sub (0 : Nat) (bif false then max (↑l.len : Int) (16 : Int) else min (↑l.len : Int) (16 : Int)).toNat) (Int.toNat (0 :
 Int))))), openD ((el (l.sub (0 : Nat) (bif false then max (↑l.len : Int) (16 : Int) else min (↑l.len : Int) (16 : Int)).toNat) (Int.toNat (0 : Int))).fld (3 : Nat)) (mN ((el (l.sub (0 : Nat) (bif
 false then max (↑l.len : Int) (16 : Int) else min (↑l.len : Int) (16 : Int)).toNat) (Int.toNat (0 : Int))).fld (0 : Nat)).asInt (tShape (el (l.sub (0 : Nat) (bif false then max (↑l.len : Int) (16 :
 Int) else min (↑l.len : Int) (16 : Int)).toNat) (Int.toNat (0 : Int)))) (tA (el (l.sub (0 : Nat) (bif false then max (↑l.len : Int) (16 : Int) else min (↑l.len : Int) (16 : Int)).toNat) (Int.toNat (0
 : Int))))), D.int ((7 : Int) * (0 : Int)), D.int ((100 : Int) - (0 : Int))]].length ∧ (1 : Nat) ≤ (16777216 : Nat) ∧ ((-9223372036854775808 : Int) ≤ (0 : Int) + (1 : Int) ∧ (0 : Int) + (1 : Int) <
 (9223372036854775808 : Int)) ∧ ((∃ (y : Nat), y = (0 : Nat) ∧ (16 : Nat) - y < (16 : Nat) - x ∧ ((0 : Int) + (1 : Int) = (0 : Int) ∧ False ∧ True) ∧ True) ∨ ∃ (y : Nat), ((0 : Nat) < y ∧ y ≤ min l.len
 (16 : Nat)) ∧ (16 : Nat) - y < (16 : Nat) - x ∧ ((0 : Int) + (1 : Int) = (↑y : Int) ∧ ((0 : Nat) = (0 : Nat) ∧ (1 : Nat) = y ∧ True) ∧ True) ∧ List.take (1 : Nat) [D.sct [D.str (bytesD (List.take (1 :
 Nat) [D.int (IntKind.u8.wrap ((97 : Int) + (0 : Int)))])), D.int (mSh ((el (l.sub (0 : Nat) (bif false then max (↑l.len : Int) (16 : Int) else min (↑l.len : Int) (16 : Int)).toNat) (Int.toNat (0 :
 Int))).fld (0 : Nat)).asInt), D.int (mA ((el (l.sub (0 : Nat) (bif false then max (↑l.len : Int) (16 : Int) else min (↑l.len : Int) (16 : Int)).toNat) (Int.toNat (0 : Int))).fld (0 : Nat)).asInt
 (tShape (el (l.sub (0 : Nat) (bif false then max (↑l.len : Int) (16 : Int) else min (↑l.len : Int) (16 : Int)).toNat) (Int.toNat (0 : Int))))), D.int (mB ((el (l.sub (0 : Nat) (bif false then max
 (↑l.len : Int) (16 : Int) else min (↑l.len : Int) (16 : Int)).toNat) (Int.toNat (0 : Int))).fld (0 : Nat)).asInt (tShape (el (l.sub (0 : Nat) (bif false then max (↑l.len : Int) (16 : Int) else min
 (↑l.len : Int) (16 : Int)).toNat) (Int.toNat (0 : Int)))) (tA (el (l.sub (0 : Nat) (bif false then max (↑l.len : Int) (16 : Int) else min (↑l.len : Int) (16 : Int)).toNat) (Int.toNat (0 : Int))))),
 openD ((el (l.sub (0 : Nat) (bif false then max (↑l.len : Int) (16 : Int) else min (↑l.len : Int) (16 : Int)).toNat) (Int.toNat (0 : Int))).fld (3 : Nat)) (mN ((el (l.sub (0 : Nat) (bif false then max
 (↑l.len : Int) (16 : Int) else min (↑l.len : Int) (16 : Int)).toNat) (Int.toNat (0 : Int))).fld (0 : Nat)).asInt (tShape (el (l.sub (0 : Nat) (bif false then max (↑l.len : Int) (16 : Int) else min
 (↑l.len : Int) (16 : Int)).toNat) (Int.toNat (0 : Int)))) (tA (el (l.sub (0 : Nat) (bif false then max (↑l.len : Int) (16 : Int) else min (↑l.len : Int) (16 : Int)).toNat) (Int.toNat (0 : Int))))),
 D.int ((7 : Int) * (0 : Int)), D.int ((100 : Int) - (0 : Int))]] = madeL l y ∧ True)) ∧ (((0 : Int) < (↑(l.sub (0 : Nat) (bif false then max (↑l.len : Int) (16 : Int) else min (↑l.len : Int) (16 :
 Int)).toNat).len : Int) → False) → (smallD D.nil ∧ (okHall D.nil → (0 : Nat) = (0 : Nat))) ∧ (([] : List UInt8) = [] → (true = true ↔ True)) ∧ ((([] : List UInt8) = [] → False) → (false = true ↔
 True)))) ∧ ∀ (x : Nat), (0 : Nat) < x ∧ x ≤ min l.len (16 : Nat) → (16 : Nat) - x < LIM ∧ ((↑x : Int) < (↑(l.sub (0 : Nat) (bif false then max (↑l.len : Int) (16 : Int) else min (↑l.len : Int) (16 :
 Int)).toNat).len : Int) → (0 : Int) ≤ (↑x : Int) ∧ (↑x : Int) < (↑(l.sub (0 : Nat) (bif false then max (↑l.len : Int) (16 : Int) else min (↑l.len : Int) (16 : Int)).toNat).len : Int) ∧
 ((-9223372036854775808 : Int) ≤ (97 : Int) + (↑x : Int) ∧ (97 : Int) + (↑x : Int) < (9223372036854775808 : Int)) ∧ (0 : Nat) + (1 : Nat) ≤ [D.int (IntKind.u8.wrap ((97 : Int) + (↑x : Int)))].length ∧
 byteL (List.take (1 : Nat) [D.int (IntKind.u8.wrap ((97 : Int) + (↑x : Int)))]) ∧ (byteP ((el (l.sub (0 : Nat) (bif false then max (↑l.len : Int) (16 : Int) else min (↑l.len : Int) (16 : Int)).toNat)
 x).fld (0 : Nat)).asInt ∧ byteP (tShape (el (l.sub (0 : Nat) (bif false then max (↑l.len : Int) (16 : Int) else min (↑l.len : Int) (16 : Int)).toNat) x)) ∧ byteP (tA (el (l.sub (0 : Nat) (bif false
 then max (↑l.len : Int) (16 : Int) else min (↑l.len : Int) (16 : Int)).toNat) x)) ∧ bytesP ((el (l.sub (0 : Nat) (bif false then max (↑l.len : Int) (16 : Int) else min (↑l.len : Int) (16 :
 Int)).toNat) x).fld (3 : Nat))) ∧ ((-9223372036854775808 : Int) ≤ (7 : Int) * (↑x : Int) ∧ (7 : Int) * (↑x : Int) < (9223372036854775808 : Int)) ∧ ((-9223372036854775808 : Int) ≤ (100 : Int) - (↑x :
 Int) ∧ (100 : Int) - (↑x : Int) < (9223372036854775808 : Int)) ∧ (0 : Nat) + (1 : Nat) ≤ [D.sct [D.str (bytesD (List.take (1 : Nat) [D.int (IntKind.u8.wrap ((97 : Int) + (↑x : Int)))])), D.int (mSh
 ((el (l.sub (0 : Nat) (bif false then max (↑l.len : Int) (16 : Int) else min (↑l.len : Int) (16 : Int)).toNat) x).fld (0 : Nat)).asInt), D.int (mA ((el (l.sub (0 : Nat) (bif false then max (↑l.len :
 Int) (16 : Int) else min (↑l.len : Int) (16 : Int)).toNat) x).fld (0 : Nat)).asInt (tShape (el (l.sub (0 : Nat) (bif false then max (↑l.len : Int) (16 : Int) else min (↑l.len : Int) (16 : Int)).toNat)
 x))), D.int (mB ((el (l.sub (0 : Nat) (bif false then max (↑l.len : Int) (16 : Int) else min (↑l.len : Int) (16 : Int)).toNat) x).fld (0 : Nat)).asInt (tShape (el (l.sub (0 : Nat) (bif false then max
 (↑l.len : Int) (16 : Int) else min (↑l.len : Int) (16 : Int)).toNat) x)) (tA (el (l.sub (0 : Nat) (bif false then max (↑l.len : Int) (16 : Int) else min (↑l.len : Int) (16 : Int)).toNat) x))), openD
 ((el (l.sub (0 : Nat) (bif false then max (↑l.len : Int) (16 : Int) else min (↑l.len : Int) (16 : Int)).toNat) x).fld (3 : Nat)) (mN ((el (l.sub (0 : Nat) (bif false then max (↑l.len : Int) (16 : Int)
 else min (↑l.len : Int) (16 : Int)).toNat) x).fld (0 : Nat)).asInt (tShape (el (l.sub (0 : Nat) (bif false then max (↑l.len : Int) (16 : Int) else min (↑l.len : Int) (16 : Int)).toNat) x)) (tA (el
 (l.sub (0 : Nat) (bif false then max (↑l.len : Int) (16 : Int) else min (↑l.len : Int) (16 : Int)).toNat) x))), D.int ((7 : Int) * (↑x : Int)), D.int ((100 : Int) - (↑x : Int))]].length ∧ (0 : Nat) +
 x ≤ (madeL l x).length ∧ x + (1 : Nat) ≤ (16777216 : Nat) ∧ ((-9223372036854775808 : Int) ≤ (↑x : Int) + (1 : Int) ∧ (↑x : Int) + (1 : Int) < (9223372036854775808 : Int)) ∧ ((∃ (y : Nat), y = (0 :
 Nat) ∧ (16 : Nat) - y < (16 : Nat) - x ∧ ((↑x : Int) + (1 : Int) = (0 : Int) ∧ False ∧ True) ∧ True) ∨ ∃ (y : Nat), ((0 : Nat) < y ∧ y ≤ min l.len (16 : Nat)) ∧ (16 : Nat) - y < (16 : Nat) - x ∧ ((↑x
 : Int) + (1 : Int) = (↑y : Int) ∧ ((0 : Nat) = (0 : Nat) ∧ x + (1 : Nat) = y ∧ True) ∧ True) ∧ List.take x (madeL l x) ++ List.take (1 : Nat) [D.sct [D.str (bytesD (List.take (1 : Nat) [D.int
 (IntKind.u8.wrap ((97 : Int) + (↑x : Int)))])), D.int (mSh ((el (l.sub (0 : Nat) (bif false then max (↑l.len : Int) (16 : Int) else min (↑l.len : Int) (16 : Int)).toNat) x).fld (0 : Nat)).asInt),
 D.int (mA ((el (l.sub (0 : Nat) (bif false then max (↑l.len : Int) (16 : Int) else min (↑l.len : Int) (16 : Int)).toNat) x).fld (0 : Nat)).asInt (tShape (el (l.sub (0 : Nat) (bif false then max
 (↑l.len : Int) (16 : Int) else min (↑l.len : Int) (16 : Int)).toNat) x))), D.int (mB ((el (l.sub (0 : Nat) (bif false then max (↑l.len : Int) (16 : Int) else min (↑l.len : Int) (16 : Int)).toNat)
 x).fld (0 : Nat)).asInt (tShape (el (l.sub (0 : Nat) (bif false then max (↑l.len : Int) (16 : Int) else min (↑l.len : Int) (16 : Int)).toNat) x)) (tA (el (l.sub (0 : Nat) (bif false then max (↑l.len :
 Int) (16 : Int) else min (↑l.len : Int) (16 : Int)).toNat) x))), openD ((el (l.sub (0 : Nat) (bif false then max (↑l.len : Int) (16 : Int) else min (↑l.len : Int) (16 : Int)).toNat) x).fld (3 : Nat))
 (mN ((el (l.sub (0 : Nat) (bif false then max (↑l.len : Int) (16 : Int) else min (↑l.len : Int) (16 : Int)).toNat) x).fld (0 : Nat)).asInt (tShape (el (l.sub (0 : Nat) (bif false then max (↑l.len :
 Int) (16 : Int) else min (↑l.len : Int) (16 : Int)).toNat) x)) (tA (el (l.sub (0 : Nat) (bif false then max (↑l.len : Int) (16 : Int) else min (↑l.len : Int) (16 : Int)).toNat) x))), D.int ((7 : Int)
 * (↑x : Int)), D.int ((100 : Int) - (↑x : Int))]] = madeL l y ∧ True)) ∧ (((↑x : Int) < (↑(l.sub (0 : Nat) (bif false then max (↑l.len : Int) (16 : Int) else min (↑l.len : Int) (16 : Int)).toNat).len
 : Int) → False) → ((↑x : Int) = (0 : Int) → (0 : Nat) + x ≤ (madeL l x).length ∧ (smallD (D.list (List.take x (madeL l x))) ∧ (okHall (D.list (List.take x (madeL l x))) → (List.take x (madeL l
 x)).length = (0 : Nat))) ∧ (([] : List UInt8) = [] → (true = true ↔ True)) ∧ ((([] : List UInt8) = [] → False) → (false = true ↔ True))) ∧ (((↑x : Int) = (0 : Int) → False) → ((↑x : Int) = (0 : Int) →
 False) ∧ (0 : Int) ≤ (IntKind.i64.wrap w).tmod (↑x : Int) ∧ (IntKind.i64.wrap w).tmod (↑x : Int) < (↑x : Int) ∧ ((IntKind.i64.wrap w).tmod (↑x : Int)).toNat < (madeL l x).length ∧ (((6 : Int) = (0 :
 Int) → False) ∧ (v.tmod (6 : Int) = (0 : Int) → ((5 : Int) = (0 : Int) → False) ∧ (0 : Int) ≤ (IntKind.u64.wrap n).tmod (5 : Int) ∧ (IntKind.u64.wrap n).tmod (5 : Int) < (↑(5 : Nat) : Int) ∧
 ((IntKind.u64.wrap n).tmod (5 : Int)).toNat < [D.str [], D.str [(65 : UInt8)], D.str [(97 : UInt8), (32 : UInt8), (98 : UInt8)], D.str [(97 : UInt8), (98 : UInt8), (99 : UInt8), (100 : UInt8), (101 :
 UInt8), (102 : UInt8), (103 : UInt8), (104 : UInt8), (105 : UInt8), (106 : UInt8), (107 : UInt8), (108 : UInt8), (109 : UInt8)], D.str [(97 : UInt8), (10 : UInt8)]].length ∧ ∃ (x_1 : Row), spoilt
 (D.list (madeL l x)) x_1 ∧ ((4 : Int) = x_1.want ∧ (IntKind.i64.wrap w).tmod (↑x : Int) = x_1.i ∧ True) ∧ (wordN ((IntKind.u64.wrap n).tmod (5 : Int)).toNat = x_1.nm ∧ tShape (mrow l x
 ((IntKind.i64.wrap w).tmod (↑x : Int)).toNat) = x_1.sh ∧ tA (mrow l x ((IntKind.i64.wrap w).tmod (↑x : Int)).toNat) = x_1.a ∧ tB (mrow l x ((IntKind.i64.wrap w).tmod (↑x : Int)).toNat) = x_1.b ∧ tOpen
 (mrow l x ((IntKind.i64.wrap w).tmod (↑x : Int)).toNat) = x_1.o ∧ tX (mrow l x ((IntKind.i64.wrap w).tmod (↑x : Int)).toNat) = x_1.X ∧ tY (mrow l x ((IntKind.i64.wrap w).tmod (↑x : Int)).toNat) =
 x_1.Y ∧ True) ∧ True) ∧ ((v.tmod (6 : Int) = (0 : Int) → False) → (v.tmod (6 : Int) = (1 : Int) → ∃ (x_1 : Row), spoilt (D.list (madeL l x)) x_1 ∧ ((10 : Int) = x_1.want ∧ (IntKind.i64.wrap w).tmod
 (↑x : Int) = x_1.i ∧ True) ∧ (tName (mrow l x ((IntKind.i64.wrap w).tmod (↑x : Int)).toNat) = x_1.nm ∧ tShape (mrow l x ((IntKind.i64.wrap w).tmod (↑x : Int)).toNat) = x_1.sh ∧ (bif true then max n
 (25 : Int) else min n (25 : Int)) = x_1.a ∧ tB (mrow l x ((IntKind.i64.wrap w).tmod (↑x : Int)).toNat) = x_1.b ∧ tOpen (mrow l x ((IntKind.i64.wrap w).tmod (↑x : Int)).toNat) = x_1.o ∧ tX (mrow l x
 ((IntKind.i64.wrap w).tmod (↑x : Int)).toNat) = x_1.X ∧ tY (mrow l x ((IntKind.i64.wrap w).tmod (↑x : Int)).toNat) = x_1.Y ∧ True) ∧ True) ∧ ((v.tmod (6 : Int) = (1 : Int) → False) → (v.tmod (6 : Int)
 = (2 : Int) → ∃ (x_1 : Row), spoilt (D.list (madeL l x)) x_1 ∧ ((10 : Int) = x_1.want ∧ (IntKind.i64.wrap w).tmod (↑x : Int) = x_1.i ∧ True) ∧ (tName (mrow l x ((IntKind.i64.wrap w).tmod (↑x :
 Int)).toNat) = x_1.nm ∧ tShape (mrow l x ((IntKind.i64.wrap w).tmod (↑x : Int)).toNat) = x_1.sh ∧ (bif false then max n (0 : Int) else min n (0 : Int)) = x_1.a ∧ tB (mrow l x ((IntKind.i64.wrap
 w).tmod (↑x : Int)).toNat) = x_1.b ∧ tOpen (mrow l x ((IntKind.i64.wrap w).tmod (↑x : Int)).toNat) = x_1.o ∧ tX (mrow l x ((IntKind.i64.wrap w).tmod (↑x : Int)).toNat) = x_1.X ∧ tY (mrow l x
 ((IntKind.i64.wrap w).tmod (↑x : Int)).toNat) = x_1.Y ∧ True) ∧ True) ∧ ((v.tmod (6 : Int) = (2 : Int) → False) → (v.tmod (6 : Int) = (3 : Int) → ((tOpen (mrow l x ((IntKind.i64.wrap w).tmod (↑x :
 Int)).toNat)).isNil → (0 : Nat) + (1 : Nat) ≤ [D.int (bif true then max n (24 : Int) else min n (24 : Int))].length ∧ (1 : Nat) ≤ (16777216 : Nat) ∧ (0 : Nat) + (1 : Nat) ≤ (List.take (1 : Nat) [D.int
 (bif true then max n (24 : Int) else min n (24 : Int))]).length ∧ ∃ (x_1 : Row), spoilt (D.list (madeL l x)) x_1 ∧ ((11 : Int) = x_1.want ∧ (IntKind.i64.wrap w).tmod (↑x : Int) = x_1.i ∧ True) ∧
 (tName (mrow l x ((IntKind.i64.wrap w).tmod (↑x : Int)).toNat) = x_1.nm ∧ tShape (mrow l x ((IntKind.i64.wrap w).tmod (↑x : Int)).toNat) = x_1.sh ∧ tA (mrow l x ((IntKind.i64.wrap w).tmod (↑x :
 Int)).toNat) = x_1.a ∧ tB (mrow l x ((IntKind.i64.wrap w).tmod (↑x : Int)).toNat) = x_1.b ∧ D.list (List.take (1 : Nat) (List.take (1 : Nat) [D.int (bif true then max n (24 : Int) else min n (24 :
 Int))])) = x_1.o ∧ tX (mrow l x ((IntKind.i64.wrap w).tmod (↑x : Int)).toNat) = x_1.X ∧ tY (mrow l x ((IntKind.i64.wrap w).tmod (↑x : Int)).toNat) = x_1.Y ∧ True) ∧ True) ∧ (((tOpen (mrow l x
 ((IntKind.i64.wrap w).tmod (↑x : Int)).toNat)).isNil → False) → ((tOpen (mrow l x ((IntKind.i64.wrap w).tmod (↑x : Int)).toNat)).len = (0 : Nat) → (0 : Nat) + (1 : Nat) ≤ [D.int (bif true then max n
 (24 : Int) else min n (24 : Int))].length ∧ (0 : Nat) + (0 : Nat) ≤ ([] : List D).length ∧ (0 : Nat) + (1 : Nat) ≤ (16777216 : Nat) ∧ (0 : Nat) + ((0 : Nat) + (1 : Nat)) ≤ (List.take (0 : Nat) ([] :
 List D) ++ List.take (1 : Nat) [D.int (bif true then max n (24 : Int) else min n (24 : Int))]).length ∧ ∃ (x_1 : Row), spoilt (D.list (madeL l x)) x_1 ∧ ((11 : Int) = x_1.want ∧ (IntKind.i64.wrap
 w).tmod (↑x : Int) = x_1.i ∧ True) ∧ (tName (mrow l x ((IntKind.i64.wrap w).tmod (↑x : Int)).toNat) = x_1.nm ∧ tShape (mrow l x ((IntKind.i64.wrap w).tmod (↑x : Int)).toNat) = x_1.sh ∧ tA (mrow l x
 ((IntKind.i64.wrap w).tmod (↑x : Int)).toNat) = x_1.a ∧ tB (mrow l x ((IntKind.i64.wrap w).tmod (↑x : Int)).toNat) = x_1.b ∧ D.list (List.take ((0 : Nat) + (1 : Nat)) (List.take (0 : Nat) ([] : List
 D) ++ List.take (1 : Nat) [D.int (bif true then max n (24 : Int) else min n (24 : Int))])) = x_1.o ∧ tX (mrow l x ((IntKind.i64.wrap w).tmod (↑x : Int)).toNat) = x_1.X ∧ tY (mrow l x
 ((IntKind.i64.wrap w).tmod (↑x : Int)).toNat) = x_1.Y ∧ True) ∧ True) ∧ ((0 : Nat) < (tOpen (mrow l x ((IntKind.i64.wrap w).tmod (↑x : Int)).toNat)).len → (0 : Nat) + (0 : Nat) ≤ ([] : List D).length
 ∧ (0 : Nat) + (tOpen (mrow l x ((IntKind.i64.wrap w).tmod (↑x : Int)).toNat)).len ≤ (16777216 : Nat) ∧ ((0 : Nat) + (tOpen (mrow l x ((IntKind.i64.wrap w).tmod (↑x : Int)).toNat)).len ≤ (0 : Nat) → (0
 : Nat) + (0 : Nat) + (tOpen (mrow l x ((IntKind.i64.wrap w).tmod (↑x : Int)).toNat)).len ≤ ([] : List D).length ∧ (0 : Nat) + (1 : Nat) ≤ [D.int (bif true then max n (24 : Int) else min n (24 :
 Int))].length ∧ (0 : Nat) + (tOpen (mrow l x ((IntKind.i64.wrap w).tmod (↑x : Int)).toNat)).len ≤ (List.take ((0 : Nat) + (0 : Nat)) ([] : List D) ++ (tOpen (mrow l x ((IntKind.i64.wrap w).tmod (↑x :
 Int)).toNat)).asList ++ List.drop ((0 : Nat) + (0 : Nat) + (tOpen (mrow l x ((IntKind.i64.wrap w).tmod (↑x : Int)).toNat)).len) ([] : List D)).length ∧ (tOpen (mrow l x ((IntKind.i64.wrap w).tmod (↑x
 : Int)).toNat)).len + (1 : Nat) ≤ (16777216 : Nat) ∧ ((tOpen (mrow l x ((IntKind.i64.wrap w).tmod (↑x : Int)).toNat)).len + (1 : Nat) ≤ (0 : Nat) → (0 : Nat) + (tOpen (mrow l x ((IntKind.i64.wrap
 w).tmod (↑x : Int)).toNat)).len + (1 : Nat) ≤ (List.take ((0 : Nat) + (0 : Nat)) ([] : List D) ++ (tOpen (mrow l x ((IntKind.i64.wrap w).tmod (↑x : Int)).toNat)).asList ++ List.drop ((0 : Nat) + (0 :
 Nat) + (tOpen (mrow l x ((IntKind.i64.wrap w).tmod (↑x : Int)).toNat)).len) ([] : List D)).length ∧ (0 : Nat) + ((tOpen (mrow l x ((IntKind.i64.wrap w).tmod (↑x : Int)).toNat)).len + (1 : Nat)) ≤
 (List.take ((0 : Nat) + (tOpen (mrow l x ((IntKind.i64.wrap w).tmod (↑x : Int)).toNat)).len) (List.take ((0 : Nat) + (0 : Nat)) ([] : List D) ++ (tOpen (mrow l x ((IntKind.i64.wrap w).tmod (↑x :
 Int)).toNat)).asList ++ List.drop ((0 : Nat) + (0 : Nat) + (tOpen (mrow l x ((IntKind.i64.wrap w).tmod (↑x : Int)).toNat)).len) ([] : List D)) ++ List.take (1 : Nat) [D.int (bif true then max n (24 :
 Int) else min n (24 : Int))] ++ List.drop ((0 : Nat) + (tOpen (mrow l x ((IntKind.i64.wrap w).tmod (↑x : Int)).toNat)).len + (1 : Nat)) (List.take ((0 : Nat) + (0 : Nat)) ([] : List D) ++ (tOpen (mrow
 l x ((IntKind.i64.wrap w).tmod (↑x : Int)).toNat)).asList ++ List.drop ((0 : Nat) + (0 : Nat) + (tOpen (mrow l x ((IntKind.i64.wrap w).tmod (↑x : Int)).toNat)).len) ([] : List D))).length ∧ ∃ (x_1 :
 Row), spoilt (D.list (madeL l x)) x_1 ∧ ((11 : Int) = x_1.want ∧ (IntKind.i64.wrap w).tmod (↑x : Int) = x_1.i ∧ True) ∧ (tName (mrow l x ((IntKind.i64.wrap w).tmod (↑x : Int)).toNat) = x_1.nm ∧ tShape
 (mrow l x ((IntKind.i64.wrap w).tmod (↑x : Int)).toNat) = x_1.sh ∧ tA (mrow l x ((IntKind.i64.wrap w).tmod (↑x : Int)).toNat) = x_1.a ∧ tB (mrow l x ((IntKind.i64.wrap w).tmod (↑x : Int)).toNat) =
 x_1.b ∧ D.list (List.take ((tOpen (mrow l x ((IntKind.i64.wrap w).tmod (↑x : Int)).toNat)).len + (1 : Nat)) (List.take ((0 : Nat) + (tOpen (mrow l x ((IntKind.i64.wrap w).tmod (↑x : Int)).toNat)).len)
 (List.take ((0 : Nat) + (0 : Nat)) ([] : List D) ++ (tOpen (mrow l x ((IntKind.i64.wrap w).tmod (↑x : Int)).toNat)).asList ++ List.drop ((0 : Nat) + (0 : Nat) + (tOpen (mrow l x ((IntKind.i64.wrap
 w).tmod (↑x : Int)).toNat)).len) ([] : List D)) ++ List.take (1 : Nat) [D.int (bif true then max n (24 : Int) else min n (24 : Int))] ++ List.drop ((0 : Nat) + (tOpen (mrow l x ((IntKind.i64.wrap
 w).tmod (↑x : Int)).toNat)).len + (1 : Nat)) (List.take ((0 : Nat) + (0 : Nat)) ([] : List D) ++ (tOpen (mrow l x ((IntKind.i64.wrap w).tmod (↑x : Int)).toNat)).asList ++ List.drop ((0 : Nat) + (0 :
 Nat) + (tOpen (mrow l x ((IntKind.i64.wrap w).tmod (↑x : Int)).toNat)).len) ([] : List D)))) = x_1.o ∧ tX (mrow l x ((IntKind.i64.wrap w).tmod (↑x : Int)).toNat) = x_1.X ∧ tY (mrow l x
 ((IntKind.i64.wrap w).tmod (↑x : Int)).toNat) = x_1.Y ∧ True) ∧ True) ∧ ((0 : Nat) < (tOpen (mrow l x ((IntKind.i64.wrap w).tmod (↑x : Int)).toNat)).len + (1 : Nat) → (0 : Nat) + ((tOpen (mrow l x
 ((IntKind.i64.wrap w).tmod (↑x : Int)).toNat)).len + (1 : Nat)) ≤ (List.take (tOpen (mrow l x ((IntKind.i64.wrap w).tmod (↑x : Int)).toNat)).len (List.take ((0 : Nat) + (0 : Nat)) ([] : List D) ++
 (tOpen (mrow l x ((IntKind.i64.wrap w).tmod (↑x : Int)).toNat)).asList ++ List.drop ((0 : Nat) + (0 : Nat) + (tOpen (mrow l x ((IntKind.i64.wrap w).tmod (↑x : Int)).toNat)).len) ([] : List D)) ++
 List.take (1 : Nat) [D.int (bif true then max n (24 : Int) else min n (24 : Int))]).length ∧ ∃ (x_1 : Row), spoilt (D.list (madeL l x)) x_1 ∧ ((11 : Int) = x_1.want ∧ (IntKind.i64.wrap w).tmod (↑x :
 Int) = x_1.i ∧ True) ∧ (tName (mrow l x ((IntKind.i64.wrap w).tmod (↑x : Int)).toNat) = x_1.nm ∧ tShape (mrow l x ((IntKind.i64.wrap w).tmod (↑x : Int)).toNat) = x_1.sh ∧ tA (mrow l x
 ((IntKind.i64.wrap w).tmod (↑x : Int)).toNat) = x_1.a ∧ tB (mrow l x ((IntKind.i64.wrap w).tmod (↑x : Int)).toNat) = x_1.b ∧ D.list (List.take ((tOpen (mrow l x ((IntKind.i64.wrap w).tmod (↑x :
 Int)).toNat)).len + (1 : Nat)) (List.take (tOpen (mrow l x ((IntKind.i64.wrap w).tmod (↑x : Int)).toNat)).len (List.take ((0 : Nat) + (0 : Nat)) ([] : List D) ++ (tOpen (mrow l x ((IntKind.i64.wrap
 w).tmod (↑x : Int)).toNat)).asList ++ List.drop ((0 : Nat) + (0 : Nat) + (tOpen (mrow l x ((IntKind.i64.wrap w).tmod (↑x : Int)).toNat)).len) ([] : List D)) ++ List.take (1 : Nat) [D.int (bif true
 then max n (24 : Int) else min n (24 : Int))])) = x_1.o ∧ tX (mrow l x ((IntKind.i64.wrap w).tmod (↑x : Int)).toNat) = x_1.X ∧ tY (mrow l x ((IntKind.i64.wrap w).tmod (↑x : Int)).toNat) = x_1.Y ∧
 True) ∧ True)) ∧ ((0 : Nat) < (0 : Nat) + (tOpen (mrow l x ((IntKind.i64.wrap w).tmod (↑x : Int)).toNat)).len → (0 : Nat) + (1 : Nat) ≤ [D.int (bif true then max n (24 : Int) else min n (24 :
 Int))].length ∧ (0 : Nat) + (tOpen (mrow l x ((IntKind.i64.wrap w).tmod (↑x : Int)).toNat)).len ≤ (List.take (0 : Nat) ([] : List D) ++ (tOpen (mrow l x ((IntKind.i64.wrap w).tmod (↑x :
 Int)).toNat)).asList).length ∧ (tOpen (mrow l x ((IntKind.i64.wrap w).tmod (↑x : Int)).toNat)).len + (1 : Nat) ≤ (16777216 : Nat) ∧ (0 : Nat) + ((tOpen (mrow l x ((IntKind.i64.wrap w).tmod (↑x :
 Int)).toNat)).len + (1 : Nat)) ≤ (List.take (tOpen (mrow l x ((IntKind.i64.wrap w).tmod (↑x : Int)).toNat)).len (List.take (0 : Nat) ([] : List D) ++ (tOpen (mrow l x ((IntKind.i64.wrap w).tmod (↑x :
 Int)).toNat)).asList) ++ List.take (1 : Nat) [D.int (bif true then max n (24 : Int) else min n (24 : Int))]).length ∧ ∃ (x_1 : Row), spoilt (D.list (madeL l x)) x_1 ∧ ((11 : Int) = x_1.want ∧
 (IntKind.i64.wrap w).tmod (↑x : Int) = x_1.i ∧ True) ∧ (tName (mrow l x ((IntKind.i64.wrap w).tmod (↑x : Int)).toNat) = x_1.nm ∧ tShape (mrow l x ((IntKind.i64.wrap w).tmod (↑x : Int)).toNat) = x_1.sh
 ∧ tA (mrow l x ((IntKind.i64.wrap w).tmod (↑x : Int)).toNat) = x_1.a ∧ tB (mrow l x ((IntKind.i64.wrap w).tmod (↑x : Int)).toNat) = x_1.b ∧ D.list (List.take ((tOpen (mrow l x ((IntKind.i64.wrap
 w).tmod (↑x : Int)).toNat)).len + (1 : Nat)) (List.take (tOpen (mrow l x ((IntKind.i64.wrap w).tmod (↑x : Int)).toNat)).len (List.take (0 : Nat) ([] : List D) ++ (tOpen (mrow l x ((IntKind.i64.wrap
 w).tmod (↑x : Int)).toNat)).asList) ++ List.take (1 : Nat) [D.int (bif true then max n (24 : Int) else min n (24 : Int))])) = x_1.o ∧ tX (mrow l x ((IntKind.i64.wrap w).tmod (↑x : Int)).toNat) = x_1.X
 ∧ tY (mrow l x ((IntKind.i64.wrap w).tmod (↑x : Int)).toNat) = x_1.Y ∧ True) ∧ True)))) ∧ ((v.tmod (6 : Int) = (3 : Int) → False) → (v.tmod (6 : Int) = (4 : Int) → ∃ (x_1 : Row), spoilt (D.list (madeL
 l x)) x_1 ∧ ((2 : Int) = x_1.want ∧ (IntKind.i64.wrap w).tmod (↑x : Int) = x_1.i ∧ True) ∧ (tName (mrow l x ((IntKind.i64.wrap w).tmod (↑x : Int)).toNat) = x_1.nm ∧ tShape (mrow l x ((IntKind.i64.wrap
 w).tmod (↑x : Int)).toNat) = x_1.sh ∧ tA (mrow l x ((IntKind.i64.wrap w).tmod (↑x : Int)).toNat) = x_1.a ∧ tB (mrow l x ((IntKind.i64.wrap w).tmod (↑x : Int)).toNat) = x_1.b ∧ tOpen (mrow l x
 ((IntKind.i64.wrap w).tmod (↑x : Int)).toNat) = x_1.o ∧ (bif true then max n (1001 : Int) else min n (1001 : Int)) = x_1.X ∧ tY (mrow l x ((IntKind.i64.wrap w).tmod (↑x : Int)).toNat) = x_1.Y ∧ True)
 ∧ True) ∧ ((v.tmod (6 : Int) = (4 : Int) → False) → ((↑x : Int) = (1 : Int) → (true = true ↔ True)) ∧ (((↑x : Int) = (1 : Int) → False) → ((0 : Int) ≤ bif true then max ((IntKind.i64.wrap w).tmod (↑x
 : Int)) (1 : Int) else min ((IntKind.i64.wrap w).tmod (↑x : Int)) (1 : Int)) ∧ (bif true then max ((IntKind.i64.wrap w).tmod (↑x : Int)) (1 : Int) else min ((IntKind.i64.wrap w).tmod (↑x : Int)) (1 :
 Int)) < (↑x : Int) ∧ (bif true then max ((IntKind.i64.wrap w).tmod (↑x : Int)) (1 : Int) else min ((IntKind.i64.wrap w).tmod (↑x : Int)) (1 : Int)).toNat < (madeL l x).length ∧ (0 : Int) ≤ (0 : Int) ∧
 (0 : Int) < (↑x : Int) ∧ (0 : Nat) + Int.toNat (0 : Int) < (madeL l x).length ∧ ∃ (x_1 : Row), spoilt (D.list (madeL l x)) x_1 ∧ ((5 : Int) = x_1.want ∧ (bif true then max ((IntKind.i64.wrap w).tmod
 (↑x : Int)) (1 : Int) else min ((IntKind.i64.wrap w).tmod (↑x : Int)) (1 : Int)) = x_1.i ∧ True) ∧ (tName (mrow l x ((0 : Nat) + Int.toNat (0 : Int))) = x_1.nm ∧ tShape (mrow l x (bif true then max
 ((IntKind.i64.wrap w).tmod (↑x : Int)) (1 : Int) else min ((IntKind.i64.wrap w).tmod (↑x : Int)) (1 : Int)).toNat) = x_1.sh ∧ tA (mrow l x (bif true then max ((IntKind.i64.wrap w).tmod (↑x : Int)) (1
 : Int) else min ((IntKind.i64.wrap w).tmod (↑x : Int)) (1 : Int)).toNat) = x_1.a ∧ tB (mrow l x (bif true then max ((IntKind.i64.wrap w).tmod (↑x : Int)) (1 : Int) else min ((IntKind.i64.wrap w).tmod
 (↑x : Int)) (1 : Int)).toNat) = x_1.b ∧ tOpen (mrow l x (bif true then max ((IntKind.i64.wrap w).tmod (↑x : Int)) (1 : Int) else min ((IntKind.i64.wrap w).tmod (↑x : Int)) (1 : Int)).toNat) = x_1.o ∧
 tX (mrow l x (bif true then max ((IntKind.i64.wrap w).tmod (↑x : Int)) (1 : Int) else min ((IntKind.i64.wrap w).tmod (↑x : Int)) (1 : Int)).toNat) = x_1.X ∧ tY (mrow l x (bif true then max
 ((IntKind.i64.wrap w).tmod (↑x : Int)) (1 : Int) else min ((IntKind.i64.wrap w).tmod (↑x : Int)) (1 : Int)).toNat) = x_1.Y ∧ True) ∧ True))))))) ∧ ∀ (x_1 : Row), spoilt (D.list (madeL l x)) x_1 → (0 :
 Int) ≤ x_1.i ∧ x_1.i < (↑x : Int) ∧ x_1.i.toNat < (madeL l x).length ∧ (0 : Nat) + x ≤ (setL l x x_1.i.toNat x_1.nm x_1.sh x_1.a x_1.b x_1.o x_1.X x_1.Y).length ∧ smallD (setT l x x_1.i.toNat x_1.nm
 x_1.sh x_1.a x_1.b x_1.o x_1.X x_1.Y) ∧ (0 : Nat) + x ≤ (setL l x x_1.i.toNat x_1.nm x_1.sh x_1.a x_1.b x_1.o x_1.X x_1.Y).length ∧ (smallD (setT l x x_1.i.toNat x_1.nm x_1.sh x_1.a x_1.b x_1.o x_1.X
 x_1.Y) ∧ i64P (0 : Int)) ∧ (0 : Nat) + x ≤ (setL l x x_1.i.toNat x_1.nm x_1.sh x_1.a x_1.b x_1.o x_1.X x_1.Y).length ∧ (noHall (setT l x x_1.i.toNat x_1.nm x_1.sh x_1.a x_1.b x_1.o x_1.X x_1.Y) ∧ i64P
 (0 : Int) ∧ i64P (0 : Int)) ∧ (0 : Int) ≤ (0 : Int) ∧ (0 : Int) < (↑x : Int) ∧ (0 : Nat) + Int.toNat (0 : Int) < (setL l x x_1.i.toNat x_1.nm x_1.sh x_1.a x_1.b x_1.o x_1.X x_1.Y).length ∧ (0 : Nat) +
 x ≤ (setL l x x_1.i.toNat x_1.nm x_1.sh x_1.a x_1.b x_1.o x_1.X x_1.Y).length ∧ smallD (setT l x x_1.i.toNat x_1.nm x_1.sh x_1.a x_1.b x_1.o x_1.X x_1.Y) ∧ ((((badZ (setT l x x_1.i.toNat x_1.nm x_1.sh
 x_1.a x_1.b x_1.o x_1.X x_1.Y)).fst = x_1.i → False) → False) → ((((badZ (setT l x x_1.i.toNat x_1.nm x_1.sh x_1.a x_1.b x_1.o x_1.X x_1.Y)).snd = x_1.want → False) → False) → ((whereP (setT l x
 x_1.i.toNat x_1.nm x_1.sh x_1.a x_1.b x_1.o x_1.X x_1.Y) (0 : Int) → False) → ((False → False) → ((foundP (setT l x x_1.i.toNat x_1.nm x_1.sh x_1.a x_1.b x_1.o x_1.X x_1.Y) (tName (nthD (setL l x
 x_1.i.toNat x_1.nm x_1.sh x_1.a x_1.b x_1.o x_1.X x_1.Y) ((0 : Nat) + Int.toNat (0 : Int)))) → False) → (0 : Nat) + x ≤ (setL l x x_1.i.toNat x_1.nm x_1.sh x_1.a x_1.b x_1.o x_1.X x_1.Y).length ∧
 smallD (setT l x x_1.i.toNat x_1.nm x_1.sh x_1.a x_1.b x_1.o x_1.X x_1.Y) ∧ (0 : Nat) + x ≤ (setL l x x_1.i.toNat x_1.nm x_1.sh x_1.a x_1.b x_1.o x_1.X x_1.Y).length ∧ smallD (setT l x x_1.i.toNat
 x_1.nm x_1.sh x_1.a x_1.b x_1.o x_1.X x_1.Y) ∧ ((-9223372036854775808 : Int) ≤ countZ (setT l x x_1.i.toNat x_1.nm x_1.sh x_1.a x_1.b x_1.o x_1.X x_1.Y) + firstZ (setT l x x_1.i.toNat x_1.nm x_1.sh
 x_1.a x_1.b x_1.o x_1.X x_1.Y) (1 : Int) ∧ countZ (setT l x x_1.i.toNat x_1.nm x_1.sh x_1.a x_1.b x_1.o x_1.X x_1.Y) + firstZ (setT l x x_1.i.toNat x_1.nm x_1.sh x_1.a x_1.b x_1.o x_1.X x_1.Y) (1 :
 Int) < (9223372036854775808 : Int)) ∧ (0 : Nat) + x ≤ (setL l x x_1.i.toNat x_1.nm x_1.sh x_1.a x_1.b x_1.o x_1.X x_1.Y).length ∧ (noHall (setT l x x_1.i.toNat x_1.nm x_1.sh x_1.a x_1.b x_1.o x_1.X
 x_1.Y) ∧ i64P (0 : Int)) ∧ ((-9223372036854775808 : Int) ≤ countZ (setT l x x_1.i.toNat x_1.nm x_1.sh x_1.a x_1.b x_1.o x_1.X x_1.Y) + firstZ (setT l x x_1.i.toNat x_1.nm x_1.sh x_1.a x_1.b x_1.o
 x_1.X x_1.Y) (1 : Int) + (0 : Int) ∧ countZ (setT l x x_1.i.toNat x_1.nm x_1.sh x_1.a x_1.b x_1.o x_1.X x_1.Y) + firstZ (setT l x x_1.i.toNat x_1.nm x_1.sh x_1.a x_1.b x_1.o x_1.X x_1.Y) (1 : Int) +
 (0 : Int) < (9223372036854775808 : Int)) ∧ (0 : Nat) + x ≤ (setL l x x_1.i.toNat x_1.nm x_1.sh x_1.a x_1.b x_1.o x_1.X x_1.Y).length ∧ (noHall (setT l x x_1.i.toNat x_1.nm x_1.sh x_1.a x_1.b x_1.o
 x_1.X x_1.Y) ∧ i64P (0 : Int)) ∧ ((-9223372036854775808 : Int) ≤ countZ (setT l x x_1.i.toNat x_1.nm x_1.sh x_1.a x_1.b x_1.o x_1.X x_1.Y) + firstZ (setT l x x_1.i.toNat x_1.nm x_1.sh x_1.a x_1.b
 x_1.o x_1.X x_1.Y) (1 : Int) + (0 : Int) + (0 : Int) ∧ countZ (setT l x x_1.i.toNat x_1.nm x_1.sh x_1.a x_1.b x_1.o x_1.X x_1.Y) + firstZ (setT l x x_1.i.toNat x_1.nm x_1.sh x_1.a x_1.b x_1.o x_1.X
 x_1.Y) (1 : Int) + (0 : Int) + (0 : Int) < (9223372036854775808 : Int)) ∧ (0 : Nat) + x ≤ (setL l x x_1.i.toNat x_1.nm x_1.sh x_1.a x_1.b x_1.o x_1.X x_1.Y).length ∧ (noHall (setT l x x_1.i.toNat
 x_1.nm x_1.sh x_1.a x_1.b x_1.o x_1.X x_1.Y) ∧ i64P (0 : Int)) ∧ ((-9223372036854775808 : Int) ≤ countZ (setT l x x_1.i.toNat x_1.nm x_1.sh x_1.a x_1.b x_1.o x_1.X x_1.Y) + firstZ (setT l x
 x_1.i.toNat x_1.nm x_1.sh x_1.a x_1.b x_1.o x_1.X x_1.Y) (1 : Int) + (0 : Int) + (0 : Int) + (0 : Int) ∧ countZ (setT l x x_1.i.toNat x_1.nm x_1.sh x_1.a x_1.b x_1.o x_1.X x_1.Y) + firstZ (setT l x
 x_1.i.toNat x_1.nm x_1.sh x_1.a x_1.b x_1.o x_1.X x_1.Y) (1 : Int) + (0 : Int) + (0 : Int) + (0 : Int) < (9223372036854775808 : Int)) ∧ (0 : Nat) + x ≤ (setL l x x_1.i.toNat x_1.nm x_1.sh x_1.a x_1.b
 x_1.o x_1.X x_1.Y).length ∧ (noHall (setT l x x_1.i.toNat x_1.nm x_1.sh x_1.a x_1.b x_1.o x_1.X x_1.Y) ∧ i64P (0 : Int)) ∧ ((-9223372036854775808 : Int) ≤ countZ (setT l x x_1.i.toNat x_1.nm x_1.sh
 x_1.a x_1.b x_1.o x_1.X x_1.Y) + firstZ (setT l x x_1.i.toNat x_1.nm x_1.sh x_1.a x_1.b x_1.o x_1.X x_1.Y) (1 : Int) + (0 : Int) + (0 : Int) + (0 : Int) + (0 : Int) ∧ countZ (setT l x x_1.i.toNat
 x_1.nm x_1.sh x_1.a x_1.b x_1.o x_1.X x_1.Y) + firstZ (setT l x x_1.i.toNat x_1.nm x_1.sh x_1.a x_1.b x_1.o x_1.X x_1.Y) (1 : Int) + (0 : Int) + (0 : Int) + (0 : Int) + (0 : Int) <
 (9223372036854775808 : Int)) ∧ (((countZ (setT l x x_1.i.toNat x_1.nm x_1.sh x_1.a x_1.b x_1.o x_1.X x_1.Y) + firstZ (setT l x x_1.i.toNat x_1.nm x_1.sh x_1.a x_1.b x_1.o x_1.X x_1.Y) (1 : Int) + (0 :
 Int) + (0 : Int) + (0 : Int) + (0 : Int) = (0 : Int) → False) → False) → (0 : Nat) + x ≤ (setL l x x_1.i.toNat x_1.nm x_1.sh x_1.a x_1.b x_1.o x_1.X x_1.Y).length ∧ (noHall (setT l x x_1.i.toNat
 x_1.nm x_1.sh x_1.a x_1.b x_1.o x_1.X x_1.Y) ∧ i64P (0 : Int)) ∧ ((False → False) → (0 : Nat) + x ≤ (setL l x x_1.i.toNat x_1.nm x_1.sh x_1.a x_1.b x_1.o x_1.X x_1.Y).length ∧ (noHall (setT l x
 x_1.i.toNat x_1.nm x_1.sh x_1.a x_1.b x_1.o x_1.X x_1.Y) ∧ i64P (0 : Int) ∧ i64P (1 : Int)) ∧ ((False → False) → (0 : Nat) + x ≤ (setL l x x_1.i.toNat x_1.nm x_1.sh x_1.a x_1.b x_1.o x_1.X
 x_1.Y).length ∧ (smallD (setT l x x_1.i.toNat x_1.nm x_1.sh x_1.a x_1.b x_1.o x_1.X x_1.Y) ∧ (okHall (setT l x x_1.i.toNat x_1.nm x_1.sh x_1.a x_1.b x_1.o x_1.X x_1.Y) → (setT l x x_1.i.toNat x_1.nm
 x_1.sh x_1.a x_1.b x_1.o x_1.X x_1.Y).len = (0 : Nat))) ∧ ((([] : List UInt8) = [] → False) → (false = true ↔ True)) ∧ (((([] : List UInt8) = [] → False) → False) → ((x_1.want = (5 : Int) → False) →
 x_1.o.len ≤ (100 : Nat) ∧ (errZ x_1.nm x_1.sh x_1.a x_1.b x_1.o x_1.X x_1.Y = x_1.want → (x_1.o.len ≤ (100 : Nat) ∧ (errZ x_1.nm x_1.sh x_1.a x_1.b x_1.o x_1.X x_1.Y = (0 : Int) → False)) ∧ x_1.o.len
 ≤ (100 : Nat) ∧ (seatsZ x_1.nm x_1.sh x_1.a x_1.b x_1.o x_1.X x_1.Y = (0 : Int) → (true = true ↔ True)) ∧ ((seatsZ x_1.nm x_1.sh x_1.a x_1.b x_1.o x_1.X x_1.Y = (0 : Int) → False) → (false = true ↔
 True))) ∧ ((errZ x_1.nm x_1.sh x_1.a x_1.b x_1.o x_1.X x_1.Y = x_1.want → False) → (false = true ↔ True))) ∧ (x_1.want = (5 : Int) → (true = true ↔ True)))) ∧ (False → (false = true ↔ True))) ∧ (False
 → (false = true ↔ True))) ∧ ((countZ (setT l x x_1.i.toNat x_1.nm x_1.sh x_1.a x_1.b x_1.o x_1.X x_1.Y) + firstZ (setT l x x_1.i.toNat x_1.nm x_1.sh x_1.a x_1.b x_1.o x_1.X x_1.Y) (1 : Int) + (0 :
 Int) + (0 : Int) + (0 : Int) + (0 : Int) = (0 : Int) → False) → (false = true ↔ True))) ∧ (foundP (setT l x x_1.i.toNat x_1.nm x_1.sh x_1.a x_1.b x_1.o x_1.X x_1.Y) (tName (nthD (setL l x x_1.i.toNat
 x_1.nm x_1.sh x_1.a x_1.b x_1.o x_1.X x_1.Y) ((0 : Nat) + Int.toNat (0 : Int)))) → (false = true ↔ True))) ∧ (False → (false = true ↔ True))) ∧ (whereP (setT l x x_1.i.toNat x_1.nm x_1.sh x_1.a x_1.b
 x_1.o x_1.X x_1.Y) (0 : Int) → (false = true ↔ True))) ∧ (((badZ (setT l x x_1.i.toNat x_1.nm x_1.sh x_1.a x_1.b x_1.o x_1.X x_1.Y)).snd = x_1.want → False) → (false = true ↔ True))) ∧ (((badZ (setT l
 x x_1.i.toNat x_1.nm x_1.sh x_1.a x_1.b x_1.o x_1.X x_1.Y)).fst = x_1.i → False) → (false = true ↔ True))))) := by intros; kernel_rfl

/-! ### Nothing is told of a hall that is not valid -/
theorem no_where {l : D} (h : noHall l) (a : Int) : whereP l a = False := eq_false fun hw => hw.out (by unfold whereO; rw [if_pos (.inr h.out.2)])
theorem no_ok {l : D} (h : noHall l) : okHall l = False := eq_false h.out.2
theorem s32i (l : D) (a b : Int) (h : noHall l) (ha : i64P a) (hb : i64P b) : symFun (ctx num2 refAnn) 5 32 [.dat 22 l, .int .i64 a, .int .i64 b] (.tup [.int .i64 0, .prop False]) := by
  rw [vc32i]
  simp [no_where h, h.out.1, ha, hb]
theorem s53i (l : D) (a : Int) (h : noHall l) (ha : i64P a) : symFun (ctx num2 refAnn) 5 53 [.dat 22 l, .int .i64 a] (.int .i64 0) := by
  rw [vc53i]
  simp [no_where h, h.out.1, ha]
theorem s51i (l : D) (a : Int) (h : noHall l) (ha : i64P a) : symFun (ctx num2 refAnn) 5 51 [.dat 22 l, .int .i64 a] (.val (.slice none 0 0)) := by
  rw [vc51i]
  simp [no_ok h, h.out.1]
theorem s36i (l : D) (a : Int) (h : noHall l) (ha : i64P a) : symFun (ctx num2 refAnn) 5 36 [.dat 22 l, .int .i64 a] (.val (.slice none 0 0)) := by
  rw [vc36i]
  simp [no_ok h, h.out.1]
theorem s54i (l : D) (a : Int) (h : noHall l) (ha : i64P a) : symFun (ctx num2 refAnn) 5 54 [.dat 22 l, .int .i64 a] (.val (.slice none 0 0)) := by
  rw [vc54i]
  simp [no_where h, h.out.1, ha]
theorem s45i (l : D) (a : Int) (h : noHall l) (ha : i64P a) : symFun (ctx num2 refAnn) 5 45 [.dat 22 l, .int .i64 a] (.prop False) := by
  rw [vc45i]
  simp [no_where h, h.out.1, ha]
theorem s33i (l : D) (a b : Int) (h : noHall l) (ha : i64P a) (hb : i64P b) : symFun (ctx num2 refAnn) 5 33 [.dat 22 l, .int .i64 a, .int .i64 b] (.prop False) := by
  rw [vc33i]
  simp [no_where h, h.out.1, ha, hb]
theorem s39i (nm : List UInt8) (sh a b : Int) (o : D) (x y : Int) (h : o.len ≤ 100) (he : errZ nm sh a b o x y ≠ 0) : symFun (ctx num2 refAnn) 5 39 [.agg [.str nm, .int .u8 sh, .int .i64 a, .int .i64 b, .dat 29 o, .int .i64 x, .int .i64 y]] (.val (.slice none 0 0)) := by
  rw [vc39i]
  simp [h, he]
theorem s58i (l : D) (h : smallD l) (h0 : okHall l → l.len = 0) : symFun (ctx num2 refAnn) 5 58 [.dat 22 l] (.str []) := by
  rw [vc58i]
  refine ⟨h, fun _ => rfl, fun ho => ⟨⟨⟨⟩, h0 (Classical.not_not.1 ho), ⟨rfl, trivial⟩, trivial⟩, fun _ hl => ⟨by unfold LIM; omega, fun hlt => absurd hlt (by omega), fun _ => ?_⟩⟩⟩
  rfl
theorem err_parts {nm : List UInt8} {sh a b : Int} {o : D} {x y : Int} (h : errZ nm sh a b o x y = 0) : nameP nm ∧ sizeZ sh a b ≠ 0 ∧ risingP o (sizeZ sh a b) ∧ placeP x ∧ placeP y := by
  unfold errZ at h
  split at h
  · omega
  · rename_i h1
    split at h
    · omega
    · rename_i h2
      split at h
      · omega
      · rename_i h3
        split at h
        · omega
        · rename_i h4
          have h4 := Classical.not_not.1 h4
          exact ⟨Classical.not_not.1 h1, h2, Classical.not_not.1 h3, h4.1, h4.2⟩
def rowD (r : Row) : D := .sct [.str r.nm, .int r.sh, .int r.a, .int r.b, r.o, .int r.X, .int r.Y]
theorem scan_first (l : D) {i : Nat} (h : ∀ k, k < i → err1 l k = 0) (hi : err1 l i ≠ 0) : ∀ f j, j ≤ i → i < j + f → scanZ l f j = ((i : Int), err1 l i)
  | 0, j, h1, h2 => by omega
  | f + 1, j, h1, h2 => by
    unfold scanZ
    rcases Nat.eq_or_lt_of_le h1 with e | e
    · subst e; rw [if_pos hi]
    · rw [if_neg (fun hn => hn (h j e))]
      exact scan_first l h hi f (j + 1) (by omega) (by omega)
/-- A hall with one table spoilt. -/
theorem spoilt_bad {M L' : D} {r : Row} (hM : okHall M) (h : spoilt M r) (hl : L'.len = M.len) (hl16 : M.len ≤ 16) (he : ∀ k, k < M.len → el L' k = if k = r.i.toNat then rowD r else el M k) :
    (badZ L').1 = r.i ∧ (badZ L').2 = r.want ∧ r.want ≠ 0 := by
  obtain ⟨⟨h0, h1⟩, _, hb⟩ := h
  have hok := bad_ok hM.out
  have low : ∀ k, k < r.i.toNat → el L' k = el M k := fun k hk => by rw [he k (by omega), if_neg (by omega)]
  have own : el L' r.i.toNat = rowD r := by rw [he _ (by omega), if_pos rfl]
  have hlow : ∀ k, k < r.i.toNat → err1 L' k = 0 := fun k hk => by
    refine err1_ok (by rw [low k hk]; exact (hok k (by omega)).1) fun ⟨j, hj, e⟩ => (hok k (by omega)).2 ⟨j, hj, ?_⟩
    rw [low k hk, low j (by omega)] at e; exact e
  have hat : err1 L' r.i.toNat = r.want ∧ r.want ≠ 0 := by
    rcases hb with ⟨hw, hi1, hn, he0⟩ | ⟨_, hw0, he0⟩
    · refine ⟨?_, by omega⟩
      rw [hw]
      refine err1_twice (by rw [own]; exact he0) ⟨0, by omega, ?_⟩
      rw [own, low 0 (by omega)]; exact hn.symm
    · refine ⟨?_, hw0⟩
      have e1 : errT (el L' r.i.toNat) = r.want := by rw [own]; exact he0
      rw [err1_own (by rw [e1]; exact hw0), e1]
  have : badZ L' = (((r.i.toNat : Nat) : Int), err1 L' r.i.toNat) := by
    unfold badZ
    rw [if_neg (by omega), scan_first L' hlow (by rw [hat.1]; exact hat.2) L'.len 0 (by omega) (by omega)]
  rw [this]
  exact ⟨by show ((r.i.toNat : Nat) : Int) = r.i; omega, hat.1, hat.2⟩
theorem setL_len (l : D) (x k : Nat) (nm : List UInt8) (sh a b : Int) (o : D) (X Y : Int) : (setL l x k nm sh a b o X Y).length = x := by
  unfold setL; rw [List.length_set, madeL_len]
theorem setT_len (l : D) (x k : Nat) (nm : List UInt8) (sh a b : Int) (o : D) (X Y : Int) : (setT l x k nm sh a b o X Y).len = x := by
  show (List.take x _).length = x
  rw [List.length_take, setL_len]; omega
theorem setT_el (l : D) (x : Nat) (r : Row) (k : Nat) (hk : k < x) : el (setT l x r.i.toNat r.nm r.sh r.a r.b r.o r.X r.Y) k = if k = r.i.toNat then rowD r else el (.list (madeL l x)) k := by
  show nthD (List.take x _) k = if _ then _ else nthD (madeL l x) k
  unfold setL nthD
  rw [List.take_of_length_le (by rw [List.length_set, madeL_len]; exact Nat.le_refl _), List.getElem?_set, madeL_len]
  by_cases e : r.i.toNat = k
  · rw [if_pos e, if_pos (by omega), if_pos e.symm]; rfl
  · rw [if_neg e, if_neg (fun h => e h.symm)]
theorem wordN_bad {j : Nat} (h : j < 5) : ¬ nameP (wordN j) := fun hn => by
  have h1 := hn.out
  rcases (by omega : j = 0 ∨ j = 1 ∨ j = 2 ∨ j = 3 ∨ j = 4) with e | e | e | e | e <;> subst e
  · exact absurd h1.1 (by decide)
  · exact absurd (h1.2.2 0 (by decide)).1 (by decide)
  · exact absurd (h1.2.2 1 (by decide)).1 (by decide)
  · exact absurd h1.2.1 (by decide)
  · exact absurd (h1.2.2 1 (by decide)).1 (by decide)
theorem s18 (l : D) (w v n : Int) (h : codesP l) (hw : byteP w) (hv : byteP v) (hn : i64P n) : symFun (ctxF ref1 refAnn refFrz refJoin) 5 18 [.dat 65 l, .int .u8 w, .int .u8 v, .int .i64 n] (.prop True) := by
  have hw := hw.out
  have hn := hn.out
  have hmok := made_ok h
  have hmsm := made_small h
  rw [vc18]
  have hq : (min (↑l.len : Int) 16).toNat = min l.len 16 := by omega
  have hsl : (l.sub 0 (min l.len 16)).len = min l.len 16 := sub_len _ _ (by omega)
  simp only [cond_false, cond_true, hq, hsl, imp_false, Classical.not_not, take_one, List.length_singleton, madeL_len, and_true, true_and, and_false, false_and, or_false, false_or, exists_false, List.take_of_length_le (Nat.le_of_eq (madeL_len l _))]
  refine ⟨by omega, by omega, by omega, ⟨0, rfl⟩, fun x hx0 => ?_, fun x hx => ?_⟩
  · subst hx0
    refine ⟨by unfold LIM; omega, fun hlt => ?_, fun hge => ?_⟩
    · have hc := (h.out 0 (by omega)).out
      rw [show Int.toNat 0 = 0 from rfl, sub_el _ _ _ (show 0 < min l.len 16 by omega), wrap8 (by omega) (by omega)]
      exact ⟨by omega, hlt, by omega, by omega, byteL_one (by omega) (by omega), hc, by omega, by omega, by omega, by omega, by omega, 1, by omega, by omega, ⟨by omega, rfl⟩, rfl⟩
    · exact ⟨⟨⟨by simp [D.len, D.asList], fun i hi => by simp [D.len, D.asList] at hi⟩, fun _ => trivial⟩, fun _ => trivial, fun hh => absurd trivial hh⟩
  · refine ⟨by unfold LIM; omega, fun hlt => ?_, fun hge => ?_⟩
    · have hc := (h.out x (by omega)).out
      rw [sub_el _ _ _ (show x < min l.len 16 by omega), wrap8 (by omega) (by omega), bytes_one]
      exact ⟨by omega, hlt, by omega, by omega, byteL_one (by omega) (by omega), hc, by omega, by omega, by omega, by omega, by omega, by omega, x + 1, by omega, by omega, ⟨by omega, rfl⟩, (madeL_succ l x).symm⟩
    · have hxe : x = min l.len 16 := by omega
      have hMe : madeD l = D.list (madeL l x) := by
        unfold madeD
        rw [← hxe, listD_ne fun hnil => ?_]
        have := madeL_len l x
        rw [hnil] at this
        simp at this; omega
      rw [hMe] at hmok hmsm
      have hML : (D.list (madeL l x)).len = x := madeL_len l x
      have hmb := bad_ok hmok.out
      rw [hML] at hmb
      have hwx : IntKind.i64.wrap w = w := wrap64 (by omega) (by omega)
      have hk1 := Int.tmod_nonneg (↑x : Int) (show 0 ≤ w by omega)
      have hk2 := Int.tmod_lt_of_pos w (show (0 : Int) < ↑x by omega)
      rw [hwx]
      generalize hK : w.tmod (↑x : Int) = K at *
      have hpt : ∀ k, k < x → nameP (tName (mrow l x k)) ∧ sizeZ (tShape (mrow l x k)) (tA (mrow l x k)) (tB (mrow l x k)) ≠ 0 ∧ risingP (tOpen (mrow l x k)) (sizeZ (tShape (mrow l x k)) (tA (mrow l x k)) (tB (mrow l x k))) ∧ placeP (tX (mrow l x k)) ∧ placeP (tY (mrow l x k)) := fun k hk =>
        err_parts (show errT (el (.list (madeL l x)) k) = 0 from (hmb k hk).1)
      have hsmk : ∀ k, k < x → (tOpen (mrow l x k)).len ≤ 100 := fun k hk => hmsm.out.2 k (by rw [hML]; exact hk)
      refine ⟨fun he => absurd he (by omega), fun he => ⟨he, hk1, hk2, by omega, ?_, fun r hr => ?_⟩⟩
      · have hKt : K.toNat < x := by omega
        obtain ⟨p1, p2, p3, p4, p5⟩ := hpt K.toNat hKt
        have hsz := size_lim (tShape (mrow l x K.toNat)) (tA (mrow l x K.toNat)) (tB (mrow l x K.toNat))
        have ho24 : (tOpen (mrow l x K.toNat)).len ≤ 24 := by
          have e : mrow l x K.toNat = madeRow (el l K.toNat) K.toNat := by
            show el (.list (madeL l x)) K.toNat = _
            rw [← hMe]; exact made_el l (by omega)
          rw [e]; exact (made_err (h.out K.toNat (by omega)) (by omega)).2.2
        have hin : 0 ≤ K ∧ K < (D.list (madeL l x)).len := by rw [hML]; exact ⟨hk1, hk2⟩
        have hu : 0 ≤ IntKind.u64.wrap n := by
          simp only [IntKind.wrap, IntKind.bits, IntKind.signed, Bool.false_and, Bool.false_eq_true, if_false]
          omega
        have hu1 := Int.tmod_nonneg 5 hu
        have hu2 := Int.tmod_lt_of_pos (IntKind.u64.wrap n) (show (0 : Int) < 5 by decide)
        have sp3 : ∀ o : D, o.len ≤ 100 → (∃ j, j < o.len ∧ 24 ≤ atI o j) → spoilt (.list (madeL l x)) ⟨tName (mrow l x K.toNat), tShape (mrow l x K.toNat), tA (mrow l x K.toNat), tB (mrow l x K.toNat), o, tX (mrow l x K.toNat), tY (mrow l x K.toNat), 11, K⟩ := fun o ho ⟨j, hj, hz⟩ =>
          ⟨hin, ho, .inr ⟨(show (11 : Int) ≠ 5 by decide), (show (11 : Int) ≠ 0 by decide), err_open (fun hr => by have : atI o j < sizeZ (tShape (mrow l x K.toNat)) (tA (mrow l x K.toNat)) (tB (mrow l x K.toNat)) := (hr.out j hj).2.1; omega) p1 rfl p2⟩⟩
        have hone : ∃ j, j < (D.list [D.int (max n 24)]).len ∧ 24 ≤ atI (D.list [D.int (max n 24)]) j := ⟨0, by simp [D.len, D.asList], by show 24 ≤ max n 24; omega⟩
        refine ⟨by decide, fun h0 => ?_, fun h0 => ⟨fun h1 => ?_, fun h1 => ⟨fun h2 => ?_, fun h2 => ⟨fun h3 => ?_, fun h3 => ⟨fun h4 => ?_, fun h4 => ⟨fun _ => trivial, fun hx1 => ?_⟩⟩⟩⟩⟩⟩
        · refine ⟨by decide, hu1, by omega, by simp only [List.length_cons, List.length_nil]; omega, ⟨wordN ((IntKind.u64.wrap n).tmod 5).toNat, tShape (mrow l x K.toNat), tA (mrow l x K.toNat), tB (mrow l x K.toNat), tOpen (mrow l x K.toNat), tX (mrow l x K.toNat), tY (mrow l x K.toNat), 4, K⟩, ⟨hin, hsmk _ hKt, .inr ⟨(show (4 : Int) ≠ 5 by decide), (show (4 : Int) ≠ 0 by decide), err_name (wordN_bad (by omega))⟩⟩, ⟨rfl, rfl⟩, rfl, rfl, rfl, rfl, rfl, rfl, rfl⟩
        · refine ⟨⟨tName (mrow l x K.toNat), tShape (mrow l x K.toNat), max n 25, tB (mrow l x K.toNat), tOpen (mrow l x K.toNat), tX (mrow l x K.toNat), tY (mrow l x K.toNat), 10, K⟩, ⟨hin, hsmk _ hKt, .inr ⟨(show (10 : Int) ≠ 5 by decide), (show (10 : Int) ≠ 0 by decide), err_shape p1 ?_⟩⟩, ⟨rfl, rfl⟩, rfl, rfl, rfl, rfl, rfl, rfl, rfl⟩
          show sizeZ _ (max n 25) _ = 0
          unfold sizeZ; rw [if_neg (by omega), if_neg (by omega), if_neg (by omega), if_neg (by omega)]
        · refine ⟨⟨tName (mrow l x K.toNat), tShape (mrow l x K.toNat), min n 0, tB (mrow l x K.toNat), tOpen (mrow l x K.toNat), tX (mrow l x K.toNat), tY (mrow l x K.toNat), 10, K⟩, ⟨hin, hsmk _ hKt, .inr ⟨(show (10 : Int) ≠ 5 by decide), (show (10 : Int) ≠ 0 by decide), err_shape p1 ?_⟩⟩, ⟨rfl, rfl⟩, rfl, rfl, rfl, rfl, rfl, rfl, rfl⟩
          show sizeZ _ (min n 0) _ = 0
          unfold sizeZ; rw [if_neg (by omega), if_neg (by omega), if_neg (by omega), if_neg (by omega)]
        · have fin : ∀ o : D, o.len ≤ 100 → (∃ j, j < o.len ∧ 24 ≤ atI o j) → ∃ x_1, spoilt (D.list (madeL l x)) x_1 ∧ (11 = x_1.want ∧ K = x_1.i) ∧ tName (mrow l x K.toNat) = x_1.nm ∧ tShape (mrow l x K.toNat) = x_1.sh ∧ tA (mrow l x K.toNat) = x_1.a ∧ tB (mrow l x K.toNat) = x_1.b ∧ o = x_1.o ∧ tX (mrow l x K.toNat) = x_1.X ∧ tY (mrow l x K.toNat) = x_1.Y := fun o h1 h2 =>
            ⟨_, sp3 o h1 h2, ⟨rfl, rfl⟩, rfl, rfl, rfl, rfl, rfl, rfl, rfl⟩
          generalize hO : tOpen (mrow l x K.toNat) = o at *
          have hol : o.asList.length = o.len := rfl
          have hz : 24 ≤ max n 24 := by omega
          refine ⟨fun hnil => ⟨by omega, by omega, by omega, fin _ (by simp [D.len, D.asList]) hone⟩, fun hnn => ⟨fun hl0 => ⟨by omega, by simp, by omega, by simp, fin _ (by simp [D.len, D.asList]) hone⟩, fun hl1 => ⟨by simp, by omega, fun hh => absurd hh (by omega), fun _ => ⟨by omega, by simp [hol], by omega, by simp [hol], ?_⟩⟩⟩⟩
          rw [show List.take (o.len + 1) (List.take o.len (List.take 0 [] ++ o.asList) ++ [D.int (max n 24)]) = o.asList ++ [D.int (max n 24)] from by
            rw [List.take_zero, List.nil_append, List.take_of_length_le (Nat.le_of_eq hol), List.take_of_length_le (by simp [hol])]]
          refine fin _ (by simp [D.len, D.asList]; have := hol; simp [D.asList] at this; omega) ⟨o.len, by simp [D.len, D.asList], ?_⟩
          show 24 ≤ (nthD (o.asList ++ [D.int (max n 24)]) o.len).asInt
          unfold nthD
          rw [List.getElem?_append_right (by rw [hol]; exact Nat.le_refl _), hol, Nat.sub_self]
          exact hz
        · refine ⟨⟨tName (mrow l x K.toNat), tShape (mrow l x K.toNat), tA (mrow l x K.toNat), tB (mrow l x K.toNat), tOpen (mrow l x K.toNat), max n 1001, tY (mrow l x K.toNat), 2, K⟩, ⟨hin, hsmk _ hKt, .inr ⟨(show (2 : Int) ≠ 5 by decide), (show (2 : Int) ≠ 0 by decide), err_arg p3 p1 rfl p2 (fun hp => by have : max n 1001 ≤ 1000 := hp.1.2; omega)⟩⟩, ⟨rfl, rfl⟩, rfl, rfl, rfl, rfl, rfl, rfl, rfl⟩
        · have hm : (max K 1).toNat < x := by omega
          obtain ⟨q1, q2, q3, q4, q5⟩ := hpt (max K 1).toNat hm
          obtain ⟨n1, _⟩ := hpt 0 (by omega)
          refine ⟨by omega, by omega, hm, by omega, by omega, by simp; omega, ⟨tName (mrow l x 0), tShape (mrow l x (max K 1).toNat), tA (mrow l x (max K 1).toNat), tB (mrow l x (max K 1).toNat), tOpen (mrow l x (max K 1).toNat), tX (mrow l x (max K 1).toNat), tY (mrow l x (max K 1).toNat), 5, max K 1⟩, ⟨⟨by show 0 ≤ max K 1; omega, by rw [hML]; show max K 1 < (x : Int); omega⟩, hsmk _ hm, .inl ⟨rfl, by show 1 ≤ max K 1; omega, rfl, err_ok q3 n1 rfl q2 ⟨q4, q5⟩⟩⟩, ⟨rfl, rfl⟩, rfl, rfl, rfl, rfl, rfl, rfl, rfl⟩
      · have hl16 : (D.list (madeL l x)).len ≤ 16 := by rw [hML]; omega
        obtain ⟨hb1, hb2, hb3⟩ := spoilt_bad hmok hr (L' := setT l x r.i.toNat r.nm r.sh r.a r.b r.o r.X r.Y) (by rw [setT_len, hML]) hl16 (fun k hk => setT_el l x r k (by rw [← hML]; exact hk))
        have hri := hr.at_
        rw [hML] at hri
        have hsm : smallD (setT l x r.i.toNat r.nm r.sh r.a r.b r.o r.X r.Y) := ⟨by rw [setT_len]; omega, fun k hk => by
          rw [setT_len] at hk
          rw [setT_el l x r k hk]
          split
          · exact hr.small
          · exact hmsm.out.2 k (by rw [hML]; exact hk)⟩
        have hno : ¬ okHall (setT l x r.i.toNat r.nm r.sh r.a r.b r.o r.X r.Y) := fun ho => hb3 (by rw [← hb2]; exact ho.out)
        have hnh : noHall (setT l x r.i.toNat r.nm r.sh r.a r.b r.o r.X r.Y) := ⟨hsm, hno⟩
        have hc : countZ (setT l x r.i.toNat r.nm r.sh r.a r.b r.o r.X r.Y) = 0 := by unfold countZ; rw [if_neg hno]
        have hf : firstZ (setT l x r.i.toNat r.nm r.sh r.a r.b r.o r.X r.Y) 1 = 0 := by unfold firstZ; rw [if_neg fun hh => hno hh.2]
        have hfd : ∀ s, foundP (setT l x r.i.toNat r.nm r.sh r.a r.b r.o r.X r.Y) s = False := fun s => eq_false fun hh => hno hh.out.1
        have h64 : i64P 0 := ⟨by omega⟩
        have hxl : 0 < x := by omega
        have hit : r.i.toNat < x := by omega
        have hilt : r.i < ↑x := hri.2
        simp only [setL_len, hsm, hnh, hc, hf, hfd, no_where hnh, no_ok hnh, hb1, hb2, h64, hri.1, hilt, hit, Nat.zero_add, Nat.le_refl, true_and, and_true, not_true_eq_false, not_false_eq_true, false_implies, forall_const, and_self, Int.toNat_zero, hxl]
        have hbd : r.want ≠ 5 → r.want ≠ 0 ∧ errZ r.nm r.sh r.a r.b r.o r.X r.Y = r.want := fun h5 => by
          rcases hr.bad with hh | hh
          · exact absurd hh.1 h5
          · exact hh.2
        refine ⟨by omega, by omega, by omega, by omega, by omega, by omega, by omega, fun _ => ⟨⟨by omega⟩, fun h5 => ?_, fun _ => trivial⟩, fun hh => absurd (by omega) hh⟩
        obtain ⟨e1, e2⟩ := hbd h5
        exact ⟨hr.small, fun _ => ⟨⟨hr.small, fun e0 => e1 (by rw [← e2]; exact e0)⟩, hr.small, fun _ => trivial, fun hs => absurd (by unfold seatsZ; rw [if_neg (by rw [e2]; exact e1)]) hs⟩, fun hh => absurd e2 hh⟩

/-! ### They hold -/
theorem v32i : ∀ d, 30 ≤ d → VC d 32 con32i := fun d hd =>
  valid_of_sym (C := ctx num2 refAnn) (G := GC) (B := 25) (m := 5) rfl rfl rfl vn2 (fun us p r hc hp ht => by
    unfold con32i at hc; split at hc
    · cases hc; exact s32i _ _ _ hp.1 hp.2.1 hp.2.2
    · cases hc) (fun _ _ => rfl) rfl d hd
theorem v53i : ∀ d, 30 ≤ d → VC d 53 con53i := fun d hd =>
  valid_of_sym (C := ctx num2 refAnn) (G := GC) (B := 25) (m := 5) rfl rfl rfl vn2 (fun us p r hc hp ht => by
    unfold con53i at hc; split at hc
    · cases hc; exact s53i _ _ hp.1 hp.2
    · cases hc) (fun _ _ => rfl) rfl d hd
theorem v51i : ∀ d, 30 ≤ d → VC d 51 con51i := fun d hd =>
  valid_of_sym (C := ctx num2 refAnn) (G := GC) (B := 25) (m := 5) rfl rfl rfl vn2 (fun us p r hc hp ht => by
    unfold con51i at hc; split at hc
    · cases hc; exact s51i _ _ hp.1 hp.2
    · cases hc) (fun _ _ => rfl) rfl d hd
theorem v36i : ∀ d, 30 ≤ d → VC d 36 con36i := fun d hd =>
  valid_of_sym (C := ctx num2 refAnn) (G := GC) (B := 25) (m := 5) rfl rfl rfl vn2 (fun us p r hc hp ht => by
    unfold con36i at hc; split at hc
    · cases hc; exact s36i _ _ hp.1 hp.2
    · cases hc) (fun _ _ => rfl) rfl d hd
theorem v54i : ∀ d, 30 ≤ d → VC d 54 con54i := fun d hd =>
  valid_of_sym (C := ctx num2 refAnn) (G := GC) (B := 25) (m := 5) rfl rfl rfl vn2 (fun us p r hc hp ht => by
    unfold con54i at hc; split at hc
    · cases hc; exact s54i _ _ hp.1 hp.2
    · cases hc) (fun _ _ => rfl) rfl d hd
theorem v45i : ∀ d, 30 ≤ d → VC d 45 con45i := fun d hd =>
  valid_of_sym (C := ctx num2 refAnn) (G := GC) (B := 25) (m := 5) rfl rfl rfl vn2 (fun us p r hc hp ht => by
    unfold con45i at hc; split at hc
    · cases hc; exact s45i _ _ hp.1 hp.2
    · cases hc) (fun _ _ => rfl) rfl d hd
theorem v33i : ∀ d, 30 ≤ d → VC d 33 con33i := fun d hd =>
  valid_of_sym (C := ctx num2 refAnn) (G := GC) (B := 25) (m := 5) rfl rfl rfl vn2 (fun us p r hc hp ht => by
    unfold con33i at hc; split at hc
    · cases hc; exact s33i _ _ _ hp.1 hp.2.1 hp.2.2
    · cases hc) (fun _ _ => rfl) rfl d hd
theorem v58i : ∀ d, 30 ≤ d → VC d 58 con58i := fun d hd =>
  valid_of_sym (C := ctx num2 refAnn) (G := GC) (B := 25) (m := 5) rfl rfl rfl vn2 (fun us p r hc hp ht => by
    unfold con58i at hc; split at hc
    · cases hc; exact s58i _ hp.1 hp.2
    · cases hc) (fun _ _ => rfl) rfl d hd
theorem v39i : ∀ d, 30 ≤ d → VC d 39 con39i := fun d hd =>
  valid_of_sym (C := ctx num2 refAnn) (G := GC) (B := 25) (m := 5) rfl rfl rfl vn2 (fun us p r hc hp ht => by
    unfold con39i at hc; split at hc
    · cases hc; exact s39i _ _ _ _ _ _ _ hp.1 hp.2
    · cases hc) (fun _ _ => rfl) rfl d hd
theorem vr1 : ∀ d, 30 ≤ d → ∀ g c, ref1 g = some c → VC d g c := fun d hd g c h => by
  unfold ref1 at h
  split at h
  · cases h
  · cases h; exact valid_ext (v32i d hd)
  · cases h; exact valid_ext (v53i d hd)
  · cases h; exact valid_ext (v51i d hd)
  · cases h; exact valid_ext (v36i d hd)
  · cases h; exact valid_ext (v54i d hd)
  · cases h; exact valid_ext (v45i d hd)
  · cases h; exact valid_ext (v33i d hd)
  · cases h; exact v58i d hd
  · cases h; exact v39i d hd
  · exact vn2 d (by omega) _ c h
theorem v18 : ∀ d, 35 ≤ d → VC d 18 con18 := fun d hd =>
  valid_of_sym (C := ctxF ref1 refAnn refFrz refJoin) (G := GC) (B := 30) (m := 5) rfl rfl rfl vr1 (fun us p r hc hp ht => by
    unfold con18 at hc; split at hc
    · cases hc; exact s18 _ _ _ _ hp.1 hp.2.1 hp.2.2.1 hp.2.2.2
    · cases hc) (fun _ _ => rfl) rfl d hd
#print axioms v18
end Go.Ev
