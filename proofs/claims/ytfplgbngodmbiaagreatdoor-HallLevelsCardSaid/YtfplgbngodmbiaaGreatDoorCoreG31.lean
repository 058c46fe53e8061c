/-
  Part of the engine that the claim is proved with: it states nothing of the document by itself.
-/
import Derived.Test.YtfplgbngodmbiaaGreatDoorCoreChkA
import Derived.Test.YtfplgbngodmbiaaGreatDoorCoreG28
import Derived.Test.YtfplgbngodmbiaaGreatDoorCoreSort
import Derived.Test.YtfplgbngodmbiaaGreatDoorCoreMade

section

open Go.Proofs
namespace Go.Ev
set_option maxRecDepth 100000
theorem vc66 : ∀ (l : D), symFun (ctx chk2 chkAnn) 5 (66 : FuncId) [V.dat (22 : TypeId) l] (V.dat (22 : TypeId) (copyD l)) = (((∃ (x : Nat), x = 0 ∧ ((0 : Int) = 0 ∧ True ∧ True) ∧ True) ∨ ∃ (x : Nat), (0 < x ∧ x ≤
 l.len) ∧ (0 = (x : Int) ∧ False ∧ True) ∧ False ∧ True) ∧ (∀ (x : Nat), x = 0 → l.len - x < LIM ∧ (0 < (l.len : Int) → (0 : Int) ≤ 0 ∧ 0 < (l.len : Int) ∧ ((tOpen (el l (Int.toNat 0))).isNil → 0 + 1 ≤ [D.int (-7)].length
 ∧ (1 : Nat) ≤ 16777216 ∧ (0 : Int) ≤ 0 ∧ 0 ≤ (↑(tOpen (el l (Int.toNat 0))).len : Int) ∧ ((↑(1 : Nat) : Int) - (↑(tOpen (el l (Int.toNat 0))).len : Int)).NonNeg ∧ 0 + 0 + (tOpen (el l (Int.toNat 0))).len ≤ (List.take 1
 [D.int (-7)]).length ∧ 0 + 1 ≤ [D.sct [D.str (tName (el l (Int.toNat 0))), D.int (tShape (el l (Int.toNat 0))), D.int (tA (el l (Int.toNat 0))), D.int (tB (el l (Int.toNat 0))), D.list (List.take (tOpen (el l (Int.toNat
 0))).len (List.drop (0 + 0) (List.take 1 [D.int (-7)]))), D.int (tX (el l (Int.toNat 0))), D.int (tY (el l (Int.toNat 0)))]].length ∧ (1 : Nat) ≤ 16777216 ∧ ((-9223372036854775808 : Int) ≤ 0 + 1 ∧ (0 : Int) + 1 <
 9223372036854775808) ∧ ((∃ (y : Nat), y = 0 ∧ l.len - y < l.len - x ∧ ((0 : Int) + 1 = 0 ∧ False ∧ True) ∧ True) ∨ ∃ (y : Nat), (0 < y ∧ y ≤ l.len) ∧ l.len - y < l.len - x ∧ (0 + 1 = (y : Int) ∧ ((0 : Nat) = 0 ∧ 1 = y ∧
 True) ∧ True) ∧ List.take 1 [D.sct [D.str (tName (el l (Int.toNat 0))), D.int (tShape (el l (Int.toNat 0))), D.int (tA (el l (Int.toNat 0))), D.int (tB (el l (Int.toNat 0))), D.list (List.take (tOpen (el l (Int.toNat
 0))).len (List.drop (0 + 0) (List.take 1 [D.int (-7)]))), D.int (tX (el l (Int.toNat 0))), D.int (tY (el l (Int.toNat 0)))]] = copyL l y ∧ True)) ∧ (((tOpen (el l (Int.toNat 0))).isNil → False) → ((tOpen (el l (Int.toNat
 0))).len = 0 → 0 + 1 ≤ [D.int (-7)].length ∧ 0 + 0 ≤ ([] : List D).length ∧ (0 : Nat) + 1 ≤ 16777216 ∧ (0 : Int) ≤ 0 ∧ 0 ≤ (↑(tOpen (el l (Int.toNat 0))).len : Int) ∧ ((↑(0 + 1) : Int) - (↑(tOpen (el l (Int.toNat
 0))).len : Int)).NonNeg ∧ 0 + 0 + (tOpen (el l (Int.toNat 0))).len ≤ (List.take 0 ([] : List D) ++ List.take 1 [D.int (-7)]).length ∧ 0 + 1 ≤ [D.sct [D.str (tName (el l (Int.toNat 0))), D.int (tShape (el l (Int.toNat
 0))), D.int (tA (el l (Int.toNat 0))), D.int (tB (el l (Int.toNat 0))), D.list (List.take (tOpen (el l (Int.toNat 0))).len (List.drop (0 + 0) (List.take 0 ([] : List D) ++ List.take 1 [D.int (-7)]))), D.int (tX (el l
 (Int.toNat 0))), D.int (tY (el l (Int.toNat 0)))]].length ∧ (1 : Nat) ≤ 16777216 ∧ ((-9223372036854775808 : Int) ≤ 0 + 1 ∧ (0 : Int) + 1 < 9223372036854775808) ∧ ((∃ (y : Nat), y = 0 ∧ l.len - y < l.len - x ∧ ((0 : Int)
 + 1 = 0 ∧ False ∧ True) ∧ True) ∨ ∃ (y : Nat), (0 < y ∧ y ≤ l.len) ∧ l.len - y < l.len - x ∧ (0 + 1 = (y : Int) ∧ ((0 : Nat) = 0 ∧ 1 = y ∧ True) ∧ True) ∧ List.take 1 [D.sct [D.str (tName (el l (Int.toNat 0))), D.int
 (tShape (el l (Int.toNat 0))), D.int (tA (el l (Int.toNat 0))), D.int (tB (el l (Int.toNat 0))), D.list (List.take (tOpen (el l (Int.toNat 0))).len (List.drop (0 + 0) (List.take 0 ([] : List D) ++ List.take 1 [D.int
 (-7)]))), D.int (tX (el l (Int.toNat 0))), D.int (tY (el l (Int.toNat 0)))]] = copyL l y ∧ True)) ∧ (0 < (tOpen (el l (Int.toNat 0))).len → 0 + 0 ≤ ([] : List D).length ∧ 0 + (tOpen (el l (Int.toNat 0))).len ≤ 16777216 ∧
 (0 + (tOpen (el l (Int.toNat 0))).len ≤ 0 → 0 + 0 + (tOpen (el l (Int.toNat 0))).len ≤ ([] : List D).length ∧ 0 + 1 ≤ [D.int (-7)].length ∧ 0 + (tOpen (el l (Int.toNat 0))).len ≤ (List.take (0 + 0) [] ++ (tOpen (el l
 (Int.toNat 0))).asList ++ List.drop (0 + 0 + (tOpen (el l (Int.toNat 0))).len) []).length ∧ (tOpen (el l (Int.toNat 0))).len + 1 ≤ 16777216 ∧ ((tOpen (el l (Int.toNat 0))).len + 1 ≤ 0 → 0 + (tOpen (el l (Int.toNat
 0))).len + 1 ≤ (List.take (0 + 0) [] ++ (tOpen (el l (Int.toNat 0))).asList ++ List.drop (0 + 0 + (tOpen (el l (Int.toNat 0))).len) []).length ∧ (0 : Int) ≤ 0 ∧ 0 ≤ (↑(tOpen (el l (Int.toNat 0))).len : Int) ∧ ((↑(0 :
 Nat) : Int) - (↑(tOpen (el l (Int.toNat 0))).len : Int)).NonNeg ∧ 0 + 0 + (tOpen (el l (Int.toNat 0))).len ≤ (List.take (0 + (tOpen (el l (Int.toNat 0))).len) (List.take (0 + 0) [] ++ (tOpen (el l (Int.toNat 0))).asList
 ++ List.drop (0 + 0 + (tOpen (el l (Int.toNat 0))).len) []) ++ List.take 1 [D.int (-7)] ++ List.drop (0 + (tOpen (el l (Int.toNat 0))).len + 1) (List.take (0 + 0) [] ++ (tOpen (el l (Int.toNat 0))).asList ++ List.drop (0
 + 0 + (tOpen (el l (Int.toNat 0))).len) [])).length ∧ 0 + 1 ≤ [D.sct [D.str (tName (el l (Int.toNat 0))), D.int (tShape (el l (Int.toNat 0))), D.int (tA (el l (Int.toNat 0))), D.int (tB (el l (Int.toNat 0))), D.list
 (List.take (tOpen (el l (Int.toNat 0))).len (List.drop (0 + 0) (List.take (0 + (tOpen (el l (Int.toNat 0))).len) (List.take (0 + 0) [] ++ (tOpen (el l (Int.toNat 0))).asList ++ List.drop (0 + 0 + (tOpen (el l (Int.toNat
 0))).len) []) ++ List.take 1 [D.int (-7)] ++ List.drop (0 + (tOpen (el l (Int.toNat 0))).len + 1) (List.take (0 + 0) [] ++ (tOpen (el l (Int.toNat 0))).asList ++ List.drop (0 + 0 + (tOpen (el l (Int.toNat 0))).len)
 [])))), D.int (tX (el l (Int.toNat 0))), D.int (tY (el l (Int.toNat 0)))]].length ∧ (1 : Nat) ≤ 16777216 ∧ ((-9223372036854775808 : Int) ≤ 0 + 1 ∧ (0 : Int) + 1 < 9223372036854775808) ∧ ((∃ (y : Nat), y = 0 ∧ l.len - y <
 l.len - x ∧ ((0 : Int) + 1 = 0 ∧ False ∧ True) ∧ True) ∨ ∃ (y : Nat), (0 < y ∧ y ≤ l.len) ∧ l.len - y < l.len - x ∧ (0 + 1 = (y : Int) ∧ ((0 : Nat) = 0 ∧ 1 = y ∧ True) ∧ True) ∧ List.take 1 [D.sct [D.str (tName (el l
 (Int.toNat 0))), D.int (tShape (el l (Int.toNat 0))), D.int (tA (el l (Int.toNat 0))), D.int (tB (el l (Int.toNat 0))), D.list (List.take (tOpen (el l (Int.toNat 0))).len (List.drop (0 + 0) (List.take (0 + (tOpen (el l
 (Int.toNat 0))).len) (List.take (0 + 0) [] ++ (tOpen (el l (Int.toNat 0))).asList ++ List.drop (0 + 0 + (tOpen (el l (Int.toNat 0))).len) []) ++ List.take 1 [D.int (-7)] ++ List.drop (0 + (tOpen (el l (Int.toNat 0))).len
 + 1) (List.take (0 + 0) [] ++ (tOpen (el l (Int.toNat 0))).asList ++ List.drop (0 + 0 + (tOpen (el l (Int.toNat 0))).len) [])))), D.int (tX (el l (Int.toNat 0))), D.int (tY (el l (Int.toNat 0)))]] = copyL l y ∧ True)) ∧
 (0 < (tOpen (el l (Int.toNat 0))).len + 1 → (0 : Int) ≤ 0 ∧ 0 ≤ (↑(tOpen (el l (Int.toNat 0))).len : Int) ∧ ((↑((tOpen (el l (Int.toNat 0))).len + 1) : Int) - (↑(tOpen (el l (Int.toNat 0))).len : Int)).NonNeg ∧ 0 + 0 +
 (tOpen (el l (Int.toNat 0))).len ≤ (List.take (tOpen (el l (Int.toNat 0))).len (List.take (0 + 0) [] ++ (tOpen (el l (Int.toNat 0))).asList ++ List.drop (0 + 0 + (tOpen (el l (Int.toNat 0))).len) []) ++ List.take 1
 [D.int (-7)]).length ∧ 0 + 1 ≤ [D.sct [D.str (tName (el l (Int.toNat 0))), D.int (tShape (el l (Int.toNat 0))), D.int (tA (el l (Int.toNat 0))), D.int (tB (el l (Int.toNat 0))), D.list (List.take (tOpen (el l (Int.toNat
 0))).len (List.drop (0 + 0) (List.take (tOpen (el l (Int.toNat 0))).len (List.take (0 + 0) [] ++ (tOpen (el l (Int.toNat 0))).asList ++ List.drop (0 + 0 + (tOpen (el l (Int.toNat 0))).len) []) ++ List.take 1 [D.int
 (-7)]))), D.int (tX (el l (Int.toNat 0))), D.int (tY (el l (Int.toNat 0)))]].length ∧ (1 : Nat) ≤ 16777216 ∧ ((-9223372036854775808 : Int) ≤ 0 + 1 ∧ (0 : Int) + 1 < 9223372036854775808) ∧ ((∃ (y : Nat), y = 0 ∧ l.len - y
 < l.len - x ∧ ((0 : Int) + 1 = 0 ∧ False ∧ True) ∧ True) ∨ ∃ (y : Nat), (0 < y ∧ y ≤ l.len) ∧ l.len - y < l.len - x ∧ (0 + 1 = (y : Int) ∧ ((0 : Nat) = 0 ∧ 1 = y ∧ True) ∧ True) ∧ List.take 1 [D.sct [D.str (tName (el l
 (Int.toNat 0))), D.int (tShape (el l (Int.toNat 0))), D.int (tA (el l (Int.toNat 0))), D.int (tB (el l (Int.toNat 0))), D.list (List.take (tOpen (el l (Int.toNat 0))).len (List.drop (0 + 0) (List.take (tOpen (el l
 (Int.toNat 0))).len (List.take (0 + 0) [] ++ (tOpen (el l (Int.toNat 0))).asList ++ List.drop (0 + 0 + (tOpen (el l (Int.toNat 0))).len) []) ++ List.take 1 [D.int (-7)]))), D.int (tX (el l (Int.toNat 0))), D.int (tY (el
 l (Int.toNat 0)))]] = copyL l y ∧ True))) ∧ (0 < 0 + (tOpen (el l (Int.toNat 0))).len → 0 + 1 ≤ [D.int (-7)].length ∧ 0 + (tOpen (el l (Int.toNat 0))).len ≤ (List.take 0 ([] : List D) ++ (tOpen (el l (Int.toNat
 0))).asList).length ∧ (tOpen (el l (Int.toNat 0))).len + 1 ≤ 16777216 ∧ (0 : Int) ≤ 0 ∧ 0 ≤ (↑(tOpen (el l (Int.toNat 0))).len : Int) ∧ ((↑((tOpen (el l (Int.toNat 0))).len + 1) : Int) - (↑(tOpen (el l (Int.toNat
 0))).len : Int)).NonNeg ∧ 0 + 0 + (tOpen (el l (Int.toNat 0))).len ≤ (List.take (tOpen (el l (Int.toNat 0))).len (List.take 0 ([] : List D) ++ (tOpen (el l (Int.toNat 0))).asList) ++ List.take 1 [D.int (-7)]).length ∧ 0
 + 1 ≤ [D.sct [D.str (tName (el l (Int.toNat 0))), D.int (tShape (el l (Int.toNat 0))), D.int (tA (el l (Int.toNat 0))), D.int (tB (el l (Int.toNat 0))), D.list (List.take (tOpen (el l (Int.toNat 0))).len (List.drop (0 +
 0) (List.take (tOpen (el l (Int.toNat 0))).len (List.take 0 ([] : List D) ++ (tOpen (el l (Int.toNat 0))).asList) ++ List.take 1 [D.int (-7)]))), D.int (tX (el l (Int.toNat 0))), D.int (tY (el l (Int.toNat 0)))]].length
 ∧ (1 : Nat) ≤ 16777216 ∧ ((-9223372036854775808 : Int) ≤ 0 + 1 ∧ (0 : Int) + 1 < 9223372036854775808) ∧ ((∃ (y : Nat), y = 0 ∧ l.len - y < l.len - x ∧ ((0 : Int) + 1 = 0 ∧ False ∧ True) ∧ True) ∨ ∃ (y : Nat), (0 < y ∧ y
 ≤ l.len) ∧ l.len - y < l.len - x ∧ (0 + 1 = (y : Int) ∧ ((0 : Nat) = 0 ∧ 1 = y ∧ True) ∧ True) ∧ List.take 1 [D.sct [D.str (tName (el l (Int.toNat 0))), D.int (tShape (el l (Int.toNat 0))), D.int (tA (el l (Int.toNat
 0))), D.int (tB (el l (Int.toNat 0))), D.list (List.take (tOpen (el l (Int.toNat 0))).len (List.drop (0 + 0) (List.take (tOpen (el l (Int.toNat 0))).len (List.take 0 ([] : List D) ++ (tOpen (el l (Int.toNat 0))).asList)
 ++ List.take 1 [D.int (-7)]))), D.int (tX (el l (Int.toNat 0))), D.int (tY (el l (Int.toNat 0)))]] = copyL l y ∧ True))))) ∧ ((0 < (l.len : Int) → False) → D.nil = copyD l)) ∧ ∀ (x : Nat), 0 < x ∧ x ≤ l.len → l.len - x <
 LIM ∧ ((x : Int) < (l.len : Int) → 0 ≤ (x : Int) ∧ (x : Int) < (l.len : Int) ∧ ((tOpen (el l x)).isNil → 0 + 1 ≤ [D.int (-7)].length ∧ (1 : Nat) ≤ 16777216 ∧ (0 : Int) ≤ 0 ∧ 0 ≤ (↑(tOpen (el l x)).len : Int) ∧ ((↑(1 :
 Nat) : Int) - (↑(tOpen (el l x)).len : Int)).NonNeg ∧ 0 + 0 + (tOpen (el l x)).len ≤ (List.take 1 [D.int (-7)]).length ∧ 0 + 1 ≤ [D.sct [D.str (tName (el l x)), D.int (tShape (el l x)), D.int (tA (el l x)), D.int (tB (el
 l x)), D.list (List.take (tOpen (el l x)).len (List.drop (0 + 0) (List.take 1 [D.int (-7)]))), D.int (tX (el l x)), D.int (tY (el l x))]].length ∧ 0 + x ≤ (copyL l x).length ∧ x + 1 ≤ 16777216 ∧ ((-9223372036854775808) ≤
 (x : Int) + 1 ∧ (x : Int) + 1 < 9223372036854775808) ∧ ((∃ (y : Nat), y = 0 ∧ l.len - y < l.len - x ∧ ((x : Int) + 1 = 0 ∧ False ∧ True) ∧ True) ∨ ∃ (y : Nat), (0 < y ∧ y ≤ l.len) ∧ l.len - y < l.len - x ∧ ((x : Int) + 1
 = (y : Int) ∧ ((0 : Nat) = 0 ∧ x + 1 = y ∧ True) ∧ True) ∧ List.take x (copyL l x) ++ List.take 1 [D.sct [D.str (tName (el l x)), D.int (tShape (el l x)), D.int (tA (el l x)), D.int (tB (el l x)), D.list (List.take
 (tOpen (el l x)).len (List.drop (0 + 0) (List.take 1 [D.int (-7)]))), D.int (tX (el l x)), D.int (tY (el l x))]] = copyL l y ∧ True)) ∧ (((tOpen (el l x)).isNil → False) → ((tOpen (el l x)).len = 0 → 0 + 1 ≤ [D.int
 (-7)].length ∧ 0 + 0 ≤ ([] : List D).length ∧ (0 : Nat) + 1 ≤ 16777216 ∧ (0 : Int) ≤ 0 ∧ 0 ≤ (↑(tOpen (el l x)).len : Int) ∧ ((↑(0 + 1) : Int) - (↑(tOpen (el l x)).len : Int)).NonNeg ∧ 0 + 0 + (tOpen (el l x)).len ≤
 (List.take 0 ([] : List D) ++ List.take 1 [D.int (-7)]).length ∧ 0 + 1 ≤ [D.sct [D.str (tName (el l x)), D.int (tShape (el l x)), D.int (tA (el l x)), D.int (tB (el l x)), D.list (List.take (tOpen (el l x)).len
 (List.drop (0 + 0) (List.take 0 ([] : List D) ++ List.take 1 [D.int (-7)]))), D.int (tX (el l x)), D.int (tY (el l x))]].length ∧ 0 + x ≤ (copyL l x).length ∧ x + 1 ≤ 16777216 ∧ ((-9223372036854775808) ≤ (x : Int) + 1 ∧
 (x : Int) + 1 < 9223372036854775808) ∧ ((∃ (y : Nat), y = 0 ∧ l.len - y < l.len - x ∧ ((x : Int) + 1 = 0 ∧ False ∧ True) ∧ True) ∨ ∃ (y : Nat), (0 < y ∧ y ≤ l.len) ∧ l.len - y < l.len - x ∧ ((x : Int) + 1 = (y : Int) ∧
 ((0 : Nat) = 0 ∧ x + 1 = y ∧ True) ∧ True) ∧ List.take x (copyL l x) ++ List.take 1 [D.sct [D.str (tName (el l x)), D.int (tShape (el l x)), D.int (tA (el l x)), D.int (tB (el l x)), D.list (List.take (tOpen (el l
 x)).len (List.drop (0 + 0) (List.take 0 ([] : List D) ++ List.take 1 [D.int (-7)]))), D.int (tX (el l x)), D.int (tY (el l x))]] = copyL l y ∧ True)) ∧ (0 < (tOpen (el l x)).len → 0 + 0 ≤ ([] : List D).length ∧ 0 +
 (tOpen (el l x)).len ≤ 16777216 ∧ (0 + (tOpen (el l x)).len ≤ 0 → 0 + 0 + (tOpen (el l x)).len ≤ ([] : List D).length ∧ 0 + 1 ≤ [D.int (-7)].length ∧ 0 + (tOpen (el l x)).len ≤ (List.take (0 + 0) [] ++ (tOpen (el l
 x)).asList ++ List.drop (0 + 0 + (tOpen (el l x)).len) []).length ∧ (tOpen (el l x)).len + 1 ≤ 16777216 ∧ ((tOpen (el l x)).len + 1 ≤ 0 → 0 + (tOpen (el l x)).len + 1 ≤ (List.take (0 + 0) [] ++ (tOpen (el l x)).asList ++
 List.drop (0 + 0 + (tOpen (el l x)).len) []).length ∧ (0 : Int) ≤ 0 ∧ 0 ≤ (↑(tOpen (el l x)).len : Int) ∧ ((↑(0 : Nat) : Int) - (↑(tOpen (el l x)).len : Int)).NonNeg ∧ 0 + 0 + (tOpen (el l x)).len ≤ (List.take (0 +
 (tOpen (el l x)).len) (List.take (0 + 0) [] ++ (tOpen (el l x)).asList ++ List.drop (0 + 0 + (tOpen (el l x)).len) []) ++ List.take 1 [D.int (-7)] ++ List.drop (0 + (tOpen (el l x)).len + 1) (List.take (0 + 0) [] ++
 (tOpen (el l x)).asList ++ List.drop (0 + 0 + (tOpen (el l x)).len) [])).length ∧ 0 + 1 ≤ [D.sct [D.str (tName (el l x)), D.int (tShape (el l x)), D.int (tA (el l x)), D.int (tB (el l x)), D.list (List.take (tOpen (el l
 x)).len (List.drop (0 + 0) (List.take (0 + (tOpen (el l x)).len) (List.take (0 + 0) [] ++ (tOpen (el l x)).asList ++ List.drop (0 + 0 + (tOpen (el l x)).len) []) ++ List.take 1 [D.int (-7)] ++ List.drop (0 + (tOpen (el l
 x)).len + 1) (List.take (0 + 0) [] ++ (tOpen (el l x)).asList ++ List.drop (0 + 0 + (tOpen (el l x)).len) [])))), D.int (tX (el l x)), D.int (tY (el l x))]].length ∧ 0 + x ≤ (copyL l x).length ∧ x + 1 ≤ 16777216 ∧
 ((-9223372036854775808) ≤ (x : Int) + 1 ∧ (x : Int) + 1 < 9223372036854775808) ∧ ((∃ (y : Nat), y = 0 ∧ l.len - y < l.len - x ∧ ((x : Int) + 1 = 0 ∧ False ∧ True) ∧ True) ∨ ∃ (y : Nat), (0 < y ∧ y ≤ l.len) ∧ l.len - y <
 l.len - x ∧ ((x : Int) + 1 = (y : Int) ∧ ((0 : Nat) = 0 ∧ x + 1 = y ∧ True) ∧ True) ∧ List.take x (copyL l x) ++ List.take 1 [D.sct [D.str (tName (el l x)), D.int (tShape (el l x)), D.int (tA (el l x)), D.int (tB (el l
 x)), D.list (List.take (tOpen (el l x)).len (List.drop (0 + 0) (List.take (0 + (tOpen (el l x)).len) (List.take (0 + 0) [] ++ (tOpen (el l x)).asList ++ List.drop (0 + 0 + (tOpen (el l x)).len) []) ++ List.take 1 [D.int
 (-7)] ++ List.drop (0 + (tOpen (el l x)).len + 1) (List.take (0 + 0) [] ++ (tOpen (el l x)).asList ++ List.drop (0 + 0 + (tOpen (el l x)).len) [])))), D.int (tX (el l x)), D.int (tY (el l x))]] = copyL l y ∧ True)) ∧ (0
 < (tOpen (el l x)).len + 1 → (0 : Int) ≤ 0 ∧ 0 ≤ (↑(tOpen (el l x)).len : Int) ∧ ((↑((tOpen (el l x)).len + 1) : Int) - (↑(tOpen (el l x)).len : Int)).NonNeg ∧ 0 + 0 + (tOpen (el l x)).len ≤ (List.take (tOpen (el l
 x)).len (List.take (0 + 0) [] ++ (tOpen (el l x)).asList ++ List.drop (0 + 0 + (tOpen (el l x)).len) []) ++ List.take 1 [D.int (-7)]).length ∧ 0 + 1 ≤ [D.sct [D.str (tName (el l x)), D.int (tShape (el l x)), D.int (tA
 (el l x)), D.int (tB (el l x)), D.list (List.take (tOpen (el l x)).len (List.drop (0 + 0) (List.take (tOpen (el l x)).len (List.take (0 + 0) [] ++ (tOpen (el l x)).asList ++ List.drop (0 + 0 + (tOpen (el l x)).len) [])
 ++ List.take 1 [D.int (-7)]))), D.int (tX (el l x)), D.int (tY (el l x))]].length ∧ 0 + x ≤ (copyL l x).length ∧ x + 1 ≤ 16777216 ∧ ((-9223372036854775808) ≤ (x : Int) + 1 ∧ (x : Int) + 1 < 9223372036854775808) ∧ ((∃ (y
 : Nat), y = 0 ∧ l.len - y < l.len - x ∧ ((x : Int) + 1 = 0 ∧ False ∧ True) ∧ True) ∨ ∃ (y : Nat), (0 < y ∧ y ≤ l.len) ∧ l.len - y < l.len - x ∧ ((x : Int) + 1 = (y : Int) ∧ ((0 : Nat) = 0 ∧ x + 1 = y ∧ True) ∧ True) ∧
 List.take x (copyL l x) ++ List.take 1 [D.sct [D.str (tName (el l x)), D.int (tShape (el l x)), D.int (tA (el l x)), D.int (tB (el l x)), D.list (List.take (tOpen (el l x)).len (List.drop (0 + 0) (List.take (tOpen (el l
 x)).len (List.take (0 + 0) [] ++ (tOpen (el l x)).asList ++ List.drop (0 + 0 + (tOpen (el l x)).len) []) ++ List.take 1 [D.int (-7)]))), D.int (tX (el l x)), D.int (tY (el l x))]] = copyL l y ∧ True))) ∧ (0 < 0 + (tOpen
 (el l x)).len → 0 + 1 ≤ [D.int (-7)].length ∧ 0 + (tOpen (el l x)).len ≤ (List.take 0 ([] : List D) ++ (tOpen (el l x)).asList).length ∧ (tOpen (el l x)).len + 1 ≤ 16777216 ∧ (0 : Int) ≤ 0 ∧ 0 ≤ (↑(tOpen (el l x)).len :
 Int) ∧ ((↑((tOpen (el l x)).len + 1) : Int) - (↑(tOpen (el l x)).len : Int)).NonNeg ∧ 0 + 0 + (tOpen (el l x)).len ≤ (List.take (tOpen (el l x)).len (List.take 0 ([] : List D) ++ (tOpen (el l x)).asList) ++ List.take 1
 [D.int (-7)]).length ∧ 0 + 1 ≤ [D.sct [D.str (tName (el l x)), D.int (tShape (el l x)), D.int (tA (el l x)), D.int (tB (el l x)), D.list (List.take (tOpen (el l x)).len (List.drop (0 + 0) (List.take (tOpen (el l x)).len
 (List.take 0 ([] : List D) ++ (tOpen (el l x)).asList) ++ List.take 1 [D.int (-7)]))), D.int (tX (el l x)), D.int (tY (el l x))]].length ∧ 0 + x ≤ (copyL l x).length ∧ x + 1 ≤ 16777216 ∧ ((-9223372036854775808) ≤ (x :
 Int) + 1 ∧ (x : Int) + 1 < 9223372036854775808) ∧ ((∃ (y : Nat), y = 0 ∧ l.len - y < l.len - x ∧ ((x : Int) + 1 = 0 ∧ False ∧ True) ∧ True) ∨ ∃ (y : Nat), (0 < y ∧ y ≤ l.len) ∧ l.len - y < l.len - x ∧ ((x : Int) + 1 = (y
 : Int) ∧ ((0 : Nat) = 0 ∧ x + 1 = y ∧ True) ∧ True) ∧ List.take x (copyL l x) ++ List.take 1 [D.sct [D.str (tName (el l x)), D.int (tShape (el l x)), D.int (tA (el l x)), D.int (tB (el l x)), D.list (List.take (tOpen (el
 l x)).len (List.drop (0 + 0) (List.take (tOpen (el l x)).len (List.take 0 ([] : List D) ++ (tOpen (el l x)).asList) ++ List.take 1 [D.int (-7)]))), D.int (tX (el l x)), D.int (tY (el l x))]] = copyL l y ∧ True))))) ∧
 (((x : Int) < (l.len : Int) → False) → 0 + x ≤ (copyL l x).length ∧ D.list (List.take x (copyL l x)) = copyD l)) := by intros; kernel_rfl
theorem nonneg_iff (a b : Int) : (b - a).NonNeg ↔ a ≤ b := Iff.rfl
theorem f_toNat0 : Int.toNat (0 : Int) = 0 := rfl
theorem copy_succ (l : D) (x : Nat) : copyL l (x + 1) = copyL l x ++ [copyT (el l x)] := by
  unfold copyL; rw [List.range_succ, List.map_append]; rfl
theorem copy_len (l : D) (x : Nat) : (copyL l x).length = x := by unfold copyL; simp
theorem lastX (l : D) (x : Nat) (X : List D) (hX : List.take (tOpen (el l x)).len X = (tOpen (el l x)).asList) :
    List.take x (copyL l x) ++ List.take 1 [D.sct [D.str (tName (el l x)), D.int (tShape (el l x)), D.int (tA (el l x)), D.int (tB (el l x)), D.list (List.take (tOpen (el l x)).len X), D.int (tX (el l x)), D.int (tY (el l x))]] = copyL l (x + 1) := by
  rw [hX, copy_succ, List.take_of_length_le (by rw [copy_len]; exact Nat.le_refl _)]; rfl
theorem last0 (l : D) (X : List D) (hX : List.take (tOpen (el l 0)).len X = (tOpen (el l 0)).asList) :
    List.take 1 [D.sct [D.str (tName (el l 0)), D.int (tShape (el l 0)), D.int (tA (el l 0)), D.int (tB (el l 0)), D.list (List.take (tOpen (el l 0)).len X), D.int (tX (el l 0)), D.int (tY (el l 0))]] = copyL l 1 := by
  have := lastX l 0 X hX
  exact this
theorem take_zero (o : D) (X : List D) (h : o.len = 0) : List.take o.len X = o.asList := by
  rw [h, List.take_zero]; exact (List.eq_nil_of_length_eq_zero h).symm
theorem take_app (o : D) (Y : List D) : List.take o.len (List.take o.len o.asList ++ Y) = o.asList := by
  have e : List.take o.len o.asList = o.asList := List.take_of_length_le (Nat.le_refl _)
  rw [e]
  exact List.take_left' rfl
theorem take_app2 (o : D) (Y Z : List D) : List.take o.len (List.take o.len o.asList ++ Y ++ Z) = o.asList := by
  rw [List.append_assoc]; exact take_app o _
theorem isNil_len {o : D} (h : o.isNil) : o.len = 0 := by cases o <;> first | rfl | exact h.elim
theorem len_as (o : D) : o.asList.length = o.len := rfl
set_option maxHeartbeats 4000000 in
theorem s66 (l : D) (h : smallD l) : symFun (ctx chk2 chkAnn) 5 66 [.dat 22 l] (.dat 22 (copyD l)) := by
  have hlen := h.out.1
  rw [vc66]
  simp only [imp_false, Classical.not_not, true_and, and_true, false_and, and_false, or_false, false_or, exists_false, Nat.zero_add, Nat.add_zero, List.take_nil, List.drop_nil, List.drop_zero, List.nil_append, List.append_nil, List.length_nil, List.length_cons, List.length_append, nonneg_iff, f_toNat0, Nat.le_refl, Int.le_refl, forall_eq, exists_eq]
  refine ⟨⟨by unfold LIM; omega, fun hlt => ⟨hlt, ?_⟩, fun hge => ?_⟩, fun x ⟨hx0, hx⟩ => ⟨by unfold LIM; omega, fun hlt => ⟨by omega, hlt, ?_⟩, fun hge => ?_⟩⟩
  · have ho := h.out.2 0 (by omega)
    refine ⟨fun hnil => ?_, ?_⟩
    · have h0 := isNil_len hnil
      repeat' (first | refine And.intro ?_ ?_ | intro _)
      all_goals (first | omega | (simp; done) | (simp [h0]; done) | skip)
      exact ⟨_, ⟨by omega, by omega⟩, by omega, ⟨by omega, rfl⟩, last0 l _ (take_zero _ _ h0)⟩
    · repeat' (first | refine And.intro ?_ ?_ | intro _)
      all_goals (first | omega | (simp only [List.length_take, List.length_drop, List.length_cons, List.length_nil, len_as]; omega) | skip)
      all_goals (first
        | exact ⟨_, ⟨by omega, by omega⟩, by omega, ⟨by omega, rfl⟩, last0 l _ (take_zero _ _ (by omega))⟩
        | exact ⟨_, ⟨by omega, by omega⟩, by omega, ⟨by omega, rfl⟩, last0 l _ (take_app _ _)⟩
        | exact ⟨_, ⟨by omega, by omega⟩, by omega, ⟨by omega, rfl⟩, last0 l _ (take_app2 _ _ _)⟩)
  · have : l.len = 0 := by omega
    unfold copyD; rw [this]; rfl
  · have ho := h.out.2 x (by omega)
    have hc := copy_len l x
    refine ⟨fun hnil => ?_, ?_⟩
    · have h0 := isNil_len hnil
      repeat' (first | refine And.intro ?_ ?_ | intro _)
      all_goals (first | omega | (simp; done) | (simp [h0]; done) | skip)
      exact ⟨_, ⟨by omega, by omega⟩, by omega, ⟨by omega, rfl⟩, lastX l x _ (take_zero _ _ h0)⟩
    · repeat' (first | refine And.intro ?_ ?_ | intro _)
      all_goals (first | omega | (simp only [List.length_take, List.length_drop, List.length_cons, List.length_nil, len_as]; omega) | skip)
      all_goals (first
        | exact ⟨_, ⟨by omega, by omega⟩, by omega, ⟨by omega, rfl⟩, lastX l x _ (take_zero _ _ (by omega))⟩
        | exact ⟨_, ⟨by omega, by omega⟩, by omega, ⟨by omega, rfl⟩, lastX l x _ (take_app _ _)⟩
        | exact ⟨_, ⟨by omega, by omega⟩, by omega, ⟨by omega, rfl⟩, lastX l x _ (take_app2 _ _ _)⟩)
  · have : x = l.len := by omega
    subst this
    have hne : copyL l l.len ≠ [] := fun hn => by have := copy_len l l.len; rw [hn] at this; simp at this; omega
    have hl : copyD l = .list (copyL l l.len) := by
      unfold copyD listD
      split
      · rename_i hn; exact absurd hn hne
      · rfl
    rw [hl, List.take_of_length_le (by rw [copy_len]; exact Nat.le_refl _)]
    exact ⟨by rw [copy_len]; exact Nat.le_refl _, rfl⟩
end Go.Ev
open Go.Proofs
namespace Go.Ev
set_option maxRecDepth 100000
theorem listD_len (l : List D) : (listD l).len = l.length := by cases l <;> rfl
theorem scan_ok (l : D) : ∀ (f i : Nat), (scanZ l f i).2 = 0 → ∀ k, i ≤ k → k < i + f → err1 l k = 0
  | 0, i, _, k, h1, h2 => by omega
  | f + 1, i, h, k, h1, h2 => by
    unfold scanZ at h
    split at h
    · rename_i hn; exact absurd h hn
    · rename_i hn
      rcases Nat.eq_or_lt_of_le h1 with e | e
      · subst e; exact Classical.byContradiction hn
      · exact scan_ok l f (i + 1) h k (by omega) (by omega)
theorem bad_ok {l : D} (h : (badZ l).2 = 0) : ∀ k, k < l.len → errT (el l k) = 0 ∧ ¬ twiceP l k := fun k hk => by
  unfold badZ at h
  split at h
  · simp at h
  · have := scan_ok l l.len 0 h k (Nat.zero_le _) (by omega)
    by_cases h1 : errT (el l k) = 0
    · by_cases h2 : twiceP l k
      · rw [err1_twice h1 h2] at this; omega
      · exact ⟨h1, h2⟩
    · rw [err1_own h1] at this; exact absurd this h1
theorem err_size {d : D} (h : errT d = 0) : sizeT' d ≠ 0 := fun hz => by
  unfold errT errZ at h
  split at h
  · omega
  · rw [if_pos (show sizeZ (tShape d) (tA d) (tB d) = 0 from hz)] at h; omega
end Go.Ev

end

section
open Go.Proofs
namespace Go.Ev
set_option maxRecDepth 100000
theorem vc43c : ∀ (p q : D),
  symFun (ctx (fun (x : FuncId) => none) permAnn) (3 : Nat) (43 : FuncId) [V.dat (29 : TypeId) p, V.dat (29 : TypeId) q] (V.prop (eqD p q)) =
    ((((↑p.len : Int) = (↑q.len : Int) → False) → (false = true ↔ p.len = q.len ∧ ∀ (i : Nat), i < p.len → atI p i = atI q i)) ∧
      ((((↑p.len : Int) = (↑q.len : Int) → False) → False) →
        (∃ (x : Nat), (x ≤ p.len ∧ ∀ (i : Nat), i < x → atI p i = atI q i) ∧ ((0 : Int) = (↑x : Int) ∧ True) ∧ True) ∧
          ∀ (x : Nat),
            (x ≤ p.len ∧ ∀ (i : Nat), i < x → atI p i = atI q i) →
              p.len - x < LIM ∧
                ((↑x : Int) < (↑p.len : Int) →
                    (0 : Int) ≤ (↑x : Int) ∧
                      (↑x : Int) < (↑p.len : Int) ∧
                        (0 : Int) ≤ (↑x : Int) ∧
                          (↑x : Int) < (↑q.len : Int) ∧
                            (((nthD p.asList (↑x : Int).toNat).asInt = (nthD q.asList (↑x : Int).toNat).asInt → False) →
                                (false = true ↔ p.len = q.len ∧ ∀ (i : Nat), i < p.len → atI p i = atI q i)) ∧
                              ((((nthD p.asList (↑x : Int).toNat).asInt = (nthD q.asList (↑x : Int).toNat).asInt → False) → False) →
                                ((-9223372036854775808 : Int) ≤ (↑x : Int) + (1 : Int) ∧ (↑x : Int) + (1 : Int) < (9223372036854775808 : Int)) ∧
                                  ∃ (y : Nat),
                                    (y ≤ p.len ∧ ∀ (i : Nat), i < y → atI p i = atI q i) ∧
                                      p.len - y < p.len - x ∧ ((↑x : Int) + (1 : Int) = (↑y : Int) ∧ True) ∧ True)) ∧
                  (((↑x : Int) < (↑p.len : Int) → False) → (true = true ↔ p.len = q.len ∧ ∀ (i : Nat), i < p.len → atI p i = atI q i)))) := by intros; kernel_rfl
theorem s43c (p q : D) (h : p.len ≤ 100) : symFun (ctx (fun _ => none) permAnn) 3 43 [V.dat 29 p, V.dat 29 q] (V.prop (eqD p q)) := by
  rw [vc43c]
  refine ⟨fun hne => ⟨fun h => by simp at h, fun hall => absurd (by rw [hall.1]) hne⟩, fun hnn => ?_⟩
  have hlen : p.len = q.len := by
    have : (p.len : Int) = (q.len : Int) := Classical.byContradiction hnn
    omega
  refine ⟨⟨0, ⟨Nat.zero_le _, fun i hi => by omega⟩, ⟨rfl, trivial⟩, trivial⟩, fun x ⟨hx, hinv⟩ => ⟨by unfold LIM; omega, fun hlt => ?_, fun hge => ⟨fun _ => ⟨hlen, fun i hi => hinv i (by have hge' : ¬ (x : Int) < p.len := hge; omega)⟩, fun _ => rfl⟩⟩⟩
  have ex : ((x : Int).toNat) = x := by omega
  rw [ex]
  refine ⟨by omega, hlt, by omega, by omega, fun hne => ⟨fun h => by simp at h, fun hall => absurd (hall.2 x (by omega)) hne⟩, fun hnn2 => ⟨by omega, x + 1, ⟨by omega, fun i hi => ?_⟩, by omega, ⟨by omega, trivial⟩, trivial⟩⟩
  rcases Nat.lt_or_ge i x with h1 | h1
  · exact hinv i h1
  · have : i = x := by omega
    subst this
    exact Classical.byContradiction hnn2
noncomputable def GC : Msk := { bits := 8148143480379123944539124198372026339899032286168269601245373172583125750031685756655763455, fast := false, ora := fun g => cond (Nat.beq g 21) (some (.bool true)) none, srt := rowsF, srtC := fun g => Nat.beq g 110 }
abbrev VC (d : Nat) (g : FuncId) (c : Con) : Prop := Valid Tryz.prog GC (ev Tryz.prog GC d) g c
theorem v43c : ∀ d, 5 ≤ d → VC d 43 con43 := fun d hd =>
  valid_of_sym (C := ctx (fun _ => none) permAnn) (G := GC) (B := 2) (m := 3) rfl rfl rfl (fun _ _ _ _ h => by cases h) (fun us p r hc hp ht => by
    unfold con43 at hc; split at hc
    · cases hc; exact s43c _ _ hp
    · cases hc) (fun _ _ => rfl) rfl rfl d hd
theorem v126 : ∀ d, 5 ≤ d → VC d 126 con126 := fun d hd =>
  valid_of_sym (C := ctx (fun _ => none) chkAnn) (G := GC) (B := 2) (m := 3) rfl rfl rfl (fun _ _ _ _ h => by cases h) (fun us p r hc hp ht => by
    unfold con126 at hc; split at hc
    · cases hc; exact s126 _
    · cases hc) (fun _ _ => rfl) rfl rfl d hd
theorem v130 : ∀ d, 5 ≤ d → VC d 130 con126 := fun d hd =>
  valid_of_sym (C := ctx (fun _ => none) chkAnn) (G := GC) (B := 2) (m := 3) rfl rfl rfl (fun _ _ _ _ h => by cases h) (fun us p r hc hp ht => by
    unfold con126 at hc; split at hc
    · cases hc; exact s130 _
    · cases hc) (fun _ _ => rfl) rfl rfl d hd
theorem v127 : ∀ d, 5 ≤ d → VC d 127 con127 := fun d hd =>
  valid_of_sym (C := ctx (fun _ => none) chkAnn) (G := GC) (B := 2) (m := 3) rfl rfl rfl (fun _ _ _ _ h => by cases h) (fun us p r hc hp ht => by
    unfold con127 at hc; split at hc
    · cases hc; exact s127 _ _ hp
    · cases hc) (fun _ _ => rfl) rfl rfl d hd
theorem v28 : ∀ d, 5 ≤ d → VC d 28 con28 := fun d hd =>
  valid_of_sym (C := ctx (fun _ => none) chkAnn) (G := GC) (B := 2) (m := 3) rfl rfl rfl (fun _ _ _ _ h => by cases h) (fun us p r hc hp ht => by
    unfold con28 at hc; split at hc
    · cases hc; exact s28 _ _ _ _ _ _ _
    · cases hc) (fun _ _ => rfl) rfl rfl d hd
theorem v114 : ∀ d, 5 ≤ d → VC d 114 con114 := fun d hd =>
  valid_of_sym (C := ctx (fun _ => none) chkAnn) (G := GC) (B := 2) (m := 3) rfl rfl rfl (fun _ _ _ _ h => by cases h) (fun us p r hc hp ht => by
    unfold con114 at hc; split at hc
    · cases hc; exact s114 _ _ hp
    · cases hc) (fun _ _ => rfl) rfl rfl d hd
theorem vk1 : ∀ d, 5 ≤ d → ∀ g c, chk1 g = some c → VC d g c := fun d hd g c h => by
  unfold chk1 at h
  split at h
  · cases h; exact v43c d hd
  · cases h; exact v126 d hd
  · cases h; exact v130 d hd
  · cases h; exact v127 d hd
  · cases h; exact v28 d hd
  · cases h; exact v114 d hd
  · cases h
theorem v63 : ∀ d, 10 ≤ d → VC d 63 con63 := fun d hd =>
  valid_of_sym (C := ctx chk1 chkAnn) (G := GC) (B := 6) (m := 4) rfl rfl rfl (fun d hd => vk1 d (by omega)) (fun us p r hc hp ht => by
    unfold con63 at hc; split at hc
    · cases hc; exact s63 _ _ _ _ _ _ _ hp
    · cases hc) (fun _ _ => rfl) rfl rfl d hd
open Classical in
theorem v68 : ∀ d, 10 ≤ d → VC d 68 con63 := fun d hd us p r hc hp => by
  have hc0 := hc
  unfold con63 at hc; split at hc
  · rename_i nm sh a b o x y
    exact valid_of_sym (C := ctx chk1 (chk68 o (sizeZ sh a b))) (G := GC) (B := 6) (m := 4) (g := 68) (c := fun us => if us = [.agg [.str nm, .int .u8 sh, .int .i64 a, .int .i64 b, .dat 29 o, .int .i64 x, .int .i64 y]] then con63 us else none) rfl rfl rfl (fun d hd => vk1 d (by omega)) (fun us p r hc hp ht => by
      split at hc
      · rename_i e; subst e
        have hc2 : some (o.len ≤ 100, V.int .i64 (errZ nm sh a b o x y)) = some (p, r) := hc
        cases hc2; exact s68 nm sh a b o x y hp
      · cases hc) (fun _ _ => rfl) rfl rfl d hd _ p r (by show (if _ then _ else _) = _; rw [if_pos rfl]; exact hc0) hp
  · cases hc
theorem v93 : ∀ d, 10 ≤ d → VC d 93 con93 := fun d hd =>
  valid_of_sym (C := ctx chk1 chkAnn) (G := GC) (B := 5) (m := 5) rfl rfl rfl vk1 (fun us p r hc hp ht => by
    unfold con93 at hc; split at hc
    · cases hc; exact s93 _ _ _ _ _ _ _ hp
    · cases hc) (fun _ _ => rfl) rfl rfl d hd
theorem v79 : ∀ d, 10 ≤ d → VC d 79 con79 := fun d hd =>
  valid_of_sym (C := ctx chk1 chkAnn) (G := GC) (B := 6) (m := 4) rfl rfl rfl (fun d hd => vk1 d (by omega)) (fun us p r hc hp ht => by
    unfold con79 at hc; split at hc
    · cases hc; exact s79 _ _ _ _ _ _ _ _ _ _ _ _ _ _ hp
    · cases hc) (fun _ _ => rfl) rfl rfl d hd
theorem vk2 : ∀ d, 10 ≤ d → ∀ g c, chk2 g = some c → VC d g c := fun d hd g c h => by
  unfold chk2 at h
  split at h
  · cases h; exact v63 d hd
  · cases h; exact v68 d hd
  · cases h; exact v93 d hd
  · cases h; exact v79 d hd
  · exact vk1 d (by omega) _ c h
theorem v62 : ∀ d, 15 ≤ d → VC d 62 con62 := fun d hd =>
  valid_of_sym (C := ctx chk2 chkAnn) (G := GC) (B := 10) (m := 5) rfl rfl rfl vk2 (fun us p r hc hp ht => by
    unfold con62 at hc; split at hc
    · cases hc; exact s62 _ hp
    · cases hc) (fun _ _ => rfl) rfl rfl d hd
theorem v67 : ∀ d, 15 ≤ d → VC d 67 con62 := fun d hd =>
  valid_of_sym (C := ctx chk2 chkAnn) (G := GC) (B := 10) (m := 5) rfl rfl rfl vk2 (fun us p r hc hp ht => by
    unfold con62 at hc; split at hc
    · cases hc; exact s67 _ hp
    · cases hc) (fun _ _ => rfl) rfl rfl d hd
theorem v92 : ∀ d, 15 ≤ d → VC d 92 con92 := fun d hd =>
  valid_of_sym (C := ctx chk2 chkAnn) (G := GC) (B := 10) (m := 5) rfl rfl rfl vk2 (fun us p r hc hp ht => by
    unfold con92 at hc; split at hc
    · cases hc; exact s92 _ _ hp.1 hp.2.1 hp.2.2
    · cases hc) (fun _ _ => rfl) rfl rfl d hd
theorem v70 : ∀ d, 15 ≤ d → VC d 70 con70 := fun d hd =>
  valid_of_sym (C := ctx chk2 chkAnn) (G := GC) (B := 10) (m := 5) rfl rfl rfl vk2 (fun us p r hc hp ht => by
    unfold con70 at hc; split at hc
    · cases hc; exact s70 _ _ hp.1 hp.2.1 hp.2.2
    · cases hc) (fun _ _ => rfl) rfl rfl d hd
theorem v69 : ∀ d, 15 ≤ d → VC d 69 con69 := fun d hd =>
  valid_of_sym (C := ctx chk2 chkAnn) (G := GC) (B := 10) (m := 5) rfl rfl rfl vk2 (fun us p r hc hp ht => by
    unfold con69 at hc; split at hc
    · cases hc; exact s69 _ hp
    · cases hc) (fun _ _ => rfl) rfl rfl d hd
theorem v66 : ∀ d, 15 ≤ d → VC d 66 con66 := fun d hd =>
  valid_of_sym (C := ctx chk2 chkAnn) (G := GC) (B := 10) (m := 5) rfl rfl rfl vk2 (fun us p r hc hp ht => by
    unfold con66 at hc; split at hc
    · cases hc; exact s66 _ hp
    · cases hc) (fun _ _ => rfl) rfl rfl d hd
theorem v60 : ∀ d, 15 ≤ d → VC d 60 con60 := fun d hd =>
  valid_of_sym (C := ctx chk2 chkAnn) (G := GC) (B := 10) (m := 5) rfl rfl rfl vk2 (fun us p r hc hp ht => by
    unfold con60 at hc; split at hc
    · cases hc; exact s60 _ _ hp
    · cases hc) (fun _ _ => rfl) rfl rfl d hd
theorem v19 : ∀ d, 15 ≤ d → VC d 19 con19 := fun d hd =>
  valid_of_sym (C := ctx chk2 chkAnn) (G := GC) (B := 10) (m := 5) rfl rfl rfl vk2 (fun us p r hc hp ht => by
    unfold con19 at hc; split at hc
    · cases hc; exact s19 _
    · cases hc) (fun _ _ => rfl) rfl rfl d hd
theorem vk3 : ∀ d, 15 ≤ d → ∀ g c, chk3 g = some c → VC d g c := fun d hd g c h => by
  unfold chk3 at h
  split at h
  · cases h; exact v62 d hd
  · cases h; exact v67 d hd
  · cases h; exact v92 d hd
  · cases h; exact v70 d hd
  · cases h; exact v69 d hd
  · cases h; exact v66 d hd
  · cases h; exact v60 d hd
  · cases h; exact v19 d hd
  · exact vk2 d (by omega) _ c h
end Go.Ev

end

section
open Go.Proofs
namespace Go.Ev
set_option maxRecDepth 100000
set_option maxHeartbeats 1000000
theorem vc113 : ∀ (l : D), symFun (ctx chk3 numAnn) 5 (113 : FuncId) [V.dat (22 : TypeId) l] (V.prop (okHall l)) = (smallD l ∧ ((badZ l).snd = 0 ↔ okHall l)) := by intros; kernel_rfl
theorem vc50 : ∀ (nm : List UInt8) (sh a b : Int) (o : D) (x y : Int), symFun (ctx chk3 numAnn) 5 (50 : FuncId) [V.agg [V.str nm, V.int IntKind.u8 sh, V.int IntKind.i64 a, V.int IntKind.i64 b, V.dat (29 : TypeId) o,
 V.int IntKind.i64 x, V.int IntKind.i64 y]] (V.int IntKind.i64 (seatsZ nm sh a b o x y)) = (o.len ≤ 100 ∧ ((errZ nm sh a b o x y = 0 → False) → 0 = seatsZ nm sh a b o x y) ∧ (((errZ nm sh a b o x y = 0 → False) → False) →
 (sizeZ sh a b = 0 → False) ∧ sizeZ sh a b = seatsZ nm sh a b o x y)) := by intros; kernel_rfl
theorem vc49 : ∀ (l : D), symFun (ctx num1 numAnn) 5 (49 : FuncId) [V.dat (65 : TypeId) l] (V.dat (22 : TypeId) (madeD l)) = ((0 : Int) ≤ 0 ∧ ((0 : Int) ≤ bif false then max (l.len : Int) (16 : Int) else min (l.len :
 Int) (16 : Int)) ∧ (bif false then max (l.len : Int) (16 : Int) else min (l.len : Int) (16 : Int)) ≤ (l.len : Int) ∧ ((∃ (x : Nat), x = 0 ∧ ((0 : Int) = 0 ∧ True ∧ True) ∧ True) ∨ ∃ (x : Nat), (0 < x ∧ x ≤ min l.len 16)
 ∧ (0 = (x : Int) ∧ False ∧ True) ∧ False ∧ True) ∧ (∀ (x : Nat), x = 0 → 16 - x < LIM ∧ ((0 : Int) < (↑(l.sub (0 : Nat) (bif false then max (l.len : Int) (16 : Int) else min (l.len : Int) (16 : Int)).toNat).len : Int) →
 (0 : Int) ≤ 0 ∧ (0 : Int) < (↑(l.sub (0 : Nat) (bif false then max (l.len : Int) (16 : Int) else min (l.len : Int) (16 : Int)).toNat).len : Int) ∧ ((-9223372036854775808 : Int) ≤ 97 + 0 ∧ (97 : Int) + 0 <
 9223372036854775808) ∧ 0 + 1 ≤ [D.int (IntKind.u8.wrap (97 + 0))].length ∧ byteL (List.take 1 [D.int (IntKind.u8.wrap (97 + 0))]) ∧ (byteP ((el (l.sub (0 : Nat) (bif false then max (l.len : Int) (16 : Int) else min
 (l.len : Int) (16 : Int)).toNat) (Int.toNat (0 : Int))).fld (0 : Nat)).asInt ∧ byteP (tShape (el (l.sub (0 : Nat) (bif false then max (l.len : Int) (16 : Int) else min (l.len : Int) (16 : Int)).toNat) (Int.toNat (0 :
 Int)))) ∧ byteP (tA (el (l.sub (0 : Nat) (bif false then max (l.len : Int) (16 : Int) else min (l.len : Int) (16 : Int)).toNat) (Int.toNat (0 : Int)))) ∧ bytesP ((el (l.sub (0 : Nat) (bif false then max (l.len : Int) (16
 : Int) else min (l.len : Int) (16 : Int)).toNat) (Int.toNat (0 : Int))).fld (3 : Nat))) ∧ ((-9223372036854775808 : Int) ≤ 7 * 0 ∧ (7 : Int) * 0 < 9223372036854775808) ∧ ((-9223372036854775808 : Int) ≤ 100 - 0 ∧ (100 :
 Int) - 0 < 9223372036854775808) ∧ 0 + 1 ≤ [D.sct [D.str (bytesD (List.take 1 [D.int (IntKind.u8.wrap (97 + 0))])), D.int (mSh ((el (l.sub (0 : Nat) (bif false then max (l.len : Int) (16 : Int) else min (l.len : Int) (16
 : Int)).toNat) (Int.toNat (0 : Int))).fld (0 : Nat)).asInt), D.int (mA ((el (l.sub (0 : Nat) (bif false then max (l.len : Int) (16 : Int) else min (l.len : Int) (16 : Int)).toNat) (Int.toNat (0 : Int))).fld (0 :
 Nat)).asInt (tShape (el (l.sub (0 : Nat) (bif false then max (l.len : Int) (16 : Int) else min (l.len : Int) (16 : Int)).toNat) (Int.toNat (0 : Int))))), D.int (mB ((el (l.sub (0 : Nat) (bif false then max (l.len : Int)
 (16 : Int) else min (l.len : Int) (16 : Int)).toNat) (Int.toNat (0 : Int))).fld (0 : Nat)).asInt (tShape (el (l.sub (0 : Nat) (bif false then max (l.len : Int) (16 : Int) else min (l.len : Int) (16 : Int)).toNat)
 (Int.toNat (0 : Int)))) (tA (el (l.sub (0 : Nat) (bif false then max (l.len : Int) (16 : Int) else min (l.len : Int) (16 : Int)).toNat) (Int.toNat (0 : Int))))), openD ((el (l.sub (0 : Nat) (bif false then max (l.len :
 Int) (16 : Int) else min (l.len : Int) (16 : Int)).toNat) (Int.toNat (0 : Int))).fld (3 : Nat)) (mN ((el (l.sub (0 : Nat) (bif false then max (l.len : Int) (16 : Int) else min (l.len : Int) (16 : Int)).toNat) (Int.toNat
 (0 : Int))).fld (0 : Nat)).asInt (tShape (el (l.sub (0 : Nat) (bif false then max (l.len : Int) (16 : Int) else min (l.len : Int) (16 : Int)).toNat) (Int.toNat (0 : Int)))) (tA (el (l.sub (0 : Nat) (bif false then max
 (l.len : Int) (16 : Int) else min (l.len : Int) (16 : Int)).toNat) (Int.toNat (0 : Int))))), D.int (7 * 0), D.int (100 - 0)]].length ∧ (1 : Nat) ≤ 16777216 ∧ ((-9223372036854775808 : Int) ≤ 0 + 1 ∧ (0 : Int) + 1 <
 9223372036854775808) ∧ ((∃ (y : Nat), y = 0 ∧ 16 - y < 16 - x ∧ ((0 : Int) + 1 = 0 ∧ False ∧ True) ∧ True) ∨ ∃ (y : Nat), (0 < y ∧ y ≤ min l.len 16) ∧ 16 - y < 16 - x ∧ (0 + 1 = (y : Int) ∧ ((0 : Nat) = 0 ∧ 1 = y ∧ True)
 ∧ True) ∧ List.take 1 [D.sct [D.str (bytesD (List.take 1 [D.int (IntKind.u8.wrap (97 + 0))])), D.int (mSh ((el (l.sub (0 : Nat) (bif false then max (l.len : Int) (16 : Int) else min (l.len : Int) (16 : Int)).toNat)
 (Int.toNat (0 : Int))).fld (0 : Nat)).asInt), D.int (mA ((el (l.sub (0 : Nat) (bif false then max (l.len : Int) (16 : Int) else min (l.len : Int) (16 : Int)).toNat) (Int.toNat (0 : Int))).fld (0 : Nat)).asInt (tShape (el
 (l.sub (0 : Nat) (bif false then max (l.len : Int) (16 : Int) else min (l.len : Int) (16 : Int)).toNat) (Int.toNat (0 : Int))))), D.int (mB ((el (l.sub (0 : Nat) (bif false then max (l.len : Int) (16 : Int) else min
 (l.len : Int) (16 : Int)).toNat) (Int.toNat (0 : Int))).fld (0 : Nat)).asInt (tShape (el (l.sub (0 : Nat) (bif false then max (l.len : Int) (16 : Int) else min (l.len : Int) (16 : Int)).toNat) (Int.toNat (0 : Int)))) (tA
 (el (l.sub (0 : Nat) (bif false then max (l.len : Int) (16 : Int) else min (l.len : Int) (16 : Int)).toNat) (Int.toNat (0 : Int))))), openD ((el (l.sub (0 : Nat) (bif false then max (l.len : Int) (16 : Int) else min
 (l.len : Int) (16 : Int)).toNat) (Int.toNat (0 : Int))).fld (3 : Nat)) (mN ((el (l.sub (0 : Nat) (bif false then max (l.len : Int) (16 : Int) else min (l.len : Int) (16 : Int)).toNat) (Int.toNat (0 : Int))).fld (0 :
 Nat)).asInt (tShape (el (l.sub (0 : Nat) (bif false then max (l.len : Int) (16 : Int) else min (l.len : Int) (16 : Int)).toNat) (Int.toNat (0 : Int)))) (tA (el (l.sub (0 : Nat) (bif false then max (l.len : Int) (16 :
 Int) else min (l.len : Int) (16 : Int)).toNat) (Int.toNat (0 : Int))))), D.int (7 * 0), D.int (100 - 0)]] = madeL l y ∧ True)) ∧ (((0 : Int) < (↑(l.sub (0 : Nat) (bif false then max (l.len : Int) (16 : Int) else min
 (l.len : Int) (16 : Int)).toNat).len : Int) → False) → D.nil = madeD l)) ∧ ∀ (x : Nat), 0 < x ∧ x ≤ min l.len 16 → 16 - x < LIM ∧ ((x : Int) < (↑(l.sub (0 : Nat) (bif false then max (l.len : Int) (16 : Int) else min
 (l.len : Int) (16 : Int)).toNat).len : Int) → 0 ≤ (x : Int) ∧ (x : Int) < (↑(l.sub (0 : Nat) (bif false then max (l.len : Int) (16 : Int) else min (l.len : Int) (16 : Int)).toNat).len : Int) ∧ ((-9223372036854775808) ≤
 97 + (x : Int) ∧ 97 + (x : Int) < 9223372036854775808) ∧ 0 + 1 ≤ [D.int (IntKind.u8.wrap (97 + (x : Int)))].length ∧ byteL (List.take 1 [D.int (IntKind.u8.wrap (97 + (x : Int)))]) ∧ (byteP ((el (l.sub (0 : Nat) (bif
 false then max (l.len : Int) (16 : Int) else min (l.len : Int) (16 : Int)).toNat) x).fld (0 : Nat)).asInt ∧ byteP (tShape (el (l.sub (0 : Nat) (bif false then max (l.len : Int) (16 : Int) else min (l.len : Int) (16 :
 Int)).toNat) x)) ∧ byteP (tA (el (l.sub (0 : Nat) (bif false then max (l.len : Int) (16 : Int) else min (l.len : Int) (16 : Int)).toNat) x)) ∧ bytesP ((el (l.sub (0 : Nat) (bif false then max (l.len : Int) (16 : Int)
 else min (l.len : Int) (16 : Int)).toNat) x).fld (3 : Nat))) ∧ ((-9223372036854775808) ≤ 7 * (x : Int) ∧ 7 * (x : Int) < 9223372036854775808) ∧ ((-9223372036854775808) ≤ 100 - (x : Int) ∧ 100 - (x : Int) <
 9223372036854775808) ∧ 0 + 1 ≤ [D.sct [D.str (bytesD (List.take 1 [D.int (IntKind.u8.wrap (97 + (x : Int)))])), D.int (mSh ((el (l.sub (0 : Nat) (bif false then max (l.len : Int) (16 : Int) else min (l.len : Int) (16 :
 Int)).toNat) x).fld (0 : Nat)).asInt), D.int (mA ((el (l.sub (0 : Nat) (bif false then max (l.len : Int) (16 : Int) else min (l.len : Int) (16 : Int)).toNat) x).fld (0 : Nat)).asInt (tShape (el (l.sub (0 : Nat) (bif
 false then max (l.len : Int) (16 : Int) else min (l.len : Int) (16 : Int)).toNat) x))), D.int (mB ((el (l.sub (0 : Nat) (bif false then max (l.len : Int) (16 : Int) else min (l.len : Int) (16 : Int)).toNat) x).fld (0 :
 Nat)).asInt (tShape (el (l.sub (0 : Nat) (bif false then max (l.len : Int) (16 : Int) else min (l.len : Int) (16 : Int)).toNat) x)) (tA (el (l.sub (0 : Nat) (bif false then max (l.len : Int) (16 : Int) else min (l.len :
 Int) (16 : Int)).toNat) x))), openD ((el (l.sub (0 : Nat) (bif false then max (l.len : Int) (16 : Int) else min (l.len : Int) (16 : Int)).toNat) x).fld (3 : Nat)) (mN ((el (l.sub (0 : Nat) (bif false then max (l.len :
 Int) (16 : Int) else min (l.len : Int) (16 : Int)).toNat) x).fld (0 : Nat)).asInt (tShape (el (l.sub (0 : Nat) (bif false then max (l.len : Int) (16 : Int) else min (l.len : Int) (16 : Int)).toNat) x)) (tA (el (l.sub (0
 : Nat) (bif false then max (l.len : Int) (16 : Int) else min (l.len : Int) (16 : Int)).toNat) x))), D.int (7 * (x : Int)), D.int (100 - (x : Int))]].length ∧ 0 + x ≤ (madeL l x).length ∧ x + 1 ≤ 16777216 ∧
 ((-9223372036854775808) ≤ (x : Int) + 1 ∧ (x : Int) + 1 < 9223372036854775808) ∧ ((∃ (y : Nat), y = 0 ∧ 16 - y < 16 - x ∧ ((x : Int) + 1 = 0 ∧ False ∧ True) ∧ True) ∨ ∃ (y : Nat), (0 < y ∧ y ≤ min l.len 16) ∧ 16 - y < 16
 - x ∧ ((x : Int) + 1 = (y : Int) ∧ ((0 : Nat) = 0 ∧ x + 1 = y ∧ True) ∧ True) ∧ List.take x (madeL l x) ++ List.take 1 [D.sct [D.str (bytesD (List.take 1 [D.int (IntKind.u8.wrap (97 + (x : Int)))])), D.int (mSh ((el
 (l.sub (0 : Nat) (bif false then max (l.len : Int) (16 : Int) else min (l.len : Int) (16 : Int)).toNat) x).fld (0 : Nat)).asInt), D.int (mA ((el (l.sub (0 : Nat) (bif false then max (l.len : Int) (16 : Int) else min
 (l.len : Int) (16 : Int)).toNat) x).fld (0 : Nat)).asInt (tShape (el (l.sub (0 : Nat) (bif false then max (l.len : Int) (16 : Int) else min (l.len : Int) (16 : Int)).toNat) x))), D.int (mB ((el (l.sub (0 : Nat) (bif
 false then max (l.len : Int) (16 : Int) else min (l.len : Int) (16 : Int)).toNat) x).fld (0 : Nat)).asInt (tShape (el (l.sub (0 : Nat) (bif false then max (l.len : Int) (16 : Int) else min (l.len : Int) (16 :
 Int)).toNat) x)) (tA (el (l.sub (0 : Nat) (bif false then max (l.len : Int) (16 : Int) else min (l.len : Int) (16 : Int)).toNat) x))), openD ((el (l.sub (0 : Nat) (bif false then max (l.len : Int) (16 : Int) else min
 (l.len : Int) (16 : Int)).toNat) x).fld (3 : Nat)) (mN ((el (l.sub (0 : Nat) (bif false then max (l.len : Int) (16 : Int) else min (l.len : Int) (16 : Int)).toNat) x).fld (0 : Nat)).asInt (tShape (el (l.sub (0 : Nat)
 (bif false then max (l.len : Int) (16 : Int) else min (l.len : Int) (16 : Int)).toNat) x)) (tA (el (l.sub (0 : Nat) (bif false then max (l.len : Int) (16 : Int) else min (l.len : Int) (16 : Int)).toNat) x))), D.int (7 *
 (x : Int)), D.int (100 - (x : Int))]] = madeL l y ∧ True)) ∧ (((x : Int) < (↑(l.sub (0 : Nat) (bif false then max (l.len : Int) (16 : Int) else min (l.len : Int) (16 : Int)).toNat).len : Int) → False) → 0 + x ≤ (madeL l
 x).length ∧ D.list (List.take x (madeL l x)) = madeD l)) := by intros; kernel_rfl
theorem vc55 : ∀ (l : D), symFun (ctx num1 numAnn) 5 (55 : FuncId) [V.dat (22 : TypeId) l] (V.int IntKind.i64 (countZ l)) = (smallD l ∧ ((okHall l → False) → 0 = countZ l) ∧ (((okHall l → False) → False) → (0 ≤ (l.len :
 Int) ∧ (l.len : Int) ≤ (l.len : Int) ∧ seatedD l) ∧ sumZ l l.len = countZ l)) := by intros; kernel_rfl
theorem vc52 : ∀ (l : D) (t : Int), symFun (ctx num1 numAnn) 5 (52 : FuncId) [V.dat (22 : TypeId) l, V.int IntKind.i64 t] (V.int IntKind.i64 (firstZ l t)) = ((0 ≤ t → (t < (l.len : Int) → smallD l ∧ ((okHall l → False) →
 0 = firstZ l t) ∧ (((okHall l → False) → False) → (0 ≤ t ∧ t ≤ (l.len : Int) ∧ seatedD l) ∧ sumZ l t.toNat = firstZ l t)) ∧ ((t < (l.len : Int) → False) → 0 = firstZ l t)) ∧ ((0 ≤ t → False) → 0 = firstZ l t)) := by intros; kernel_rfl
theorem vc57 : ∀ (l : D) (s : List UInt8), symFun (ctx num1 numAnn) 5 (57 : FuncId) [V.dat (22 : TypeId) l, V.str s] (V.tup [V.int IntKind.i64 (findZ l s), V.prop (foundP l s)]) = (smallD l ∧ ((okHall l → False) → 0 =
 findZ l s ∧ (false = true ↔ foundP l s) ∧ True) ∧ (((okHall l → False) → False) → l.len ≤ 100 ∧ (0 ≤ idxZ l s l.len 0 → idxZ l s l.len 0 = findZ l s ∧ (true = true ↔ foundP l s) ∧ True) ∧ ((0 ≤ idxZ l s l.len 0 → False)
 → 0 = findZ l s ∧ (false = true ↔ foundP l s) ∧ True))) := by intros; kernel_rfl
theorem vc56 : ∀ (l : D) (n : Int), symFun (ctx num1 numAnn) 5 (56 : FuncId) [V.dat (22 : TypeId) l, V.int IntKind.i64 n] (V.tup [V.int IntKind.i64 (whereT l n), V.int IntKind.i64 (whereK l n), V.prop (whereP l n)]) =
 (((n < 0 → False) → smallD l ∧ ((okHall l → False) → 0 = whereT l n ∧ 0 = whereK l n ∧ (false = true ↔ whereP l n) ∧ True) ∧ (((okHall l → False) → False) → (∃ (x : Nat × Int), (x.fst ≤ l.len ∧ 0 ≤ x.snd ∧ x.snd ≤ n ∧
 whereZ l (l.len - x.fst) x.fst x.snd = whereZ l l.len 0 n) ∧ (0 = (x.fst : Int) ∧ n = x.snd ∧ True) ∧ True) ∧ ∀ (x : Nat × Int), x.fst ≤ l.len ∧ 0 ≤ x.snd ∧ x.snd ≤ n ∧ whereZ l (l.len - x.fst) x.fst x.snd = whereZ l
 l.len 0 n → l.len - x.fst < LIM ∧ ((x.fst : Int) < (l.len : Int) → 0 ≤ (x.fst : Int) ∧ (x.fst : Int) < (l.len : Int) ∧ (sizeT' (el l x.fst) = 0 → False) ∧ (x.snd < sizeT' (el l x.fst) → (x.fst : Int) = whereT l n ∧ x.snd
 = whereK l n ∧ (true = true ↔ whereP l n) ∧ True) ∧ ((x.snd < sizeT' (el l x.fst) → False) → ((-9223372036854775808) ≤ x.snd - sizeT' (el l x.fst) ∧ x.snd - sizeT' (el l x.fst) < 9223372036854775808) ∧
 ((-9223372036854775808) ≤ (x.fst : Int) + 1 ∧ (x.fst : Int) + 1 < 9223372036854775808) ∧ ∃ (y : Nat × Int), (y.fst ≤ l.len ∧ 0 ≤ y.snd ∧ y.snd ≤ n ∧ whereZ l (l.len - y.fst) y.fst y.snd = whereZ l l.len 0 n) ∧ l.len -
 y.fst < l.len - x.fst ∧ ((x.fst : Int) + 1 = (y.fst : Int) ∧ x.snd - sizeT' (el l x.fst) = y.snd ∧ True) ∧ True)) ∧ (((x.fst : Int) < (l.len : Int) → False) → 0 = whereT l n ∧ 0 = whereK l n ∧ (false = true ↔ whereP l n)
 ∧ True))) ∧ (n < 0 → 0 = whereT l n ∧ 0 = whereK l n ∧ (false = true ↔ whereP l n) ∧ True)) := by intros; kernel_rfl
theorem mSh_lim {sh : Int} (h : byteP sh) : 1 ≤ mSh sh ∧ mSh sh ≤ 4 := by
  have := h.out
  have h1 := Int.tmod_nonneg 4 this.1
  have h2 := Int.tmod_lt_of_pos sh (show (0 : Int) < 4 by decide)
  unfold mSh; omega
theorem made_size {sh a b : Int} (hs : byteP sh) (ha : byteP a) (hb : byteP b) : sizeZ (mSh sh) (mA sh a) (mB sh a b) = mN sh a b ∧ 1 ≤ mN sh a b ∧ mN sh a b ≤ 24 := by
  have h := mSh_lim hs
  have ha := ha.out
  have hb := hb.out
  have t1 : ∀ m : Int, 0 < m → 0 ≤ a.tmod m ∧ a.tmod m < m := fun m hm => ⟨Int.tmod_nonneg m ha.1, Int.tmod_lt_of_pos a hm⟩
  have t2 : ∀ m : Int, 0 < m → 0 ≤ b.tmod m ∧ b.tmod m < m := fun m hm => ⟨Int.tmod_nonneg m hb.1, Int.tmod_lt_of_pos b hm⟩
  have a24 := t1 24 (by decide)
  have a11 := t1 11 (by decide)
  have a8 := t1 8 (by decide)
  have b8 := t2 8 (by decide)
  have b3 := t2 3 (by decide)
  have bA := t2 (1 + a.tmod 24 + 1) (by omega)
  rcases (by omega : mSh sh = 1 ∨ mSh sh = 2 ∨ mSh sh = 3 ∨ mSh sh = 4) with e | e | e | e
  · have eA : mA sh a = 1 + a.tmod 24 := by unfold mA; rw [if_pos e]
    have eB : mB sh a b = 0 := by unfold mB; rw [if_pos e]
    have eN : mN sh a b = 1 + a.tmod 24 := by unfold mN; rw [if_pos e, eA]
    rw [eN, eA, eB, e]; unfold sizeZ; rw [if_pos ⟨rfl, by omega, rfl⟩]; omega
  · have e1 : ¬ mSh sh = 1 := by omega
    have eA : mA sh a = 1 + a.tmod 11 := by unfold mA; rw [if_neg e1, if_pos e]
    have eB : mB sh a b = b.tmod 3 := by unfold mB; rw [if_neg e1, if_pos e]
    have eN : mN sh a b = 2 * (1 + a.tmod 11) + b.tmod 3 := by unfold mN; rw [if_neg e1, if_pos e, eA, eB]
    rw [eN, eA, eB, e]; unfold sizeZ; rw [if_neg (by omega), if_pos ⟨rfl, by omega, by omega, by omega⟩]; omega
  · have e1 : ¬ mSh sh = 1 := by omega
    have e2 : ¬ mSh sh = 2 := by omega
    have eA : mA sh a = 1 + a.tmod 8 := by unfold mA; rw [if_neg e1, if_neg e2, if_pos e]
    have eB : mB sh a b = 1 + b.tmod 8 := by unfold mB; rw [if_neg e1, if_neg e2, if_pos e]
    have eN : mN sh a b = 1 + a.tmod 8 + 2 * (1 + b.tmod 8) := by unfold mN; rw [if_neg e1, if_neg e2, if_pos e, eA, eB]
    rw [eN, eA, eB, e]; unfold sizeZ; rw [if_neg (by omega), if_neg (by omega), if_pos ⟨rfl, by omega, by omega, by omega⟩]; omega
  · have e1 : ¬ mSh sh = 1 := by omega
    have e2 : ¬ mSh sh = 2 := by omega
    have e3 : ¬ mSh sh = 3 := by omega
    have eA : mA sh a = 1 + a.tmod 24 := by unfold mA; rw [if_neg e1, if_neg e2, if_neg e3]
    have eB : mB sh a b = b.tmod (1 + a.tmod 24 + 1) := by unfold mB; rw [if_neg e1, if_neg e2, if_neg e3]
    have eN : mN sh a b = 1 + a.tmod 24 := by unfold mN; rw [if_neg e1, if_neg e2, if_neg e3, eA]
    rw [eN, eA, eB, e]; unfold sizeZ; rw [if_neg (by omega), if_neg (by omega), if_neg (by omega), if_pos ⟨rfl, by omega, by omega, by omega⟩]; omega
theorem listD_as (l : List D) : (listD l).asList = l := by cases l <;> rfl
theorem open_rising {o : D} {n : Int} (hn : 0 < n) (ho : bytesP o) : risingP (openD o n) n ∧ (openD o n).len ≤ 24 := by
  have hx : min o.len 24 ≤ o.len := Nat.min_le_left _ _
  have h1 : (openZ o n).Pairwise (· < ·) := (sorted_rises (openI o n (min o.len 24))).1
  have h2 : ∀ y ∈ openZ o n, y ∈ openI o n (min o.len 24) := (sorted_rises (openI o n (min o.len 24))).2
  have hlen : (openD o n).len = (openZ o n).length := by
    show (listD _).asList.length = _
    rw [listD_as, List.length_map]
  have hat : ∀ i (h : i < (openZ o n).length), atI (openD o n) i = (openZ o n)[i] := fun i h => by
    show (nthD (listD _).asList i).asInt = _
    rw [listD_as]; unfold nthD
    rw [List.getElem?_map, List.getElem?_eq_getElem h]; rfl
  refine ⟨⟨fun i hi => ?_⟩, ?_⟩
  · rw [hlen] at hi
    have hm : (openZ o n)[i] ∈ openI o n (min o.len 24) := h2 _ (List.getElem_mem hi)
    obtain ⟨j, hj, e⟩ := List.mem_map.1 hm
    have e : (atI o j).tmod n = (openZ o n)[i] := e
    have hb := ho.out j (by have := List.mem_range.1 hj; omega)
    have e1 := Int.tmod_nonneg n hb.1
    have e2 := Int.tmod_lt_of_pos (atI o j) hn
    rw [hat i hi]
    refine ⟨by omega, by omega, fun h0 => ?_⟩
    rw [hat (i - 1) (by omega)]
    exact List.pairwise_iff_getElem.1 h1 (i - 1) i (by omega) hi (by omega)
  · rw [hlen]
    have : (openZ o n).length ≤ ((openI o n (min o.len 24)).mergeSort fun x y => decide (x ≤ y)).length := compact_le _
    rw [len_srt] at this; omega
theorem letter_name {i : Nat} (h : i < 16) : nameP (letter i) := ⟨⟨by simp [letter], by simp [letter], fun k hk => by
  have hk0 : k = 0 := by simp [letter] at hk; omega
  subst hk0
  rcases (by omega : i = 0 ∨ i = 1 ∨ i = 2 ∨ i = 3 ∨ i = 4 ∨ i = 5 ∨ i = 6 ∨ i = 7 ∨ i = 8 ∨ i = 9 ∨ i = 10 ∨ i = 11 ∨ i = 12 ∨ i = 13 ∨ i = 14 ∨ i = 15) with e | e | e | e | e | e | e | e | e | e | e | e | e | e | e | e <;> subst e <;> decide⟩⟩
theorem letter_inj {i j : Nat} (hi : i < 16) (hj : j < 16) (h : letter i = letter j) : i = j := by
  unfold letter at h
  have h := (List.cons.inj h).1
  have h2 : (UInt8.ofNat (97 + i)).toNat = (UInt8.ofNat (97 + j)).toNat := by rw [h]
  simp [UInt8.toNat_ofNat'] at h2
  omega
theorem made_err {c : D} {i : Nat} (h : codeP c) (hi : i < 16) : errT (madeRow c i) = 0 ∧ sizeT' (madeRow c i) = mN (cSh c) (cA c) (cB c) ∧ (tOpen (madeRow c i)).len ≤ 24 := by
  obtain ⟨h1, h2, h3, h4⟩ := h.out
  obtain ⟨e, e1, e2⟩ := made_size h1 h2 h3
  obtain ⟨r1, r2⟩ := open_rising (n := mN (cSh c) (cA c) (cB c)) (by omega) h4
  refine ⟨?_, e, r2⟩
  show errZ (letter i) (mSh (cSh c)) (mA (cSh c) (cA c)) (mB (cSh c) (cA c) (cB c)) (openD (cO c) (mN (cSh c) (cA c) (cB c))) (7 * i) (100 - i) = 0
  unfold errZ
  rw [if_neg (fun hn => hn (letter_name hi)), e, if_neg (by omega), if_neg (fun hn => hn r1), if_neg (fun hn => hn (by unfold placeP; omega))]
theorem made_len (l : D) : (madeD l).len = min l.len 16 := by
  show (listD _).asList.length = _
  rw [listD_as]; simp [madeL]
theorem made_el (l : D) {i : Nat} (h : i < min l.len 16) : el (madeD l) i = madeRow (el l i) i := by
  show nthD (listD _).asList i = _
  rw [listD_as]; unfold nthD madeL
  rw [List.getElem?_map, List.getElem?_range h]; rfl
theorem scan_zero (l : D) (h : ∀ k, k < l.len → err1 l k = 0) : ∀ f i, i + f ≤ l.len → scanZ l f i = (0, 0)
  | 0, _, _ => rfl
  | f + 1, i, hf => by
    unfold scanZ
    rw [if_neg (fun hn => hn (h i (by omega)))]
    exact scan_zero l h f (i + 1) (by omega)
theorem made_ok {l : D} (h : codesP l) : okHall (madeD l) := ⟨by
  have hl := made_len l
  unfold badZ
  rw [if_neg (by omega), scan_zero (madeD l) (fun k hk => ?_) _ 0 (by omega)]
  rw [hl] at hk
  refine err1_ok ?_ fun ⟨j, hj, e⟩ => ?_
  · rw [made_el l hk]; exact (made_err (h.out k (by omega)) (by omega)).1
  · rw [made_el l hk, made_el l (by omega)] at e
    have := letter_inj (show j < 16 by omega) (show k < 16 by omega) e
    omega⟩
theorem made_small {l : D} (h : codesP l) : smallD (madeD l) := ⟨by rw [made_len]; omega, fun i hi => by
  rw [made_len] at hi
  rw [made_el l hi]
  have := (made_err (h.out i (by omega)) (show i < 16 by omega)).2.2
  omega⟩
theorem s113 (l : D) (h : smallD l) : symFun (ctx chk3 numAnn) 5 113 [.dat 22 l] (.prop (okHall l)) := by
  rw [vc113]
  exact ⟨h, fun h => ⟨h⟩, fun h => h.out⟩
theorem s50 (nm : List UInt8) (sh a b : Int) (o : D) (x y : Int) (h : o.len ≤ 100) : symFun (ctx chk3 numAnn) 5 50 [.agg [.str nm, .int .u8 sh, .int .i64 a, .int .i64 b, .dat 29 o, .int .i64 x, .int .i64 y]] (.int .i64 (seatsZ nm sh a b o x y)) := by
  rw [vc50]
  simp only [imp_false, Classical.not_not]
  refine ⟨h, fun he => by unfold seatsZ; rw [if_neg he], fun he => ⟨fun hz => ?_, by unfold seatsZ; rw [if_pos he]⟩⟩
  by_cases hn : nameP nm
  · rw [err_shape hn hz] at he; omega
  · rw [err_name hn] at he; omega
theorem madeL_len (l : D) (x : Nat) : (madeL l x).length = x := by simp [madeL]
theorem madeL_succ (l : D) (x : Nat) : madeL l (x + 1) = madeL l x ++ [madeRow (el l x) x] := by unfold madeL; rw [List.range_succ, List.map_append]; rfl
theorem wrap8 {n : Int} (h1 : 0 ≤ n) (h2 : n < 256) : IntKind.u8.wrap n = n := by
  simp only [IntKind.wrap, IntKind.bits, IntKind.signed, Bool.false_and, Bool.false_eq_true, if_false]
  omega
theorem byteL_one {n : Int} (h1 : 0 ≤ n) (h2 : n < 256) : byteL [D.int n] := ⟨fun d hd => ⟨n.toNat, by omega, by rw [List.mem_singleton.1 hd]; congr 1; omega⟩⟩
theorem bytes_one (x : Nat) : bytesD [D.int (97 + (x : Int))] = letter x := by
  unfold bytesD letter
  simp only [List.map_cons, List.map_nil, D.asInt]
  congr 2
theorem take_one {α : Type} (a : α) : List.take 1 [a] = [a] := rfl
theorem s49 (l : D) (h : codesP l) : symFun (ctx num1 numAnn) 5 49 [.dat 65 l] (.dat 22 (madeD l)) := by
  rw [vc49]
  have hq : (min (↑l.len : Int) 16).toNat = min l.len 16 := by omega
  have hsl : (l.sub 0 (min l.len 16)).len = min l.len 16 := sub_len _ _ (by omega)
  simp only [cond_false, hq, hsl, imp_false, take_one, List.length_singleton, madeL_len, and_true, true_and, and_false, false_and, or_false, false_or, exists_false, List.take_of_length_le (Nat.le_of_eq (madeL_len l _))]
  refine ⟨by omega, by omega, by omega, ⟨0, rfl⟩, fun x hx0 => ?_, fun x hx => ?_⟩
  · subst hx0
    refine ⟨by unfold LIM; omega, fun hlt => ?_, fun hge => ?_⟩
    · have hc := (h.out 0 (by omega)).out
      rw [show Int.toNat 0 = 0 from rfl, sub_el _ _ _ (show 0 < min l.len 16 by omega), wrap8 (by omega) (by omega)]
      exact ⟨by omega, hlt, by omega, by omega, byteL_one (by omega) (by omega), hc, by omega, by omega, by omega, by omega, by omega, 1, by omega, by omega, ⟨by omega, rfl⟩, rfl⟩
    · unfold madeD
      rw [show min l.len 16 = 0 by omega]; rfl
  · refine ⟨by unfold LIM; omega, fun hlt => ?_, fun hge => ?_⟩
    · have hc := (h.out x (by omega)).out
      rw [sub_el _ _ _ (show x < min l.len 16 by omega), wrap8 (by omega) (by omega), bytes_one]
      exact ⟨by omega, hlt, by omega, by omega, byteL_one (by omega) (by omega), hc, by omega, by omega, by omega, by omega, by omega, by omega, x + 1, by omega, by omega, ⟨by omega, rfl⟩, (madeL_succ l x).symm⟩
    · refine ⟨by omega, ?_⟩
      have e : x = min l.len 16 := by omega
      unfold madeD
      rw [← e, listD_ne fun hn => ?_]
      have := madeL_len l x
      rw [hn] at this
      simp at this; omega
theorem sum_le (l : D) {i j : Nat} (h : i ≤ j) : sumZ l i ≤ sumZ l j := by
  induction j with
  | zero => rw [show i = 0 by omega]; exact Int.le_refl _
  | succ j ih =>
    rcases Nat.eq_or_lt_of_le h with e | e
    · rw [e]; exact Int.le_refl _
    · have := ih (by omega)
      have := (size_lim2 (el l j)).1
      show sumZ l i ≤ sumZ l j + sizeT' (el l j)
      omega
theorem where_at (l : D) {j : Nat} {k : Int} (hk : 0 ≤ k) (hk2 : k < sizeT' (el l j)) : ∀ f i, i ≤ j → j < i + f → whereZ l f i (sumZ l j - sumZ l i + k) = some ((j : Int), k)
  | 0, i, h1, h2 => by omega
  | f + 1, i, h1, h2 => by
    unfold whereZ
    rcases Nat.eq_or_lt_of_le h1 with e | e
    · subst e
      rw [if_pos (by omega)]
      congr 2; omega
    · have h3 := sum_le l (show i + 1 ≤ j by omega)
      have h4 : sumZ l (i + 1) = sumZ l i + sizeT' (el l i) := rfl
      rw [if_neg (by omega)]
      have := where_at l hk hk2 f (i + 1) (by omega) (by omega)
      rw [← this]; congr 1; omega
theorem ok_seated {l : D} (hs : smallD l) (h : okHall l) : seatedD l := ⟨hs.out.1, fun i hi => err_size (bad_ok h.out i hi).1⟩
theorem s55 (l : D) (h : smallD l) : symFun (ctx num1 numAnn) 5 55 [.dat 22 l] (.int .i64 (countZ l)) := by
  rw [vc55]
  simp only [imp_false, Classical.not_not]
  exact ⟨h, fun hn => by unfold countZ; rw [if_neg hn], fun ho => ⟨⟨by omega, by omega, ok_seated h ho⟩, by unfold countZ; rw [if_pos ho]⟩⟩
theorem s52 (l : D) (t : Int) (h : smallD l) : symFun (ctx num1 numAnn) 5 52 [.dat 22 l, .int .i64 t] (.int .i64 (firstZ l t)) := by
  rw [vc52]
  simp only [imp_false, Classical.not_not]
  have no : ¬ ((0 ≤ t ∧ t < l.len) ∧ okHall l) → 0 = firstZ l t := fun hn => by unfold firstZ; rw [if_neg hn]
  refine ⟨fun h0 => ⟨fun h1 => ⟨h, fun hn => no fun hh => hn hh.2, fun ho => ⟨⟨h0, by omega, ok_seated h ho⟩, by unfold firstZ; rw [if_pos ⟨⟨h0, h1⟩, ho⟩]⟩⟩, fun h1 => no fun hh => h1 hh.1.2⟩, fun h0 => no fun hh => h0 hh.1.1⟩
theorem s57 (l : D) (s : List UInt8) (h : smallD l) : symFun (ctx num1 numAnn) 5 57 [.dat 22 l, .str s] (.tup [.int .i64 (findZ l s), .prop (foundP l s)]) := by
  rw [vc57]
  simp only [imp_false, Classical.not_not, and_true]
  have no : ¬ foundP l s → 0 = findZ l s ∧ (false = true ↔ foundP l s) := fun hn => ⟨by unfold findZ; rw [if_neg hn], fun h => by simp at h, fun h => absurd h hn⟩
  have yes : foundP l s → idxZ l s l.len 0 = findZ l s ∧ (True ↔ foundP l s) := fun hn => ⟨by unfold findZ; rw [if_pos hn], fun _ => hn, fun _ => trivial⟩
  exact ⟨h, fun hn => no fun hh => hn hh.out.1, fun ho => ⟨h.out.1, fun hi => yes ⟨⟨ho, hi⟩⟩, fun hi => no fun hh => hi hh.out.2⟩⟩
theorem s56 (l : D) (n : Int) (h : smallD l) (hn : -9223372036854775808 ≤ n ∧ n < 9223372036854775808) : symFun (ctx num1 numAnn) 5 56 [.dat 22 l, .int .i64 n] (.tup [.int .i64 (whereT l n), .int .i64 (whereK l n), .prop (whereP l n)]) := by
  rw [vc56]
  simp only [imp_false, Classical.not_not, and_true]
  have no : whereO l n = none → 0 = whereT l n ∧ 0 = whereK l n ∧ (false = true ↔ whereP l n) := fun e => ⟨by unfold whereT; rw [e]; rfl, by unfold whereK; rw [e]; rfl, fun h => by simp at h, fun h => absurd e h.out⟩
  have yes : ∀ t k, whereO l n = some (t, k) → t = whereT l n ∧ k = whereK l n ∧ (True ↔ whereP l n) := fun t k e => ⟨by unfold whereT; rw [e]; rfl, by unfold whereK; rw [e]; rfl, fun _ => ⟨by rw [e]; simp⟩, fun _ => trivial⟩
  have hlen := h.out.1
  refine ⟨fun h0 => ⟨h, fun ho => no (by unfold whereO; rw [if_pos (.inr ho)]), fun ho => ⟨⟨(0, n), ⟨by simp, by show 0 ≤ n; omega, Int.le_refl _, rfl⟩, rfl, rfl⟩, fun x ⟨h1, h2, h3, h4⟩ => ⟨by unfold LIM; omega, fun hlt => ?_, fun hge => no ?_⟩⟩⟩, fun h0 => no (by unfold whereO; rw [if_pos (.inl h0)])⟩
  · have hO : whereO l n = whereZ l (l.len - x.1) x.1 x.2 := by unfold whereO; rw [if_neg (fun hh => by rcases hh with hh | hh; exact h0 hh; exact hh ho), h4]
    have hz : l.len - x.1 = (l.len - (x.1 + 1)) + 1 := by omega
    have hsz := size_lim2 (el l x.1)
    refine ⟨by omega, hlt, (ok_seated h ho).out.2 x.1 (by omega), fun hk => yes _ _ ?_, fun hk => ⟨by omega, by omega, (x.1 + 1, x.2 - sizeT' (el l x.1)), ⟨by show x.1 + 1 ≤ l.len; omega, by show 0 ≤ x.2 - sizeT' (el l x.1); omega, by show x.2 - sizeT' (el l x.1) ≤ n; omega, ?_⟩, by show l.len - (x.1 + 1) < _; omega, by show _ = ((x.1 + 1 : Nat) : Int); omega, rfl⟩⟩
    · rw [hO, hz]; unfold whereZ; rw [if_pos hk]
    · rw [← h4, hz]
      show whereZ l (l.len - (x.1 + 1)) (x.1 + 1) (x.2 - sizeT' (el l x.1)) = whereZ l (l.len - (x.1 + 1) + 1) x.1 x.2
      rw [show whereZ l (l.len - (x.1 + 1) + 1) x.1 x.2 = if x.2 < sizeT' (el l x.1) then some ((x.1 : Int), x.2) else whereZ l (l.len - (x.1 + 1)) (x.1 + 1) (x.2 - sizeT' (el l x.1)) from rfl, if_neg hk]
  · unfold whereO
    rw [if_neg (fun hh => by rcases hh with hh | hh; exact h0 hh; exact hh ho), ← h4, show l.len - x.1 = 0 by omega]; rfl
open Classical in
theorem v108 : ∀ d, 10 ≤ d → VC d 108 con108 := fun d hd us p r hc hp => by
  have hc0 := hc
  unfold con108 at hc; split at hc
  · rename_i sh a b o nm
    exact valid_of_sym (C := ctx (fun _ => none) (annMade nm o)) (G := GC) (B := 2) (m := 3) (g := 108) (c := fun us => if us = [.agg [.int .u8 sh, .int .u8 a, .int .u8 b, .dat 39 o], .str nm] then con108 us else none) rfl rfl rfl (fun _ _ _ _ h => by cases h) (fun us p r hc hp ht => by
      split at hc
      · rename_i e; subst e
        have hc2 : some (byteP sh ∧ byteP a ∧ byteP b ∧ bytesP o, V.agg [.str nm, .int .u8 (mSh sh), .int .i64 (mA sh a), .int .i64 (mB sh a b), .dat 29 (openD o (mN sh a b)), .int .i64 0, .int .i64 0]) = some (p, r) := hc
        cases hc2; exact s108 nm sh a b o hp.1 hp.2.1 hp.2.2.1 hp.2.2.2
      · cases hc) (fun _ _ => rfl) rfl rfl d (by omega) _ p r (by show (if _ then _ else _) = _; rw [if_pos rfl]; exact hc0) hp
  · cases hc
theorem v113 : ∀ d, 20 ≤ d → VC d 113 con113 := fun d hd =>
  valid_of_sym (C := ctx chk3 numAnn) (G := GC) (B := 15) (m := 5) rfl rfl rfl vk3 (fun us p r hc hp ht => by
    unfold con113 at hc; split at hc
    · cases hc; exact s113 _ hp
    · cases hc) (fun _ _ => rfl) rfl rfl d hd
theorem v50 : ∀ d, 20 ≤ d → VC d 50 con50 := fun d hd =>
  valid_of_sym (C := ctx chk3 numAnn) (G := GC) (B := 15) (m := 5) rfl rfl rfl vk3 (fun us p r hc hp ht => by
    unfold con50 at hc; split at hc
    · cases hc; exact s50 _ _ _ _ _ _ _ hp
    · cases hc) (fun _ _ => rfl) rfl rfl d hd
theorem vn1 : ∀ d, 20 ≤ d → ∀ g c, num1 g = some c → VC d g c := fun d hd g c h => by
  unfold num1 at h
  split at h
  · cases h; exact v108 d (by omega)
  · cases h; exact v113 d hd
  · cases h; exact v50 d hd
  · exact vk3 d (by omega) _ c h
theorem v49 : ∀ d, 25 ≤ d → VC d 49 con49 := fun d hd =>
  valid_of_sym (C := ctx num1 numAnn) (G := GC) (B := 20) (m := 5) rfl rfl rfl vn1 (fun us p r hc hp ht => by
    unfold con49 at hc; split at hc
    · cases hc; exact s49 _ hp
    · cases hc) (fun _ _ => rfl) rfl rfl d hd
theorem v55 : ∀ d, 25 ≤ d → VC d 55 con55 := fun d hd =>
  valid_of_sym (C := ctx num1 numAnn) (G := GC) (B := 20) (m := 5) rfl rfl rfl vn1 (fun us p r hc hp ht => by
    unfold con55 at hc; split at hc
    · cases hc; exact s55 _ hp
    · cases hc) (fun _ _ => rfl) rfl rfl d hd
theorem v52 : ∀ d, 25 ≤ d → VC d 52 con52 := fun d hd =>
  valid_of_sym (C := ctx num1 numAnn) (G := GC) (B := 20) (m := 5) rfl rfl rfl vn1 (fun us p r hc hp ht => by
    unfold con52 at hc; split at hc
    · cases hc; exact s52 _ _ hp
    · cases hc) (fun _ _ => rfl) rfl rfl d hd
theorem v57 : ∀ d, 25 ≤ d → VC d 57 con57 := fun d hd =>
  valid_of_sym (C := ctx num1 numAnn) (G := GC) (B := 20) (m := 5) rfl rfl rfl vn1 (fun us p r hc hp ht => by
    unfold con57 at hc; split at hc
    · cases hc; exact s57 _ _ hp
    · cases hc) (fun _ _ => rfl) rfl rfl d hd
theorem v56 : ∀ d, 25 ≤ d → VC d 56 con56 := fun d hd =>
  valid_of_sym (C := ctx num1 numAnn) (G := GC) (B := 20) (m := 5) rfl rfl rfl vn1 (fun us p r hc hp ht => by
    unfold con56 at hc; split at hc
    · cases hc; exact s56 _ _ hp.1 hp.2.out
    · cases hc) (fun _ _ => rfl) rfl rfl d hd
theorem vn2 : ∀ d, 25 ≤ d → ∀ g c, num2 g = some c → VC d g c := fun d hd g c h => by
  unfold num2 at h
  split at h
  · cases h; exact v49 d hd
  · cases h; exact v55 d hd
  · cases h; exact valid_ext (v52 d hd)
  · cases h; exact valid_ext (v57 d hd)
  · cases h; exact valid_ext (v56 d hd)
  · exact vn1 d (by omega) _ c h
end Go.Ev

end
