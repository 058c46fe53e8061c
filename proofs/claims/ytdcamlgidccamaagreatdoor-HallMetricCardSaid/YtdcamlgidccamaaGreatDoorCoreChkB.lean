/-
  Part of the engine that the claim is proved with: it states nothing of the document by itself.
-/
import Derived.Test.YtdcamlgidccamaaGreatDoorCoreChkA
import Derived.Test.YtdcamlgidccamaaGreatDoorCoreChkDefs

open Go.Proofs
namespace Go.Ev
set_option maxRecDepth 100000
theorem vc66 : ∀ (l : D), symFun (ctx chk2 chkAnn) 5 (66 : FuncId) [V.dat (22 : TypeId) l] (V.dat (22 : TypeId) (copyD l)) = (((∃ (x : Nat), x = 0 ∧ ((0 : Int) = 0 ∧ True ∧ True) ∧ True) ∨ ∃ (x : Nat), (0 < x ∧ x ≤
 l.len) ∧ (0 = (x : Int) ∧ False ∧ True) ∧ False ∧ True) ∧ (∀ (x : Nat), x = 0 → l.len - x < LIM ∧ (0 < (l.len : Int) → (0 : Int) ≤ 0 ∧ 0 < (l.len : Int) ∧ ((tOpen (el l (Int.toNat 0))).isNil → 0 + 1 ≤ [D.int (-7)].length
 ∧ (1 : Nat) ≤ 16777216 ∧ (0 : Int) ≤ 0 ∧ 0 ≤ (↑(tOpen (el l (Int.toNat 0))).len : Int) ∧ ((↑(1 : Nat) : Int) - (↑(tOpen (el l (Int.toNat 0))).len : Int)).NonNeg ∧ 0 + 0 + (tOpen (el l (Int.toNat 0))).len ≤ (List.take 1
 [D.int (-7)]).length ∧ 0 + 1 ≤ [D.sct [D.str (tName (el l (Int.toNat 0))), D.int (tShape (el l (Int.toNat 0))), D.int (tA (el l (Int.toNat 0))), D.int (tB (el l (Int.toNat 0))), D.list (List.take (tOpen (el l (Int.toNat
 0))).len (List.drop (0 + 0) (List.take 1 [D.int (-7)]))), D.int (tX (el l (Int.toNat 0))), D.int (tY (el l (Int.toNat 0)))]].length ∧ (1 : Nat) ≤ 16777216 ∧ ((-9223372036854775808 : Int) ≤ 0 + 1 ∧ (0 : Int) + 1 <
 9223372036854775808) ∧ ((∃ (y : Nat), y = 0 ∧ l.len - y < l.len - x ∧ ((0 : Int) + 1 = 0 ∧ False ∧ True) ∧ True) ∨ ∃ (y : Nat), (0 < y ∧ y ≤ l.len) ∧ l.len - y < l.len - x ∧ (0 + 1 = (y : Int) ∧ ((0 : Nat) = 0 ∧ 1 = y ∧
 True) ∧ True) ∧ List.take 1 [D.sct [D.str (tName (el l (Int.toNat 0))), D.int (tShape (el l (Int.toNat 0))), D.int (tA (el l (Int.toNat 0))), D.int (tB (el l (Int.toNat 0))), D.list (List.take (tOpen (el l (Int.toNat
 0))).len (List.drop (0 + 0) (List.take 1 [D.int (-7)]))), D.int (tX (el l (Int.toNat 0))), D.int (tY (el l (Int.toNat 0)))]] = copyL l y ∧ True)) ∧ (((tOpen (el l (Int.toNat 0))).isNil → False) → ((tOpen (el l (Int.toNat
 0))).len = 0 → 0 + 1 ≤ [D.int (-7)].length ∧ 0 + 0 ≤ ([] : List D).length ∧ (0 : Nat) + 1 ≤ 16777216 ∧ (0 : Int) ≤ 0 ∧ 0 ≤ (↑(tOpen (el l (Int.toNat 0))).len : Int) ∧ ((↑(0 + 1) : Int) - (↑(tOpen (el l (Int.toNat
 0))).len : Int)).NonNeg ∧ 0 + 0 + (tOpen (el l (Int.toNat 0))).len ≤ (List.take 0 ([] : List D) ++ List.take 1 [D.int (-7)]).length ∧ 0 + 1 ≤ [D.sct [D.str (tName (el l (Int.toNat 0))), D.int (tShape (el l (Int.toNat
 0))), D.int (tA (el l (Int.toNat 0))), D.int (tB (el l (Int.toNat 0))), D.list (List.take (tOpen (el l (Int.toNat 0))).len (List.drop (0 + 0) (List.take 0 ([] : List D) ++ List.take 1 [D.int (-7)]))), D.int (tX (el l
 (Int.toNat 0))), D.int (tY (el l (Int.toNat 0)))]].length ∧ (1 : Nat) ≤ 16777216 ∧ ((-9223372036854775808 : Int) ≤ 0 + 1 ∧ (0 : Int) + 1 < 9223372036854775808) ∧ ((∃ (y : Nat), y = 0 ∧ l.len - y < l.len - x ∧ ((0 : Int)
 + 1 = 0 ∧ False ∧ True) ∧ True) ∨ ∃ (y : Nat), (0 < y ∧ y ≤ l.len) ∧ l.len - y < l.len - x ∧ (0 + 1 = (y : Int) ∧ ((0 : Nat) = 0 ∧ 1 = y ∧ True) ∧ True) ∧ List.take 1 [D.sct [D.str (tName (el l (Int.toNat 0))), D.int
 (tShape (el l (Int.toNat 0))), D.int (tA (el l (Int.toNat 0))), D.int (tB (el l (Int.toNat 0))), D.list (List.take (tOpen (el l (Int.toNat 0))).len (List.drop (0 + 0) (List.take 0 ([] : List D) ++ List.take 1 [D.int
 (-7)]))), D.int (tX (el l (Int.toNat 0))), D.int (tY (el l (Int.toNat 0)))]] = copyL l y ∧ True)) ∧ (0 < (tOpen (el l (Int.toNat 0))).len → 0 + 0 ≤ ([] : List D).length ∧ 0 + (tOpen (el l (Int.toNat 0))).len ≤ 16777216 ∧
 (0 + (tOpen (el l (Int.toNat 0))).len ≤ 0 → 0 + 0 + (tOpen (el l (Int.toNat 0))).len ≤ ([] : List D).length ∧ 0 + 1 ≤ [D.int (-7)].length ∧ 0 + (tOpen (el l (Int.toNat 0))).len ≤ (List.take (0 + 0) [] ++ (tOpen (el l
 (Int.toNat 0))).asList ++ List.drop (0 + 0 + (tOpen (el l (Int.toNat 0))).len) []).length ∧ (tOpen (el l (Int.toNat 0))).len + 1 ≤ 16777216 ∧ ((tOpen (el l (Int.toNat 0))).len + 1 ≤ 0 → 0 + (tOpen (el l (Int.toNat
 0))).len + 1 ≤ (List.take (0 + 0) [] ++ (tOpen (el l (Int.toNat 0))).asList ++ List.drop (0 + 0 + (tOpen (el l (Int.toNat 0))).len) []).length ∧ (0 : Int) ≤ 0 ∧ 0 ≤ (↑(tOpen (el l (Int.toNat 0))).len : Int) ∧ ((↑(0 :
 Nat) : Int) - (↑(tOpen (el l (Int.toNat 0))).len : Int)).NonNeg ∧ 0 + 0 + (tOpen (el l (Int.toNat 0))).len ≤ (List.take (0 + (tOpen (el l (Int.toNat 0))).len) (List.take (0 + 0) [] ++ (tOpen (el l (Int.toNat 0))).asList
 ++ List.drop (0 + 0 + (tOpen (el l (Int.toNat 0))).len) []) ++ List.take 1 [D.int (-7)] ++ List.drop (0 + (tOpen (el l (Int.toNat 0))).len + 1) (List.take (0 + 0) [] ++ (tOpen (el l (Int.toNat 0))).asList ++ List.drop (0
 + 0 + (tOpen (el l (Int.toNat 0))).len) [])).length ∧ 0 + 1 ≤ [D.sct [D.str (tName (el l (Int.toNat 0))), D.int (tShape (el l (Int.toNat 0))), D.int (tA (el l (Int.toNat 0))), D.int (tB (el l (Int.toNat 0))), D.list
 (List.take (tOpen (el l (Int.toNat 0))).len (List.drop (0 + 0) (List.take (0 + (tOpen (el l (Int.toNat 0))).len) (List.take (0 + 0) [] ++ (tOpen (el l (Int.toNat 0))).asList ++ List.drop (0 + 0 + (tOpen (el l (Int.toNat
 0))).len) []) ++ List.take 1 [D.int (-7)] ++ List.drop (0 + (tOpen (el l (Int.toNat 0))).len + 1) (List.take (0 + 0) [] ++ (tOpen (el l (Int.toNat 0))).asList ++ List.drop (0 + 0 + (tOpen (el l (Int.toNat 0))).len)
 [])))), D.int (tX (el l (Int.toNat 0))), D.int (tY (el l (Int.toNat 0)))]].length ∧ (1 : Nat) ≤ 16777216 ∧ ((-9223372036854775808 : Int) ≤ 0 + 1 ∧ (0 : Int) + 1 < 9223372036854775808) ∧ ((∃ (y : Nat), y = 0 ∧ l.len - y <
 l.len - x ∧ ((0 : Int) + 1 = 0 ∧ False ∧ True) ∧ True) ∨ ∃ (y : Nat), (0 < y ∧ y ≤ l.len) ∧ l.len - y < l.len - x ∧ (0 + 1 = (y : Int) ∧ ((0 : Nat) = 0 ∧ 1 = y ∧ True) ∧ True) ∧ List.take 1 [D.sct [D.str (tName (el l
 (Int.toNat 0))), D.int (tShape (el l (Int.toNat 0))), D.int (tA (el l (Int.toNat 0))), D.int (tB (el l (Int.toNat 0))), D.list (List.take (tOpen (el l (Int.toNat 0))).len (List.drop (0 + 0) (List.take (0 + (tOpen (el l
 (Int.toNat 0))).len) (List.take (0 + 0) [] ++ (tOpen (el l (Int.toNat 0))).asList ++ List.drop (0 + 0 + (tOpen (el l (Int.toNat 0))).len) []) ++ List.take 1 [D.int (-7)] ++ List.drop (0 + (tOpen (el l (Int.toNat 0))).len
 + 1) (List.take (0 + 0) [] ++ (tOpen (el l (Int.toNat 0))).asList ++ List.drop (0 + 0 + (tOpen (el l (Int.toNat 0))).len) [])))), D.int (tX (el l (Int.toNat 0))), D.int (tY (el l (Int.toNat 0)))]] = copyL l y ∧ True)) ∧
 (0 < (tOpen (el l (Int.toNat 0))).len + 1 → (0 : Int) ≤ 0 ∧ 0 ≤ (↑(tOpen (el l (Int.toNat 0))).len : Int) ∧ ((↑((tOpen (el l (Int.toNat 0))).len + 1) : Int) - (↑(tOpen (el l (Int.toNat 0))).len : Int)).NonNeg ∧ 0 + 0 +
 (tOpen (el l (Int.toNat 0))).len ≤ (List.take (tOpen (el l (Int.toNat 0))).len (List.take (0 + 0) [] ++ (tOpen (el l (Int.toNat 0))).asList ++ List.drop (0 + 0 + (tOpen (el l (Int.toNat 0))).len) []) ++ List.take 1
 [D.int (-7)]).length ∧ 0 + 1 ≤ [D.sct [D.str (tName (el l (Int.toNat 0))), D.int (tShape (el l (Int.toNat 0))), D.int (tA (el l (Int.toNat 0))), D.int (tB (el l (Int.toNat 0))), D.list (List.take (tOpen (el l (Int.toNat
 0))).len (List.drop (0 + 0) (List.take (tOpen (el l (Int.toNat 0))).len (List.take (0 + 0) [] ++ (tOpen (el l (Int.toNat 0))).asList ++ List.drop (0 + 0 + (tOpen (el l (Int.toNat 0))).len) []) ++ List.take 1 [D.int
 (-7)]))), D.int (tX (el l (Int.toNat 0))), D.int (tY (el l (Int.toNat 0)))]].length ∧ (1 : Nat) ≤ 16777216 ∧ ((-9223372036854775808 : Int) ≤ 0 + 1 ∧ (0 : Int) + 1 < 9223372036854775808) ∧ ((∃ (y : Nat), y = 0 ∧ l.len - y
 < l.len - x ∧ ((0 : Int) + 1 = 0 ∧ False ∧ True) ∧ True) ∨ ∃ (y : Nat), (0 < y ∧ y ≤ l.len) ∧ l.len - y < l.len - x ∧ (0 + 1 = (y : Int) ∧ ((0 : Nat) = 0 ∧ 1 = y ∧ True) ∧ True) ∧ List.take 1 [D.sct [D.str (tName (el l
 (Int.toNat 0))), D.int (tShape (el l (Int.toNat 0))), D.int (tA (el l (Int.toNat 0))), D.int (tB (el l (Int.toNat 0))), D.list (List.take (tOpen (el l (Int.toNat 0))).len (List.drop (0 + 0) (List.take (tOpen (el l
 (Int.toNat 0))).len (List.take (0 + 0) [] ++ (tOpen (el l (Int.toNat 0))).asList ++ List.drop (0 + 0 + (tOpen (el l (Int.toNat 0))).len) []) ++ List.take 1 [D.int (-7)]))), D.int (tX (el l (Int.toNat 0))), D.int (tY (el
 l (Int.toNat 0)))]] = copyL l y ∧ True))) ∧ (0 < 0 + (tOpen (el l (Int.toNat 0))).len → 0 + 1 ≤ [D.int (-7)].length ∧ 0 + (tOpen (el l (Int.toNat 0))).len ≤ (List.take 0 ([] : List D) ++ (tOpen (el l (Int.toNat
 0))).asList).length ∧ (tOpen (el l (Int.toNat 0))).len + 1 ≤ 16777216 ∧ (0 : Int) ≤ 0 ∧ 0 ≤ (↑(tOpen (el l (Int.toNat 0))).len : Int) ∧ ((↑((tOpen (el l (Int.toNat 0))).len + 1) : Int) - (↑(tOpen (el l (Int.toNat
 0))).len : Int)).NonNeg ∧ 0 + 0 + (tOpen (el l (Int.toNat 0))).len ≤ (List.take (tOpen (el l (Int.toNat 0))).len (List.take 0 ([] : List D) ++ (tOpen (el l (Int.toNat 0))).asList) ++ List.take 1 [D.int (-7)]).length ∧ 0
 + 1 ≤ [D.sct [D.str (tName (el l (Int.toNat 0))), D.int (tShape (el l (Int.toNat 0))), D.int (tA (el l (Int.toNat 0))), D.int (tB (el l (Int.toNat 0))), D.list (List.take (tOpen (el l (Int.toNat 0))).len (List.drop (0 +
 0) (List.take (tOpen (el l (Int.toNat 0))).len (List.take 0 ([] : List D) ++ (tOpen (el l (Int.toNat 0))).asList) ++ List.take 1 [D.int (-7)]))), D.int (tX (el l (Int.toNat 0))), D.int (tY (el l (Int.toNat 0)))]].length
 ∧ (1 : Nat) ≤ 16777216 ∧ ((-9223372036854775808 : Int) ≤ 0 + 1 ∧ (0 : Int) + 1 < 9223372036854775808) ∧ ((∃ (y : Nat), y = 0 ∧ l.len - y < l.len - x ∧ ((0 : Int) + 1 = 0 ∧ False ∧ True) ∧ True) ∨ ∃ (y : Nat), (0 < y ∧ y
 ≤ l.len) ∧ l.len - y < l.len - x ∧ (0 + 1 = (y : Int) ∧ ((0 : Nat) = 0 ∧ 1 = y ∧ True) ∧ True) ∧ List.take 1 [D.sct [D.str (tName (el l (Int.toNat 0))), D.int (tShape (el l (Int.toNat 0))), D.int (tA (el l (Int.toNat
 0))), D.int (tB (el l (Int.toNat 0))), D.list (List.take (tOpen (el l (Int.toNat 0))).len (List.drop (0 + 0) (List.take (tOpen (el l (Int.toNat 0))).len (List.take 0 ([] : List D) ++ (tOpen (el l (Int.toNat 0))).asList)
 ++ List.take 1 [D.int (-7)]))), D.int (tX (el l (Int.toNat 0))), D.int (tY (el l (Int.toNat 0)))]] = copyL l y ∧ True))))) ∧ ((0 < (l.len : Int) → False) → D.nil = copyD l)) ∧ ∀ (x : Nat), 0 < x ∧ x ≤ l.len → l.len - x <
 LIM ∧ ((x : Int) < (l.len : Int) → 0 ≤ (x : Int) ∧ (x : Int) < (l.len : Int) ∧ ((tOpen (el l x)).isNil → 0 + 1 ≤ [D.int (-7)].length ∧ (1 : Nat) ≤ 16777216 ∧ (0 : Int) ≤ 0 ∧ 0 ≤ (↑(tOpen (el l x)).len : Int) ∧ ((↑(1 :
 Nat) : Int) - (↑(tOpen (el l x)).len : Int)).NonNeg ∧ 0 + 0 + (tOpen (el l x)).len ≤ (List.take 1 [D.int (-7)]).length ∧ 0 + 1 ≤ [D.sct [D.str (tName (el l x)), D.int (tShape (el l x)), D.int (tA (el l x)), D.int (tB (el
 l x)), D.list (List.take (tOpen (el l x)).len (List.drop (0 + 0) (List.take 1 [D.int (-7)]))), D.int (tX (el l x)), D.int (tY (el l x))]].length ∧ 0 + x ≤ (copyL l x).length ∧ x + 1 ≤ 16777216 ∧ ((-9223372036854775808) ≤
 (x : Int) + 1 ∧ (x : Int) + 1 < 9223372036854775808) ∧ ((∃ (y : Nat), y = 0 ∧ l.len - y < l.len - x ∧ ((x : Int) + 1 = 0 ∧ False ∧ True) ∧ True) ∨ ∃ (y : Nat), (0 < y ∧ y ≤ l.len) ∧ l.len - y < l.len - x ∧ ((x : Int) + 1
 = (y : Int) ∧ ((0 : Nat) = 0 ∧ x + 1 = y ∧ True) ∧ True) ∧ List.take x (copyL l x) ++ List.take 1 [D.sct [D.str (tName (el l x)), D.int (tShape (el l x)), D.int (tA (el l x)), D.int (tB (el l x)), D.list (List.take
 (tOpen (el l x)).len (List.drop (0 + 0) (List.take 1 [D.int (-7)]))), D.int (tX (el l x)), D.int (tY (el l x))]] = copyL l y ∧ True)) ∧ (((tOpen (el l x)).isNil → False) → ((tOpen (el l x)).len = 0 → 0 + 1 ≤ [D.int
 (-7)].length ∧ 0 + 0 ≤ ([] : List D).length ∧ (0 : Nat) + 1 ≤ 16777216 ∧ (0 : Int) ≤ 0 ∧ 0 ≤ (↑(tOpen (el l x)).len : Int) ∧ ((↑(0 + 1) : Int) - (↑(tOpen (el l x)).len : Int)).NonNeg ∧ 0 + 0 + (tOpen (el l x)).len ≤
 (List.take 0 ([] : List D) ++ List.take 1 [D.int (-7)]).length ∧ 0 + 1 ≤ [D.sct [D.str (tName (el l x)), D.int (tShape (el l x)), D.int (tA (el l x)), D.int (tB (el l x)), D.list (List.take (tOpen (el l x)).len
 (List.drop (0 + 0) (List.take 0 ([] : List D) ++ List.take 1 [D.int (-7)]))), D.int (tX (el l x)), D.int (tY (el l x))]].length ∧ 0 + x ≤ (copyL l x).length ∧ x + 1 ≤ 16777216 ∧ ((-9223372036854775808) ≤ (x : Int) + 1 ∧
 (x : Int) + 1 < 9223372036854775808) ∧ ((∃ (y : Nat), y = 0 ∧ l.len - y < l.len - x ∧ ((x : Int) + 1 = 0 ∧ False ∧ True) ∧ True) ∨ ∃ (y : Nat), (0 < y ∧ y ≤ l.len) ∧ l.len - y < l.len - x ∧ ((x : Int) + 1 = (y : Int) ∧
 ((0 : Nat) = 0 ∧ x + 1 = y ∧ True) ∧ True) ∧ List.take x (copyL l x) ++ List.take 1 [D.sct [D.str (tName (el l x)), D.int (tShape (el l x)), D.int (tA (el l x)), D.int (tB (el l x)), D.list (List.take (tOpen (el l
 x)).len (List.drop (0 + 0) (List.take 0 ([] : List D) ++ List.take 1 [D.int (-7)]))), D.int (tX (el l x)), D.int (tY (el l x))]] = copyL l y ∧ True)) ∧ (0 < (tOpen (el l x)).len → 0 + 0 ≤ ([] : List D).length ∧ 0 +
 (tOpen (el l x)).len ≤ 16777216 ∧ (0 + (tOpen (el l x)).len ≤ 0 → 0 + 0 + (tOpen (el l x)).len ≤ ([] : List D).length ∧ 0 + 1 ≤ [D.int (-7)].length ∧ 0 + (tOpen (el l x)).len ≤ (List.take (0 + 0) [] ++ (tOpen (el l
 x)).asList ++ List.drop (0 + 0 + (tOpen (el l x)).len) []).length ∧ (tOpen (el l x)).len + 1 ≤ 16777216 ∧ ((tOpen (el l x)).len + 1 ≤ 0 → 0 + (tOpen (el l x)).len + 1 ≤ (List.take (0 + 0) [] ++ (tOpen (el l x)).asList ++
 List.drop (0 + 0 + (tOpen (el l x)).len) []).length ∧ (0 : Int) ≤ 0 ∧ 0 ≤ (↑(tOpen (el l x)).len : Int) ∧ ((↑(0 : Nat) : Int) - (↑(tOpen (el l x)).len : Int)).NonNeg ∧ 0 + 0 + (tOpen (el l x)).len ≤ (List.take (0 +
 (tOpen (el l x)).len) (List.take (0 + 0) [] ++ (tOpen (el l x)).asList ++ List.drop (0 + 0 + (tOpen (el l x)).len) []) ++ List.take 1 [D.int (-7)] ++ List.drop (0 + (tOpen (el l x)).len + 1) (List.take (0 + 0) [] ++
 (tOpen (el l x)).asList ++ List.drop (0 + 0 + (tOpen (el l x)).len) [])).length ∧ 0 + 1 ≤ [D.sct [D.str (tName (el l x)), D.int (tShape (el l x)), D.int (tA (el l x)), D.int (tB (el l x)), D.list (List.take (tOpen (el l
 x)).len (List.drop (0 + 0) (List.take (0 + (tOpen (el l x)).len) (List.take (0 + 0) [] ++ (tOpen (el l x)).asList ++ List.drop (0 + 0 + (tOpen (el l x)).len) []) ++ List.take 1 [D.int (-7)] ++ List.drop (0 + (tOpen (el l
 x)).len + 1) (List.take (0 + 0) [] ++ (tOpen (el l x)).asList ++ List.drop (0 + 0 + (tOpen (el l x)).len) [])))), D.int (tX (el l x)), D.int (tY (el l x))]].length ∧ 0 + x ≤ (copyL l x).length ∧ x + 1 ≤ 16777216 ∧
 ((-9223372036854775808) ≤ (x : Int) + 1 ∧ (x : Int) + 1 < 9223372036854775808) ∧ ((∃ (y : Nat), y = 0 ∧ l.len - y < l.len - x ∧ ((x : Int) + 1 = 0 ∧ False ∧ True) ∧ True) ∨ ∃ (y : Nat), (0 < y ∧ y ≤ l.len) ∧ l.len - y <
 l.len - x ∧ ((x : Int) + 1 = (y : Int) ∧ ((0 : Nat) = 0 ∧ x + 1 = y ∧ True) ∧ True) ∧ List.take x (copyL l x) ++ List.take 1 [D.sct [D.str (tName (el l x)), D.int (tShape (el l x)), D.int (tA (el l x)), D.int (tB (el l
 x)), D.list (List.take (tOpen (el l x)).len (List.drop (0 + 0) (List.take (0 + (tOpen (el l x)).len) (List.take (0 + 0) [] ++ (tOpen (el l x)).asList ++ List.drop (0 + 0 + (tOpen (el l x)).len) []) ++ List.take 1 [D.int
 (-7)] ++ List.drop (0 + (tOpen (el l x)).len + 1) (List.take (0 + 0) [] ++ (tOpen (el l x)).asList ++ List.drop (0 + 0 + (tOpen (el l x)).len) [])))), D.int (tX (el l x)), D.int (tY (el l x))]] = copyL l y ∧ True)) ∧ (0
 < (tOpen (el l x)).len + 1 → (0 : Int) ≤ 0 ∧ 0 ≤ (↑(tOpen (el l x)).len : Int) ∧ ((↑((tOpen (el l x)).len + 1) : Int) - (↑(tOpen (el l x)).len : Int)).NonNeg ∧ 0 + 0 + (tOpen (el l x)).len ≤ (List.take (tOpen (el l
 x)).len (List.take (0 + 0) [] ++ (tOpen (el l x)).asList ++ List.drop (0 + 0 + (tOpen (el l x)).len) []) ++ List.take 1 [D.int (-7)]).length ∧ 0 + 1 ≤ [D.sct [D.str (tName (el l x)), D.int (tShape (el l x)), D.int (tA
 (el l x)), D.int (tB (el l x)), D.list (List.take (tOpen (el l x)).len (List.drop (0 + 0) (List.take (tOpen (el l x)).len (List.take (0 + 0) [] ++ (tOpen (el l x)).asList ++ List.drop (0 + 0 + (tOpen (el l x)).len) [])
 ++ List.take 1 [D.int (-7)]))), D.int (tX (el l x)), D.int (tY (el l x))]].length ∧ 0 + x ≤ (copyL l x).length ∧ x + 1 ≤ 16777216 ∧ ((-9223372036854775808) ≤ (x : Int) + 1 ∧ (x : Int) + 1 < 9223372036854775808) ∧ ((∃ (y
 : Nat), y = 0 ∧ l.len - y < l.len - x ∧ ((x : Int) + 1 = 0 ∧ False ∧ True) ∧ True) ∨ ∃ (y : Nat), (0 < y ∧ y ≤ l.len) ∧ l.len - y < l.len - x ∧ ((x : Int) + 1 = (y : Int) ∧ ((0 : Nat) = 0 ∧ x + 1 = y ∧ True) ∧ True) ∧
 List.take x (copyL l x) ++ List.take 1 [D.sct [D.str (tName (el l x)), D.int (tShape (el l x)), D.int (tA (el l x)), D.int (tB (el l x)), D.list (List.take (tOpen (el l x)).len (List.drop (0 + 0) (List.take (tOpen (el l
 x)).len (List.take (0 + 0) [] ++ (tOpen (el l x)).asList ++ List.drop (0 + 0 + (tOpen (el l x)).len) []) ++ List.take 1 [D.int (-7)]))), D.int (tX (el l x)), D.int (tY (el l x))]] = copyL l y ∧ True))) ∧ (0 < 0 + (tOpen
 (el l x)).len → 0 + 1 ≤ [D.int (-7)].length ∧ 0 + (tOpen (el l x)).len ≤ (List.take 0 ([] : List D) ++ (tOpen (el l x)).asList).length ∧ (tOpen (el l x)).len + 1 ≤ 16777216 ∧ (0 : Int) ≤ 0 ∧ 0 ≤ (↑(tOpen (el l x)).len :
 Int) ∧ ((↑((tOpen (el l x)).len + 1) : Int) - (↑(tOpen (el l x)).len : Int)).NonNeg ∧ 0 + 0 + (tOpen (el l x)).len ≤ (List.take (tOpen (el l x)).len (List.take 0 ([] : List D) ++ (tOpen (el l x)).asList) ++ List.take 1
 [D.int (-7)]).length ∧ 0 + 1 ≤ [D.sct [D.str (tName (el l x)), D.int (tShape (el l x)), D.int (tA (el l x)), D.int (tB (el l x)), D.list (List.take (tOpen (el l x)).len (List.drop (0 + 0) (List.take (tOpen (el l x)).len
 (List.take 0 ([] : List D) ++ (tOpen (el l x)).asList) ++ List.take 1 [D.int (-7)]))), D.int (tX (el l x)), D.int (tY (el l x))]].length ∧ 0 + x ≤ (copyL l x).length ∧ x + 1 ≤ 16777216 ∧ ((-9223372036854775808) ≤ (x :
 Int) + 1 ∧ (x : Int) + 1 < 9223372036854775808) ∧ ((∃ (y : Nat), y = 0 ∧ l.len - y < l.len - x ∧ ((x : Int) + 1 = 0 ∧ False ∧ True) ∧ True) ∨ ∃ (y : Nat), (0 < y ∧ y ≤ l.len) ∧ l.len - y < l.len - x ∧ ((x : Int) + 1 = (y
 : Int) ∧ ((0 : Nat) = 0 ∧ x + 1 = y ∧ True) ∧ True) ∧ List.take x (copyL l x) ++ List.take 1 [D.sct [D.str (tName (el l x)), D.int (tShape (el l x)), D.int (tA (el l x)), D.int (tB (el l x)), D.list (List.take (tOpen (el
 l x)).len (List.drop (0 + 0) (List.take (tOpen (el l x)).len (List.take 0 ([] : List D) ++ (tOpen (el l x)).asList) ++ List.take 1 [D.int (-7)]))), D.int (tX (el l x)), D.int (tY (el l x))]] = copyL l y ∧ True))))) ∧
 (((x : Int) < (l.len : Int) → False) → 0 + x ≤ (copyL l x).length ∧ D.list (List.take x (copyL l x)) = copyD l)) := by intros; kernel_rfl


theorem nonneg_iff (a b : Int) : (b - a).NonNeg ↔ a ≤ b := Iff.rfl
theorem f_toNat0 : Int.toNat (0 : Int) = 0 := rfl
theorem copy_succ (l : D) (x : Nat) : copyL l (x + 1) = copyL l x ++ [copyT (el l x)] := by
  unfold copyL; rw [List.range_succ, List.map_append]; rfl
theorem copy_len (l : D) (x : Nat) : (copyL l x).length = x := by unfold copyL; simp
theorem lastX (l : D) (x : Nat) (X : List D) (hX : List.take (tOpen (el l x)).len X = (tOpen (el l x)).asList) :
    List.take x (copyL l x) ++ List.take 1 [D.sct [D.str (tName (el l x)), D.int (tShape (el l x)), D.int (tA (el l x)), D.int (tB (el l x)), D.list (List.take (tOpen (el l x)).len X), D.int (tX (el l x)), D.int (tY (el l x))]] = copyL l (x + 1) := by
  rw [hX, copy_succ, List.take_of_length_le (by rw [copy_len]; exact Nat.le_refl _)]; rfl
theorem last0 (l : D) (X : List D) (hX : List.take (tOpen (el l 0)).len X = (tOpen (el l 0)).asList) :
    List.take 1 [D.sct [D.str (tName (el l 0)), D.int (tShape (el l 0)), D.int (tA (el l 0)), D.int (tB (el l 0)), D.list (List.take (tOpen (el l 0)).len X), D.int (tX (el l 0)), D.int (tY (el l 0))]] = copyL l 1 := by
  have := lastX l 0 X hX
  exact this
theorem take_zero (o : D) (X : List D) (h : o.len = 0) : List.take o.len X = o.asList := by
  rw [h, List.take_zero]; exact (List.eq_nil_of_length_eq_zero h).symm
theorem take_app (o : D) (Y : List D) : List.take o.len (List.take o.len o.asList ++ Y) = o.asList := by
  have e : List.take o.len o.asList = o.asList := List.take_of_length_le (Nat.le_refl _)
  rw [e]
  exact List.take_left' rfl
theorem take_app2 (o : D) (Y Z : List D) : List.take o.len (List.take o.len o.asList ++ Y ++ Z) = o.asList := by
  rw [List.append_assoc]; exact take_app o _
theorem isNil_len {o : D} (h : o.isNil) : o.len = 0 := by cases o <;> first | rfl | exact h.elim
theorem len_as (o : D) : o.asList.length = o.len := rfl
set_option maxHeartbeats 4000000 in
theorem s66 (l : D) (h : smallD l) : symFun (ctx chk2 chkAnn) 5 66 [.dat 22 l] (.dat 22 (copyD l)) := by
  have hlen := h.out.1
  rw [vc66]
  simp only [imp_false, Classical.not_not, true_and, and_true, false_and, and_false, or_false, false_or, exists_false, Nat.zero_add, Nat.add_zero, List.take_nil, List.drop_nil, List.drop_zero, List.nil_append, List.append_nil, List.length_nil, List.length_cons, List.length_append, nonneg_iff, f_toNat0, Nat.le_refl, Int.le_refl, forall_eq, exists_eq]
  refine ⟨⟨by unfold LIM; omega, fun hlt => ⟨hlt, ?_⟩, fun hge => ?_⟩, fun x ⟨hx0, hx⟩ => ⟨by unfold LIM; omega, fun hlt => ⟨by omega, hlt, ?_⟩, fun hge => ?_⟩⟩
  · have ho := h.out.2 0 (by omega)
    refine ⟨fun hnil => ?_, ?_⟩
    · have h0 := isNil_len hnil
      repeat' (first | refine And.intro ?_ ?_ | intro _)
      all_goals (first | omega | (simp; done) | (simp [h0]; done) | skip)
      exact ⟨_, ⟨by omega, by omega⟩, by omega, ⟨by omega, rfl⟩, last0 l _ (take_zero _ _ h0)⟩
    · repeat' (first | refine And.intro ?_ ?_ | intro _)
      all_goals (first | omega | (simp only [List.length_take, List.length_drop, List.length_cons, List.length_nil, len_as]; omega) | skip)
      all_goals (first
        | exact ⟨_, ⟨by omega, by omega⟩, by omega, ⟨by omega, rfl⟩, last0 l _ (take_zero _ _ (by omega))⟩
        | exact ⟨_, ⟨by omega, by omega⟩, by omega, ⟨by omega, rfl⟩, last0 l _ (take_app _ _)⟩
        | exact ⟨_, ⟨by omega, by omega⟩, by omega, ⟨by omega, rfl⟩, last0 l _ (take_app2 _ _ _)⟩)
  · have : l.len = 0 := by omega
    unfold copyD; rw [this]; rfl
  · have ho := h.out.2 x (by omega)
    have hc := copy_len l x
    refine ⟨fun hnil => ?_, ?_⟩
    · have h0 := isNil_len hnil
      repeat' (first | refine And.intro ?_ ?_ | intro _)
      all_goals (first | omega | (simp; done) | (simp [h0]; done) | skip)
      exact ⟨_, ⟨by omega, by omega⟩, by omega, ⟨by omega, rfl⟩, lastX l x _ (take_zero _ _ h0)⟩
    · repeat' (first | refine And.intro ?_ ?_ | intro _)
      all_goals (first | omega | (simp only [List.length_take, List.length_drop, List.length_cons, List.length_nil, len_as]; omega) | skip)
      all_goals (first
        | exact ⟨_, ⟨by omega, by omega⟩, by omega, ⟨by omega, rfl⟩, lastX l x _ (take_zero _ _ (by omega))⟩
        | exact ⟨_, ⟨by omega, by omega⟩, by omega, ⟨by omega, rfl⟩, lastX l x _ (take_app _ _)⟩
        | exact ⟨_, ⟨by omega, by omega⟩, by omega, ⟨by omega, rfl⟩, lastX l x _ (take_app2 _ _ _)⟩)
  · have : x = l.len := by omega
    subst this
    have hne : copyL l l.len ≠ [] := fun hn => by have := copy_len l l.len; rw [hn] at this; simp at this; omega
    have hl : copyD l = .list (copyL l l.len) := by
      unfold copyD listD
      split
      · rename_i hn; exact absurd hn hne
      · rfl
    rw [hl, List.take_of_length_le (by rw [copy_len]; exact Nat.le_refl _)]
    exact ⟨by rw [copy_len]; exact Nat.le_refl _, rfl⟩
end Go.Ev

open Go.Proofs
namespace Go.Ev
set_option maxRecDepth 100000
theorem scan_ok (l : D) : ∀ (f i : Nat), (scanZ l f i).2 = 0 → ∀ k, i ≤ k → k < i + f → err1 l k = 0
  | 0, i, _, k, h1, h2 => by omega
  | f + 1, i, h, k, h1, h2 => by
    unfold scanZ at h
    split at h
    · rename_i hn; exact absurd h hn
    · rename_i hn
      rcases Nat.eq_or_lt_of_le h1 with e | e
      · subst e; exact Classical.byContradiction hn
      · exact scan_ok l f (i + 1) h k (by omega) (by omega)
theorem bad_ok {l : D} (h : (badZ l).2 = 0) : ∀ k, k < l.len → errT (el l k) = 0 ∧ ¬ twiceP l k := fun k hk => by
  unfold badZ at h
  split at h
  · simp at h
  · have := scan_ok l l.len 0 h k (Nat.zero_le _) (by omega)
    by_cases h1 : errT (el l k) = 0
    · by_cases h2 : twiceP l k
      · rw [err1_twice h1 h2] at this; omega
      · exact ⟨h1, h2⟩
    · rw [err1_own h1] at this; exact absurd this h1
theorem err_size {d : D} (h : errT d = 0) : sizeT' d ≠ 0 := fun hz => by
  unfold errT errZ at h
  split at h
  · omega
  · rw [if_pos (show sizeZ (tShape d) (tA d) (tB d) = 0 from hz)] at h; omega
end Go.Ev
