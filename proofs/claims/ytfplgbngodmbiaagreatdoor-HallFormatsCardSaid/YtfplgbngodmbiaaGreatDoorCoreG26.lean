/-
  Part of the engine that the claim is proved with: it states nothing of the document by itself.
-/
import Derived.Test.YtfplgbngodmbiaaGreatDoorCoreChkA
import Derived.Test.YtfplgbngodmbiaaGreatDoorCoreG24

section

open Go.Proofs
namespace Go.Ev
set_option maxRecDepth 100000
theorem vc66 : ∀ (l : D),
 symFun (ctx chk2 chkAnn) (5 : Nat) (66 : FuncId) [V.dat (22 : TypeId) l] (V.dat (22 : TypeId) (copyD l)) =
 (((∃ (x : Nat), x = (0 : Nat) ∧ ((0 : Int) = (0 : Int) ∧ True ∧ True) ∧ True) ∨
 ∃ (x : Nat), ((0 : Nat) < x ∧ x ≤ l.len) ∧ ((0 : Int) = (↑x : Int) ∧ False ∧ True) ∧ False ∧ True) ∧
 (∀ (x : Nat),
 x = (0 : Nat) →
 l.len - x < LIM ∧
 ((0 : Int) < (↑l.len : Int) →
 (0 : Int) ≤ (0 : Int) ∧
 (0 : Int) < (↑l.len : Int) ∧
 ((tOpen (el l (Int.toNat (0 : Int)))).isNil →
 (0 : Nat) + (1 : Nat) ≤ [D.int (-7 : Int)].length ∧
 (1 : Nat) ≤ (16777216 : Nat) ∧
 (0 : Int) ≤ (0 : Int) ∧
 (0 : Int) ≤ (↑(tOpen (el l (Int.toNat (0 : Int)))).len : Int) ∧
 ((↑(1 : Nat) : Int) - (↑(tOpen (el l (Int.toNat (0 : Int)))).len : Int)).NonNeg ∧
 (0 : Nat) + (0 : Nat) + (tOpen (el l (Int.toNat (0 : Int)))).len ≤ (List.take (1 : Nat) [D.int (-7 : Int)]).length ∧
 (0 : Nat) + (1 : Nat) ≤
 [D.sct
 [D.str (tName (el l (Int.toNat (0 : Int)))), D.int (tShape (el l (Int.toNat (0 : Int)))),
 D.int (tA (el l (Int.toNat (0 : Int)))), D.int (tB (el l (Int.toNat (0 : Int)))),
 D.list
 (List.take (tOpen (el l (Int.toNat (0 : Int)))).len
 (List.drop ((0 : Nat) + (0 : Nat)) (List.take (1 : Nat) [D.int (-7 : Int)]))),
 D.int (tX (el l (Int.toNat (0 : Int)))), D.int (tY (el l (Int.toNat (0 : Int))))]].length ∧
 (1 : Nat) ≤ (16777216 : Nat) ∧
 ((-9223372036854775808 : Int) ≤ (0 : Int) + (1 : Int) ∧ (0 : Int) + (1 : Int) < (9223372036854775808 : Int)) ∧
 ((∃ (y : Nat), y = (0 : Nat) ∧ l.len - y < l.len - x ∧ ((0 : Int) + (1 : Int) = (0 : Int) ∧ False ∧ True) ∧ True) ∨
 ∃ (y : Nat),
 ((0 : Nat) < y ∧ y ≤ l.len) ∧
 l.len - y < l.len - x ∧
 ((0 : Int) + (1 : Int) = (↑y : Int) ∧ ((0 : Nat) = (0 : Nat) ∧ (1 : Nat) = y ∧ True) ∧ True) ∧
 List.take (1 : Nat)
 [D.sct
 [D.str (tName (el l (Int.toNat (0 : Int)))), D.int (tShape (el l (Int.toNat (0 : Int)))),
 D.int (tA (el l (Int.toNat (0 : Int)))), D.int (tB (el l (Int.toNat (0 : Int)))),
 D.list
 (List.take (tOpen (el l (Int.toNat (0 : Int)))).len
 (List.drop ((0 : Nat) + (0 : Nat)) (List.take (1 : Nat) [D.int (-7 : Int)]))),
 D.int (tX (el l (Int.toNat (0 : Int)))), D.int (tY (el l (Int.toNat (0 : Int))))]] =
 copyL l y ∧
 True)) ∧
 (((tOpen (el l (Int.toNat (0 : Int)))).isNil → False) →
 ((tOpen (el l (Int.toNat (0 : Int)))).len = (0 : Nat) →
 (0 : Nat) + (1 : Nat) ≤ [D.int (-7 : Int)].length ∧
 (0 : Nat) + (0 : Nat) ≤ ([] : List D).length ∧
 (0 : Nat) + (1 : Nat) ≤ (16777216 : Nat) ∧
 (0 : Int) ≤ (0 : Int) ∧
 (0 : Int) ≤ (↑(tOpen (el l (Int.toNat (0 : Int)))).len : Int) ∧
 ((↑((0 : Nat) + (1 : Nat)) : Int) - (↑(tOpen (el l (Int.toNat (0 : Int)))).len : Int)).NonNeg ∧
 (0 : Nat) + (0 : Nat) + (tOpen (el l (Int.toNat (0 : Int)))).len ≤
 (List.take (0 : Nat) ([] : List D) ++ List.take (1 : Nat) [D.int (-7 : Int)]).length ∧
 (0 : Nat) + (1 : Nat) ≤
 [D.sct
 [D.str (tName (el l (Int.toNat (0 : Int)))), D.int (tShape (el l (Int.toNat (0 : Int)))),
 D.int (tA (el l (Int.toNat (0 : Int)))), D.int (tB (el l (Int.toNat (0 : Int)))),
 D.list
 (List.take (tOpen (el l (Int.toNat (0 : Int)))).len
 (List.drop ((0 : Nat) + (0 : Nat))
 (List.take (0 : Nat) ([] : List D) ++ List.take (1 : Nat) [D.int (-7 : Int)]))),
 D.int (tX (el l (Int.toNat (0 : Int)))), D.int (tY (el l (Int.toNat (0 : Int))))]].length ∧
 (1 : Nat) ≤ (16777216 : Nat) ∧
 ((-9223372036854775808 : Int) ≤ (0 : Int) + (1 : Int) ∧ (0 : Int) + (1 : Int) < (9223372036854775808 : Int)) ∧
 ((∃ (y : Nat),
 y = (0 : Nat) ∧ l.len - y < l.len - x ∧ ((0 : Int) + (1 : Int) = (0 : Int) ∧ False ∧ True) ∧ True) ∨
 ∃ (y : Nat),
 ((0 : Nat) < y ∧ y ≤ l.len) ∧
 l.len - y < l.len - x ∧
 ((0 : Int) + (1 : Int) = (↑y : Int) ∧ ((0 : Nat) = (0 : Nat) ∧ (1 : Nat) = y ∧ True) ∧ True) ∧
 List.take (1 : Nat)
 [D.sct
 [D.str (tName (el l (Int.toNat (0 : Int)))), D.int (tShape (el l (Int.toNat (0 : Int)))),
 D.int (tA (el l (Int.toNat (0 : Int)))), D.int (tB (el l (Int.toNat (0 : Int)))),
 D.list
 (List.take (tOpen (el l (Int.toNat (0 : Int)))).len
 (List.drop ((0 : Nat) + (0 : Nat))
 (List.take (0 : Nat) ([] : List D) ++ List.take (1 : Nat) [D.int (-7 : Int)]))),
 D.int (tX (el l (Int.toNat (0 : Int)))), D.int (tY (el l (Int.toNat (0 : Int))))]] =
 copyL l y ∧
 True)) ∧
 ((0 : Nat) < (tOpen (el l (Int.toNat (0 : Int)))).len →
 (0 : Nat) + (0 : Nat) ≤ ([] : List D).length ∧
 (0 : Nat) + (tOpen (el l (Int.toNat (0 : Int)))).len ≤ (16777216 : Nat) ∧
 ((0 : Nat) + (tOpen (el l (Int.toNat (0 : Int)))).len ≤ (0 : Nat) →
 (0 : Nat) + (0 : Nat) + (tOpen (el l (Int.toNat (0 : Int)))).len ≤ ([] : List D).length ∧
 (0 : Nat) + (1 : Nat) ≤ [D.int (-7 : Int)].length ∧
 (0 : Nat) + (tOpen (el l (Int.toNat (0 : Int)))).len ≤
 (List.take ((0 : Nat) + (0 : Nat)) [] ++ (tOpen (el l (Int.toNat (0 : Int)))).asList ++
 List.drop ((0 : Nat) + (0 : Nat) + (tOpen (el l (Int.toNat (0 : Int)))).len) []).length ∧
 (tOpen (el l (Int.toNat (0 : Int)))).len + (1 : Nat) ≤ (16777216 : Nat) ∧
 ((tOpen (el l (Int.toNat (0 : Int)))).len + (1 : Nat) ≤ (0 : Nat) →
 (0 : Nat) + (tOpen (el l (Int.toNat (0 : Int)))).len + (1 : Nat) ≤
 (List.take ((0 : Nat) + (0 : Nat)) [] ++ (tOpen (el l (Int.toNat (0 : Int)))).asList ++
 List.drop ((0 : Nat) + (0 : Nat) + (tOpen (el l (Int.toNat (0 : Int)))).len) []).length ∧
 (0 : Int) ≤ (0 : Int) ∧
 (0 : Int) ≤ (↑(tOpen (el l (Int.toNat (0 : Int)))).len : Int) ∧
 ((↑(0 : Nat) : Int) - (↑(tOpen (el l (Int.toNat (0 : Int)))).len : Int)).NonNeg ∧
 (0 : Nat) + (0 : Nat) + (tOpen (el l (Int.toNat (0 : Int)))).len ≤
 (List.take ((0 : Nat) + (tOpen (el l (Int.toNat (0 : Int)))).len)
 (List.take ((0 : Nat) + (0 : Nat)) [] ++ (tOpen (el l (Int.toNat (0 : Int)))).asList ++
 List.drop ((0 : Nat) + (0 : Nat) + (tOpen (el l (Int.toNat (0 : Int)))).len) []) ++
 List.take (1 : Nat) [D.int (-7 : Int)] ++
 List.drop ((0 : Nat) + (tOpen (el l (Int.toNat (0 : Int)))).len + (1 : Nat))
 (List.take ((0 : Nat) + (0 : Nat)) [] ++ (tOpen (el l (Int.toNat (0 : Int)))).asList ++
 List.drop ((0 : Nat) + (0 : Nat) + (tOpen (el l (Int.toNat (0 : Int)))).len) [])).length ∧
 (0 : Nat) + (1 : Nat) ≤
 [D.sct
 [D.str (tName (el l (Int.toNat (0 : Int)))), D.int (tShape (el l (Int.toNat (0 : Int)))),
 D.int (tA (el l (Int.toNat (0 : Int)))), D.int (tB (el l (Int.toNat (0 : Int)))),
 D.list
 (List.take (tOpen (el l (Int.toNat (0 : Int)))).len
 (List.drop ((0 : Nat) + (0 : Nat))
 (List.take ((0 : Nat) + (tOpen (el l (Int.toNat (0 : Int)))).len)
 (List.take ((0 : Nat) + (0 : Nat)) [] ++
 (tOpen (el l (Int.toNat (0 : Int)))).asList ++
 List.drop
 ((0 : Nat) + (0 : Nat) + (tOpen (el l (Int.toNat (0 : Int)))).len)
 []) ++
 List.take (1 : Nat) [D.int (-7 : Int)] ++
 List.drop ((0 : Nat) + (tOpen (el l (Int.toNat (0 : Int)))).len + (1 : Nat))
 (List.take ((0 : Nat) + (0 : Nat)) [] ++
 (tOpen (el l (Int.toNat (0 : Int)))).asList ++
 List.drop ((0 : Nat) + (0 : Nat) + (tOpen (el l (Int.toNat (0 : Int)))).len)
 [])))),
 D.int (tX (el l (Int.toNat (0 : Int)))),
 D.int (tY (el l (Int.toNat (0 : Int))))]].length ∧
 (1 : Nat) ≤ (16777216 : Nat) ∧
 ((-9223372036854775808 : Int) ≤ (0 : Int) + (1 : Int) ∧
 (0 : Int) + (1 : Int) < (9223372036854775808 : Int)) ∧
 ((∃ (y : Nat),
 y = (0 : Nat) ∧
 l.len - y < l.len - x ∧ ((0 : Int) + (1 : Int) = (0 : Int) ∧ False ∧ True) ∧ True) ∨
 ∃ (y : Nat),
 ((0 : Nat) < y ∧ y ≤ l.len) ∧
 l.len - y < l.len - x ∧
 ((0 : Int) + (1 : Int) = (↑y : Int) ∧
 ((0 : Nat) = (0 : Nat) ∧ (1 : Nat) = y ∧ True) ∧ True) ∧
 List.take (1 : Nat)
 [D.sct
 [D.str (tName (el l (Int.toNat (0 : Int)))),
 D.int (tShape (el l (Int.toNat (0 : Int)))),
 D.int (tA (el l (Int.toNat (0 : Int)))),
 D.int (tB (el l (Int.toNat (0 : Int)))),
 D.list
 (List.take (tOpen (el l (Int.toNat (0 : Int)))).len
 (List.drop ((0 : Nat) + (0 : Nat))
 (List.take ((0 : Nat) + (tOpen (el l (Int.toNat (0 : Int)))).len)
 (List.take ((0 : Nat) + (0 : Nat)) [] ++
 (tOpen (el l (Int.toNat (0 : Int)))).asList ++
 List.drop
 ((0 : Nat) + (0 : Nat) +
 (tOpen (el l (Int.toNat (0 : Int)))).len)
 []) ++
 List.take (1 : Nat) [D.int (-7 : Int)] ++
 List.drop
 ((0 : Nat) + (tOpen (el l (Int.toNat (0 : Int)))).len +
 (1 : Nat))
 (List.take ((0 : Nat) + (0 : Nat)) [] ++
 (tOpen (el l (Int.toNat (0 : Int)))).asList ++
 List.drop
 ((0 : Nat) + (0 : Nat) +
 (tOpen (el l (Int.toNat (0 : Int)))).len)
 [])))),
 D.int (tX (el l (Int.toNat (0 : Int)))),
 D.int (tY (el l (Int.toNat (0 : Int))))]] =
 copyL l y ∧
 True)) ∧
 ((0 : Nat) < (tOpen (el l (Int.toNat (0 : Int)))).len + (1 : Nat) →
 (0 : Int) ≤ (0 : Int) ∧
 (0 : Int) ≤ (↑(tOpen (el l (Int.toNat (0 : Int)))).len : Int) ∧
 ((↑((tOpen (el l (Int.toNat (0 : Int)))).len + (1 : Nat)) : Int) -
 (↑(tOpen (el l (Int.toNat (0 : Int)))).len : Int)).NonNeg ∧
 (0 : Nat) + (0 : Nat) + (tOpen (el l (Int.toNat (0 : Int)))).len ≤
 (List.take (tOpen (el l (Int.toNat (0 : Int)))).len
 (List.take ((0 : Nat) + (0 : Nat)) [] ++ (tOpen (el l (Int.toNat (0 : Int)))).asList ++
 List.drop ((0 : Nat) + (0 : Nat) + (tOpen (el l (Int.toNat (0 : Int)))).len) []) ++
 List.take (1 : Nat) [D.int (-7 : Int)]).length ∧
 (0 : Nat) + (1 : Nat) ≤
 [D.sct
 [D.str (tName (el l (Int.toNat (0 : Int)))), D.int (tShape (el l (Int.toNat (0 : Int)))),
 D.int (tA (el l (Int.toNat (0 : Int)))), D.int (tB (el l (Int.toNat (0 : Int)))),
 D.list
 (List.take (tOpen (el l (Int.toNat (0 : Int)))).len
 (List.drop ((0 : Nat) + (0 : Nat))
 (List.take (tOpen (el l (Int.toNat (0 : Int)))).len
 (List.take ((0 : Nat) + (0 : Nat)) [] ++
 (tOpen (el l (Int.toNat (0 : Int)))).asList ++
 List.drop ((0 : Nat) + (0 : Nat) + (tOpen (el l (Int.toNat (0 : Int)))).len)
 []) ++
 List.take (1 : Nat) [D.int (-7 : Int)]))),
 D.int (tX (el l (Int.toNat (0 : Int)))),
 D.int (tY (el l (Int.toNat (0 : Int))))]].length ∧
 (1 : Nat) ≤ (16777216 : Nat) ∧
 ((-9223372036854775808 : Int) ≤ (0 : Int) + (1 : Int) ∧
 (0 : Int) + (1 : Int) < (9223372036854775808 : Int)) ∧
 ((∃ (y : Nat),
 y = (0 : Nat) ∧
 l.len - y < l.len - x ∧ ((0 : Int) + (1 : Int) = (0 : Int) ∧ False ∧ True) ∧ True) ∨
 ∃ (y : Nat),
 ((0 : Nat) < y ∧ y ≤ l.len) ∧
 l.len - y < l.len - x ∧
 ((0 : Int) + (1 : Int) = (↑y : Int) ∧
 ((0 : Nat) = (0 : Nat) ∧ (1 : Nat) = y ∧ True) ∧ True) ∧
 List.take (1 : Nat)
 [D.sct
 [D.str (tName (el l (Int.toNat (0 : Int)))),
 D.int (tShape (el l (Int.toNat (0 : Int)))),
 D.int (tA (el l (Int.toNat (0 : Int)))),
 D.int (tB (el l (Int.toNat (0 : Int)))),
 D.list
 (List.take (tOpen (el l (Int.toNat (0 : Int)))).len
 (List.drop ((0 : Nat) + (0 : Nat))
 (List.take (tOpen (el l (Int.toNat (0 : Int)))).len
 (List.take ((0 : Nat) + (0 : Nat)) [] ++
 (tOpen (el l (Int.toNat (0 : Int)))).asList ++
 List.drop
 ((0 : Nat) + (0 : Nat) +
 (tOpen (el l (Int.toNat (0 : Int)))).len)
 []) ++
 List.take (1 : Nat) [D.int (-7 : Int)]))),
 D.int (tX (el l (Int.toNat (0 : Int)))),
 D.int (tY (el l (Int.toNat (0 : Int))))]] =
 copyL l y ∧
 True))) ∧
 ((0 : Nat) < (0 : Nat) + (tOpen (el l (Int.toNat (0 : Int)))).len →
 (0 : Nat) + (1 : Nat) ≤ [D.int (-7 : Int)].length ∧
 (0 : Nat) + (tOpen (el l (Int.toNat (0 : Int)))).len ≤
 (List.take (0 : Nat) ([] : List D) ++ (tOpen (el l (Int.toNat (0 : Int)))).asList).length ∧
 (tOpen (el l (Int.toNat (0 : Int)))).len + (1 : Nat) ≤ (16777216 : Nat) ∧
 (0 : Int) ≤ (0 : Int) ∧
 (0 : Int) ≤ (↑(tOpen (el l (Int.toNat (0 : Int)))).len : Int) ∧
 ((↑((tOpen (el l (Int.toNat (0 : Int)))).len + (1 : Nat)) : Int) -
 (↑(tOpen (el l (Int.toNat (0 : Int)))).len : Int)).NonNeg ∧
 (0 : Nat) + (0 : Nat) + (tOpen (el l (Int.toNat (0 : Int)))).len ≤
 (List.take (tOpen (el l (Int.toNat (0 : Int)))).len
 (List.take (0 : Nat) ([] : List D) ++ (tOpen (el l (Int.toNat (0 : Int)))).asList) ++
 List.take (1 : Nat) [D.int (-7 : Int)]).length ∧
 (0 : Nat) + (1 : Nat) ≤
 [D.sct
 [D.str (tName (el l (Int.toNat (0 : Int)))), D.int (tShape (el l (Int.toNat (0 : Int)))),
 D.int (tA (el l (Int.toNat (0 : Int)))), D.int (tB (el l (Int.toNat (0 : Int)))),
 D.list
 (List.take (tOpen (el l (Int.toNat (0 : Int)))).len
 (List.drop ((0 : Nat) + (0 : Nat))
 (List.take (tOpen (el l (Int.toNat (0 : Int)))).len
 (List.take (0 : Nat) ([] : List D) ++ (tOpen (el l (Int.toNat (0 : Int)))).asList) ++
 List.take (1 : Nat) [D.int (-7 : Int)]))),
 D.int (tX (el l (Int.toNat (0 : Int)))), D.int (tY (el l (Int.toNat (0 : Int))))]].length ∧
 (1 : Nat) ≤ (16777216 : Nat) ∧
 ((-9223372036854775808 : Int) ≤ (0 : Int) + (1 : Int) ∧
 (0 : Int) + (1 : Int) < (9223372036854775808 : Int)) ∧
 ((∃ (y : Nat),
 y = (0 : Nat) ∧
 l.len - y < l.len - x ∧ ((0 : Int) + (1 : Int) = (0 : Int) ∧ False ∧ True) ∧ True) ∨
 ∃ (y : Nat),
 ((0 : Nat) < y ∧ y ≤ l.len) ∧
 l.len - y < l.len - x ∧
 ((0 : Int) + (1 : Int) = (↑y : Int) ∧ ((0 : Nat) = (0 : Nat) ∧ (1 : Nat) = y ∧ True) ∧ True) ∧
 List.take (1 : Nat)
 [D.sct
 [D.str (tName (el l (Int.toNat (0 : Int)))),
 D.int (tShape (el l (Int.toNat (0 : Int)))),
 D.int (tA (el l (Int.toNat (0 : Int)))),
 D.int (tB (el l (Int.toNat (0 : Int)))),
 D.list
 (List.take (tOpen (el l (Int.toNat (0 : Int)))).len
 (List.drop ((0 : Nat) + (0 : Nat))
 (List.take (tOpen (el l (Int.toNat (0 : Int)))).len
 (List.take (0 : Nat) ([] : List D) ++
 (tOpen (el l (Int.toNat (0 : Int)))).asList) ++
 List.take (1 : Nat) [D.int (-7 : Int)]))),
 D.int (tX (el l (Int.toNat (0 : Int)))),
 D.int (tY (el l (Int.toNat (0 : Int))))]] =
 copyL l y ∧
 True))))) ∧
 (((0 : Int) < (↑l.len : Int) → False) → D.nil = copyD l)) ∧
 ∀ (x : Nat),
 (0 : Nat) < x ∧ x ≤ l.len →
 l.len - x < LIM ∧
 ((↑x : Int) < (↑l.len : Int) →
 (0 : Int) ≤ (↑x : Int) ∧
 (↑x : Int) < (↑l.len : Int) ∧
 ((tOpen (el l x)).isNil →
 (0 : Nat) + (1 : Nat) ≤ [D.int (-7 : Int)].length ∧
 (1 : Nat) ≤ (16777216 : Nat) ∧
 (0 : Int) ≤ (0 : Int) ∧
 (0 : Int) ≤ (↑(tOpen (el l x)).len : Int) ∧
 ((↑(1 : Nat) : Int) - (↑(tOpen (el l x)).len : Int)).NonNeg ∧
 (0 : Nat) + (0 : Nat) + (tOpen (el l x)).len ≤ (List.take (1 : Nat) [D.int (-7 : Int)]).length ∧
 (0 : Nat) + (1 : Nat) ≤
 [D.sct
 [D.str (tName (el l x)), D.int (tShape (el l x)), D.int (tA (el l x)), D.int (tB (el l x)),
 D.list
 (List.take (tOpen (el l x)).len
 (List.drop ((0 : Nat) + (0 : Nat)) (List.take (1 : Nat) [D.int (-7 : Int)]))),
 D.int (tX (el l x)), D.int (tY (el l x))]].length ∧
 (0 : Nat) + x ≤ (copyL l x).length ∧
 x + (1 : Nat) ≤ (16777216 : Nat) ∧
 ((-9223372036854775808 : Int) ≤ (↑x : Int) + (1 : Int) ∧ (↑x : Int) + (1 : Int) < (9223372036854775808 : Int)) ∧
 ((∃ (y : Nat),
 y = (0 : Nat) ∧ l.len - y < l.len - x ∧ ((↑x : Int) + (1 : Int) = (0 : Int) ∧ False ∧ True) ∧ True) ∨
 ∃ (y : Nat),
 ((0 : Nat) < y ∧ y ≤ l.len) ∧
 l.len - y < l.len - x ∧
 ((↑x : Int) + (1 : Int) = (↑y : Int) ∧ ((0 : Nat) = (0 : Nat) ∧ x + (1 : Nat) = y ∧ True) ∧ True) ∧
 List.take x (copyL l x) ++
 List.take (1 : Nat)
 [D.sct
 [D.str (tName (el l x)), D.int (tShape (el l x)), D.int (tA (el l x)), D.int (tB (el l x)),
 D.list
 (List.take (tOpen (el l x)).len
 (List.drop ((0 : Nat) + (0 : Nat)) (List.take (1 : Nat) [D.int (-7 : Int)]))),
 D.int (tX (el l x)), D.int (tY (el l x))]] =
 copyL l y ∧
 True)) ∧
 (((tOpen (el l x)).isNil → False) →
 ((tOpen (el l x)).len = (0 : Nat) →
 (0 : Nat) + (1 : Nat) ≤ [D.int (-7 : Int)].length ∧
 (0 : Nat) + (0 : Nat) ≤ ([] : List D).length ∧
 (0 : Nat) + (1 : Nat) ≤ (16777216 : Nat) ∧
 (0 : Int) ≤ (0 : Int) ∧
 (0 : Int) ≤ (↑(tOpen (el l x)).len : Int) ∧
 ((↑((0 : Nat) + (1 : Nat)) : Int) - (↑(tOpen (el l x)).len : Int)).NonNeg ∧
 (0 : Nat) + (0 : Nat) + (tOpen (el l x)).len ≤
 (List.take (0 : Nat) ([] : List D) ++ List.take (1 : Nat) [D.int (-7 : Int)]).length ∧
 (0 : Nat) + (1 : Nat) ≤
 [D.sct
 [D.str (tName (el l x)), D.int (tShape (el l x)), D.int (tA (el l x)), D.int (tB (el l x)),
 D.list
 (List.take (tOpen (el l x)).len
 (List.drop ((0 : Nat) + (0 : Nat))
 (List.take (0 : Nat) ([] : List D) ++ List.take (1 : Nat) [D.int (-7 : Int)]))),
 D.int (tX (el l x)), D.int (tY (el l x))]].length ∧
 (0 : Nat) + x ≤ (copyL l x).length ∧
 x + (1 : Nat) ≤ (16777216 : Nat) ∧
 ((-9223372036854775808 : Int) ≤ (↑x : Int) + (1 : Int) ∧
 (↑x : Int) + (1 : Int) < (9223372036854775808 : Int)) ∧
 ((∃ (y : Nat),
 y = (0 : Nat) ∧ l.len - y < l.len - x ∧ ((↑x : Int) + (1 : Int) = (0 : Int) ∧ False ∧ True) ∧ True) ∨
 ∃ (y : Nat),
 ((0 : Nat) < y ∧ y ≤ l.len) ∧
 l.len - y < l.len - x ∧
 ((↑x : Int) + (1 : Int) = (↑y : Int) ∧ ((0 : Nat) = (0 : Nat) ∧ x + (1 : Nat) = y ∧ True) ∧ True) ∧
 List.take x (copyL l x) ++
 List.take (1 : Nat)
 [D.sct
 [D.str (tName (el l x)), D.int (tShape (el l x)), D.int (tA (el l x)),
 D.int (tB (el l x)),
 D.list
 (List.take (tOpen (el l x)).len
 (List.drop ((0 : Nat) + (0 : Nat))
 (List.take (0 : Nat) ([] : List D) ++ List.take (1 : Nat) [D.int (-7 : Int)]))),
 D.int (tX (el l x)), D.int (tY (el l x))]] =
 copyL l y ∧
 True)) ∧
 ((0 : Nat) < (tOpen (el l x)).len →
 (0 : Nat) + (0 : Nat) ≤ ([] : List D).length ∧
 (0 : Nat) + (tOpen (el l x)).len ≤ (16777216 : Nat) ∧
 ((0 : Nat) + (tOpen (el l x)).len ≤ (0 : Nat) →
 (0 : Nat) + (0 : Nat) + (tOpen (el l x)).len ≤ ([] : List D).length ∧
 (0 : Nat) + (1 : Nat) ≤ [D.int (-7 : Int)].length ∧
 (0 : Nat) + (tOpen (el l x)).len ≤
 (List.take ((0 : Nat) + (0 : Nat)) [] ++ (tOpen (el l x)).asList ++
 List.drop ((0 : Nat) + (0 : Nat) + (tOpen (el l x)).len) []).length ∧
 (tOpen (el l x)).len + (1 : Nat) ≤ (16777216 : Nat) ∧
 ((tOpen (el l x)).len + (1 : Nat) ≤ (0 : Nat) →
 (0 : Nat) + (tOpen (el l x)).len + (1 : Nat) ≤
 (List.take ((0 : Nat) + (0 : Nat)) [] ++ (tOpen (el l x)).asList ++
 List.drop ((0 : Nat) + (0 : Nat) + (tOpen (el l x)).len) []).length ∧
 (0 : Int) ≤ (0 : Int) ∧
 (0 : Int) ≤ (↑(tOpen (el l x)).len : Int) ∧
 ((↑(0 : Nat) : Int) - (↑(tOpen (el l x)).len : Int)).NonNeg ∧
 (0 : Nat) + (0 : Nat) + (tOpen (el l x)).len ≤
 (List.take ((0 : Nat) + (tOpen (el l x)).len)
 (List.take ((0 : Nat) + (0 : Nat)) [] ++ (tOpen (el l x)).asList ++
 List.drop ((0 : Nat) + (0 : Nat) + (tOpen (el l x)).len) []) ++
 List.take (1 : Nat) [D.int (-7 : Int)] ++
 List.drop ((0 : Nat) + (tOpen (el l x)).len + (1 : Nat))
 (List.take ((0 : Nat) + (0 : Nat)) [] ++ (tOpen (el l x)).asList ++
 List.drop ((0 : Nat) + (0 : Nat) + (tOpen (el l x)).len) [])).length ∧
 (0 : Nat) + (1 : Nat) ≤
 [D.sct
 [D.str (tName (el l x)), D.int (tShape (el l x)), D.int (tA (el l x)),
 D.int (tB (el l x)),
 D.list
 (List.take (tOpen (el l x)).len
 (List.drop ((0 : Nat) + (0 : Nat))
 (List.take ((0 : Nat) + (tOpen (el l x)).len)
 (List.take ((0 : Nat) + (0 : Nat)) [] ++ (tOpen (el l x)).asList ++
 List.drop ((0 : Nat) + (0 : Nat) + (tOpen (el l x)).len) []) ++
 List.take (1 : Nat) [D.int (-7 : Int)] ++
 List.drop ((0 : Nat) + (tOpen (el l x)).len + (1 : Nat))
 (List.take ((0 : Nat) + (0 : Nat)) [] ++ (tOpen (el l x)).asList ++
 List.drop ((0 : Nat) + (0 : Nat) + (tOpen (el l x)).len) [])))),
 D.int (tX (el l x)), D.int (tY (el l x))]].length ∧
 (0 : Nat) + x ≤ (copyL l x).length ∧
 x + (1 : Nat) ≤ (16777216 : Nat) ∧
 ((-9223372036854775808 : Int) ≤ (↑x : Int) + (1 : Int) ∧
 (↑x : Int) + (1 : Int) < (9223372036854775808 : Int)) ∧
 ((∃ (y : Nat),
 y = (0 : Nat) ∧
 l.len - y < l.len - x ∧ ((↑x : Int) + (1 : Int) = (0 : Int) ∧ False ∧ True) ∧ True) ∨
 ∃ (y : Nat),
 ((0 : Nat) < y ∧ y ≤ l.len) ∧
 l.len - y < l.len - x ∧
 ((↑x : Int) + (1 : Int) = (↑y : Int) ∧
 ((0 : Nat) = (0 : Nat) ∧ x + (1 : Nat) = y ∧ True) ∧ True) ∧
 List.take x (copyL l x) ++
 List.take (1 : Nat)
 [D.sct
 [D.str (tName (el l x)), D.int (tShape (el l x)), D.int (tA (el l x)),
 D.int (tB (el l x)),
 D.list
 (List.take (tOpen (el l x)).len
 (List.drop ((0 : Nat) + (0 : Nat))
 (List.take ((0 : Nat) + (tOpen (el l x)).len)
 (List.take ((0 : Nat) + (0 : Nat)) [] ++
 (tOpen (el l x)).asList ++
 List.drop
 ((0 : Nat) + (0 : Nat) + (tOpen (el l x)).len)
 []) ++
 List.take (1 : Nat) [D.int (-7 : Int)] ++
 List.drop ((0 : Nat) + (tOpen (el l x)).len + (1 : Nat))
 (List.take ((0 : Nat) + (0 : Nat)) [] ++
 (tOpen (el l x)).asList ++
 List.drop ((0 : Nat) + (0 : Nat) + (tOpen (el l x)).len)
 [])))),
 D.int (tX (el l x)), D.int (tY (el l x))]] =
 copyL l y ∧
 True)) ∧
 ((0 : Nat) < (tOpen (el l x)).len + (1 : Nat) →
 (0 : Int) ≤ (0 : Int) ∧
 (0 : Int) ≤ (↑(tOpen (el l x)).len : Int) ∧
 ((↑((tOpen (el l x)).len + (1 : Nat)) : Int) - (↑(tOpen (el l x)).len : Int)).NonNeg ∧
 (0 : Nat) + (0 : Nat) + (tOpen (el l x)).len ≤
 (List.take (tOpen (el l x)).len
 (List.take ((0 : Nat) + (0 : Nat)) [] ++ (tOpen (el l x)).asList ++
 List.drop ((0 : Nat) + (0 : Nat) + (tOpen (el l x)).len) []) ++
 List.take (1 : Nat) [D.int (-7 : Int)]).length ∧
 (0 : Nat) + (1 : Nat) ≤
 [D.sct
 [D.str (tName (el l x)), D.int (tShape (el l x)), D.int (tA (el l x)), D.int (tB (el l x)),
 D.list
 (List.take (tOpen (el l x)).len
 (List.drop ((0 : Nat) + (0 : Nat))
 (List.take (tOpen (el l x)).len
 (List.take ((0 : Nat) + (0 : Nat)) [] ++ (tOpen (el l x)).asList ++
 List.drop ((0 : Nat) + (0 : Nat) + (tOpen (el l x)).len) []) ++
 List.take (1 : Nat) [D.int (-7 : Int)]))),
 D.int (tX (el l x)), D.int (tY (el l x))]].length ∧
 (0 : Nat) + x ≤ (copyL l x).length ∧
 x + (1 : Nat) ≤ (16777216 : Nat) ∧
 ((-9223372036854775808 : Int) ≤ (↑x : Int) + (1 : Int) ∧
 (↑x : Int) + (1 : Int) < (9223372036854775808 : Int)) ∧
 ((∃ (y : Nat),
 y = (0 : Nat) ∧
 l.len - y < l.len - x ∧ ((↑x : Int) + (1 : Int) = (0 : Int) ∧ False ∧ True) ∧ True) ∨
 ∃ (y : Nat),
 ((0 : Nat) < y ∧ y ≤ l.len) ∧
 l.len - y < l.len - x ∧
 ((↑x : Int) + (1 : Int) = (↑y : Int) ∧
 ((0 : Nat) = (0 : Nat) ∧ x + (1 : Nat) = y ∧ True) ∧ True) ∧
 List.take x (copyL l x) ++
 List.take (1 : Nat)
 [D.sct
 [D.str (tName (el l x)), D.int (tShape (el l x)), D.int (tA (el l x)),
 D.int (tB (el l x)),
 D.list
 (List.take (tOpen (el l x)).len
 (List.drop ((0 : Nat) + (0 : Nat))
 (List.take (tOpen (el l x)).len
 (List.take ((0 : Nat) + (0 : Nat)) [] ++
 (tOpen (el l x)).asList ++
 List.drop ((0 : Nat) + (0 : Nat) + (tOpen (el l x)).len)
 []) ++
 List.take (1 : Nat) [D.int (-7 : Int)]))),
 D.int (tX (el l x)), D.int (tY (el l x))]] =
 copyL l y ∧
 True))) ∧
 ((0 : Nat) < (0 : Nat) + (tOpen (el l x)).len →
 (0 : Nat) + (1 : Nat) ≤ [D.int (-7 : Int)].length ∧
 (0 : Nat) + (tOpen (el l x)).len ≤ (List.take (0 : Nat) ([] : List D) ++ (tOpen (el l x)).asList).length ∧
 (tOpen (el l x)).len + (1 : Nat) ≤ (16777216 : Nat) ∧
 (0 : Int) ≤ (0 : Int) ∧
 (0 : Int) ≤ (↑(tOpen (el l x)).len : Int) ∧
 ((↑((tOpen (el l x)).len + (1 : Nat)) : Int) - (↑(tOpen (el l x)).len : Int)).NonNeg ∧
 (0 : Nat) + (0 : Nat) + (tOpen (el l x)).len ≤
 (List.take (tOpen (el l x)).len (List.take (0 : Nat) ([] : List D) ++ (tOpen (el l x)).asList) ++
 List.take (1 : Nat) [D.int (-7 : Int)]).length ∧
 (0 : Nat) + (1 : Nat) ≤
 [D.sct
 [D.str (tName (el l x)), D.int (tShape (el l x)), D.int (tA (el l x)), D.int (tB (el l x)),
 D.list
 (List.take (tOpen (el l x)).len
 (List.drop ((0 : Nat) + (0 : Nat))
 (List.take (tOpen (el l x)).len (List.take (0 : Nat) ([] : List D) ++ (tOpen (el l x)).asList) ++
 List.take (1 : Nat) [D.int (-7 : Int)]))),
 D.int (tX (el l x)), D.int (tY (el l x))]].length ∧
 (0 : Nat) + x ≤ (copyL l x).length ∧
 x + (1 : Nat) ≤ (16777216 : Nat) ∧
 ((-9223372036854775808 : Int) ≤ (↑x : Int) + (1 : Int) ∧
 (↑x : Int) + (1 : Int) < (9223372036854775808 : Int)) ∧
 ((∃ (y : Nat),
 y = (0 : Nat) ∧
 l.len - y < l.len - x ∧ ((↑x : Int) + (1 : Int) = (0 : Int) ∧ False ∧ True) ∧ True) ∨
 ∃ (y : Nat),
 ((0 : Nat) < y ∧ y ≤ l.len) ∧
 l.len - y < l.len - x ∧
 ((↑x : Int) + (1 : Int) = (↑y : Int) ∧
 ((0 : Nat) = (0 : Nat) ∧ x + (1 : Nat) = y ∧ True) ∧ True) ∧
 List.take x (copyL l x) ++
 List.take (1 : Nat)
 [D.sct
 [D.str (tName (el l x)), D.int (tShape (el l x)), D.int (tA (el l x)),
 D.int (tB (el l x)),
 D.list
 (List.take (tOpen (el l x)).len
 (List.drop ((0 : Nat) + (0 : Nat))
 (List.take (tOpen (el l x)).len
 (List.take (0 : Nat) ([] : List D) ++ (tOpen (el l x)).asList) ++
 List.take (1 : Nat) [D.int (-7 : Int)]))),
 D.int (tX (el l x)), D.int (tY (el l x))]] =
 copyL l y ∧
 True))))) ∧
 (((↑x : Int) < (↑l.len : Int) → False) → (0 : Nat) + x ≤ (copyL l x).length ∧ D.list (List.take x (copyL l x)) = copyD l)) := by intros; kernel_rfl
theorem nonneg_iff (a b : Int) : (b - a).NonNeg ↔ a ≤ b := Iff.rfl
theorem f_toNat0 : Int.toNat (0 : Int) = 0 := rfl
theorem copy_succ (l : D) (x : Nat) : copyL l (x + 1) = copyL l x ++ [copyT (el l x)] := by
  unfold copyL; rw [List.range_succ, List.map_append]; rfl
theorem copy_len (l : D) (x : Nat) : (copyL l x).length = x := by unfold copyL; simp
theorem lastX (l : D) (x : Nat) (X : List D) (hX : List.take (tOpen (el l x)).len X = (tOpen (el l x)).asList) :
    List.take x (copyL l x) ++ List.take 1 [D.sct [D.str (tName (el l x)), D.int (tShape (el l x)), D.int (tA (el l x)), D.int (tB (el l x)), D.list (List.take (tOpen (el l x)).len X), D.int (tX (el l x)), D.int (tY (el l x))]] = copyL l (x + 1) := by
  rw [hX, copy_succ, List.take_of_length_le (by rw [copy_len]; exact Nat.le_refl _)]; rfl
theorem last0 (l : D) (X : List D) (hX : List.take (tOpen (el l 0)).len X = (tOpen (el l 0)).asList) :
    List.take 1 [D.sct [D.str (tName (el l 0)), D.int (tShape (el l 0)), D.int (tA (el l 0)), D.int (tB (el l 0)), D.list (List.take (tOpen (el l 0)).len X), D.int (tX (el l 0)), D.int (tY (el l 0))]] = copyL l 1 := by
  have := lastX l 0 X hX
  exact this
theorem take_zero (o : D) (X : List D) (h : o.len = 0) : List.take o.len X = o.asList := by
  rw [h, List.take_zero]; exact (List.eq_nil_of_length_eq_zero h).symm
theorem take_app (o : D) (Y : List D) : List.take o.len (List.take o.len o.asList ++ Y) = o.asList := by
  have e : List.take o.len o.asList = o.asList := List.take_of_length_le (Nat.le_refl _)
  rw [e]
  exact List.take_left' rfl
theorem take_app2 (o : D) (Y Z : List D) : List.take o.len (List.take o.len o.asList ++ Y ++ Z) = o.asList := by
  rw [List.append_assoc]; exact take_app o _
theorem isNil_len {o : D} (h : o.isNil) : o.len = 0 := by cases o <;> first | rfl | exact h.elim
theorem len_as (o : D) : o.asList.length = o.len := rfl
set_option maxHeartbeats 4000000 in
theorem s66 (l : D) (h : smallD l) : symFun (ctx chk2 chkAnn) 5 66 [.dat 22 l] (.dat 22 (copyD l)) := by
  have hlen := h.out.1
  rw [vc66]
  simp only [imp_false, Classical.not_not, true_and, and_true, false_and, and_false, or_false, false_or, exists_false, Nat.zero_add, Nat.add_zero, List.take_nil, List.drop_nil, List.drop_zero, List.nil_append, List.append_nil, List.length_nil, List.length_cons, List.length_append, nonneg_iff, f_toNat0, Nat.le_refl, Int.le_refl, forall_eq, exists_eq]
  refine ⟨⟨by unfold LIM; omega, fun hlt => ⟨hlt, ?_⟩, fun hge => ?_⟩, fun x ⟨hx0, hx⟩ => ⟨by unfold LIM; omega, fun hlt => ⟨by omega, hlt, ?_⟩, fun hge => ?_⟩⟩
  · have ho := h.out.2 0 (by omega)
    refine ⟨fun hnil => ?_, ?_⟩
    · have h0 := isNil_len hnil
      repeat' (first | refine And.intro ?_ ?_ | intro _)
      all_goals (first | omega | (simp; done) | (simp [h0]; done) | skip)
      exact ⟨_, ⟨by omega, by omega⟩, by omega, ⟨by omega, rfl⟩, last0 l _ (take_zero _ _ h0)⟩
    · repeat' (first | refine And.intro ?_ ?_ | intro _)
      all_goals (first | omega | (simp only [List.length_take, List.length_drop, List.length_cons, List.length_nil, len_as]; omega) | skip)
      all_goals (first
        | exact ⟨_, ⟨by omega, by omega⟩, by omega, ⟨by omega, rfl⟩, last0 l _ (take_zero _ _ (by omega))⟩
        | exact ⟨_, ⟨by omega, by omega⟩, by omega, ⟨by omega, rfl⟩, last0 l _ (take_app _ _)⟩
        | exact ⟨_, ⟨by omega, by omega⟩, by omega, ⟨by omega, rfl⟩, last0 l _ (take_app2 _ _ _)⟩)
  · have : l.len = 0 := by omega
    unfold copyD; rw [this]; rfl
  · have ho := h.out.2 x (by omega)
    have hc := copy_len l x
    refine ⟨fun hnil => ?_, ?_⟩
    · have h0 := isNil_len hnil
      repeat' (first | refine And.intro ?_ ?_ | intro _)
      all_goals (first | omega | (simp; done) | (simp [h0]; done) | skip)
      exact ⟨_, ⟨by omega, by omega⟩, by omega, ⟨by omega, rfl⟩, lastX l x _ (take_zero _ _ h0)⟩
    · repeat' (first | refine And.intro ?_ ?_ | intro _)
      all_goals (first | omega | (simp only [List.length_take, List.length_drop, List.length_cons, List.length_nil, len_as]; omega) | skip)
      all_goals (first
        | exact ⟨_, ⟨by omega, by omega⟩, by omega, ⟨by omega, rfl⟩, lastX l x _ (take_zero _ _ (by omega))⟩
        | exact ⟨_, ⟨by omega, by omega⟩, by omega, ⟨by omega, rfl⟩, lastX l x _ (take_app _ _)⟩
        | exact ⟨_, ⟨by omega, by omega⟩, by omega, ⟨by omega, rfl⟩, lastX l x _ (take_app2 _ _ _)⟩)
  · have : x = l.len := by omega
    subst this
    have hne : copyL l l.len ≠ [] := fun hn => by have := copy_len l l.len; rw [hn] at this; simp at this; omega
    have hl : copyD l = .list (copyL l l.len) := by
      unfold copyD listD
      split
      · rename_i hn; exact absurd hn hne
      · rfl
    rw [hl, List.take_of_length_le (by rw [copy_len]; exact Nat.le_refl _)]
    exact ⟨by rw [copy_len]; exact Nat.le_refl _, rfl⟩
end Go.Ev
open Go.Proofs
namespace Go.Ev
set_option maxRecDepth 100000
theorem copy_dlen (l : D) : (copyD l).len = l.len := by
  have h : (copyL l l.len).length = l.len := copy_len l l.len
  unfold copyD listD
  split
  · rename_i hn; rw [hn] at h; exact h
  · exact h
theorem copy_as (l : D) : (copyD l).asList = copyL l l.len := by
  unfold copyD listD
  split
  · rename_i hn; rw [hn]; rfl
  · rfl
theorem el_far {l : D} {x : Nat} (h : l.len ≤ x) : el l x = .nil := by
  unfold el nthD
  rw [List.getElem?_eq_none h]; rfl
theorem copy_el (l : D) (x : Nat) : (x < l.len ∧ el (copyD l) x = copyT (el l x)) ∨ (el (copyD l) x = .nil ∧ el l x = .nil) := by
  rcases Nat.lt_or_ge x l.len with h | h
  · left
    refine ⟨h, ?_⟩
    show nthD (copyD l).asList x = _
    rw [copy_as]
    unfold copyL nthD
    simp [h]
  · right
    exact ⟨el_far (by rw [copy_dlen]; exact h), el_far h⟩
theorem rising_list (o : D) (n : Int) : risingP (.list o.asList) n = risingP o n := propext ⟨fun h => ⟨h.out⟩, fun h => ⟨h.out⟩⟩
theorem errZ_list (nm : List UInt8) (sh a b : Int) (o : D) (x y : Int) : errZ nm sh a b (.list o.asList) x y = errZ nm sh a b o x y := by
  unfold errZ
  rw [rising_list o (sizeZ sh a b)]
theorem c_name (l : D) (x : Nat) : tName (el (copyD l) x) = tName (el l x) := by rcases copy_el l x with ⟨_, h⟩ | ⟨h, h'⟩ <;> rw [h] <;> first | rfl | rw [h']
theorem c_open (l : D) (x : Nat) : (tOpen (el (copyD l) x)).len = (tOpen (el l x)).len := by rcases copy_el l x with ⟨_, h⟩ | ⟨h, h'⟩ <;> rw [h] <;> first | rfl | rw [h']
theorem c_err (l : D) (x : Nat) : errT (el (copyD l) x) = errT (el l x) := by
  rcases copy_el l x with ⟨_, h⟩ | ⟨h, h'⟩
  · rw [h]
    exact errZ_list (tName (el l x)) (tShape (el l x)) (tA (el l x)) (tB (el l x)) (tOpen (el l x)) (tX (el l x)) (tY (el l x))
  · rw [h, h']
theorem c_twice (l : D) (x : Nat) : twiceP (copyD l) x = twiceP l x := propext ⟨fun ⟨k, h1, h2⟩ => ⟨k, h1, by rw [c_name, c_name] at h2; exact h2⟩, fun ⟨k, h1, h2⟩ => ⟨k, h1, by rw [c_name, c_name]; exact h2⟩⟩
theorem c_err1 (l : D) (x : Nat) : err1 (copyD l) x = err1 l x := by unfold err1; rw [c_err, c_twice]
theorem c_scan (l : D) : ∀ (f i : Nat), scanZ (copyD l) f i = scanZ l f i
  | 0, _ => rfl
  | f + 1, i => by unfold scanZ; rw [c_err1, c_scan l f (i + 1)]
theorem c_bad (l : D) : badZ (copyD l) = badZ l := by unfold badZ; rw [copy_dlen, c_scan]
theorem c_small {l : D} (h : smallD l) : smallD (copyD l) := ⟨by rw [copy_dlen]; exact h.out.1, fun i hi => by rw [copy_dlen] at hi; rw [c_open]; exact h.out.2 i hi⟩
theorem c_same (l : D) : sameAll (copyD l) l := by
  refine ⟨copy_dlen l, fun i hi => ?_⟩
  rw [copy_dlen] at hi
  rcases copy_el l i with ⟨_, h⟩ | ⟨h, h'⟩
  · rw [h]; exact ⟨rfl, rfl, rfl, rfl, rfl, rfl, rfl, fun _ _ => rfl⟩
  · rw [h, h']; exact ⟨rfl, rfl, rfl, rfl, rfl, rfl, rfl, fun _ _ => rfl⟩
theorem scan_ok (l : D) : ∀ (f i : Nat), (scanZ l f i).2 = 0 → ∀ k, i ≤ k → k < i + f → err1 l k = 0
  | 0, i, _, k, h1, h2 => by omega
  | f + 1, i, h, k, h1, h2 => by
    unfold scanZ at h
    split at h
    · rename_i hn; exact absurd h hn
    · rename_i hn
      rcases Nat.eq_or_lt_of_le h1 with e | e
      · subst e; exact Classical.byContradiction hn
      · exact scan_ok l f (i + 1) h k (by omega) (by omega)
theorem bad_ok {l : D} (h : (badZ l).2 = 0) : ∀ k, k < l.len → errT (el l k) = 0 ∧ ¬ twiceP l k := fun k hk => by
  unfold badZ at h
  split at h
  · simp at h
  · have := scan_ok l l.len 0 h k (Nat.zero_le _) (by omega)
    by_cases h1 : errT (el l k) = 0
    · by_cases h2 : twiceP l k
      · rw [err1_twice h1 h2] at this; omega
      · exact ⟨h1, h2⟩
    · rw [err1_own h1] at this; exact absurd this h1
theorem few_small {l : D} (h : fewD l) : smallD l := ⟨by have := h.out.1; omega, fun i hi => by have := (h.out.2 i hi).out.2; omega⟩
end Go.Ev

end

section
open Go.Proofs
namespace Go.Ev
set_option maxRecDepth 100000
theorem vc83 : ∀ (sh : Int), symFun (ctx chk3 fmtAnn) (3 : Nat) (83 : FuncId) [V.int IntKind.u8 sh] (V.str (wordB sh)) = ((sh = (1 : Int) → w1B = wordB sh) ∧ ((sh = (1 : Int) → False) → (sh = (2 :
 Int) → w2B = wordB sh) ∧ ((sh = (2 : Int) → False) → (sh = (3 : Int) → w3B = wordB sh) ∧ ((sh = (3 : Int) → False) → w4B = wordB sh)))) := by intros; kernel_rfl
theorem vc30 : ∀ (l : D), symFun (ctx fmt1 fmtAnn) (3 : Nat) (30 : FuncId) [V.dat (22 : TypeId) l] (V.str (fmtL l l.len)) = ((∃ (x : Nat), x.le l.len ∧ ((0 : Int) = (↑x : Int) ∧ [] = fmtL l x ∧ True)
 ∧ True) ∧ ∀ (x : Nat), x.le l.len → l.len - x < LIM ∧ ((↑x : Int) < (↑l.len : Int) → (0 : Int) ≤ (↑x : Int) ∧ (↑x : Int) < (↑l.len : Int) ∧ (fmtL l x).length + tblB.length < (9223372036854775808 :
 Nat) ∧ (fmtL l x ++ tblB).length + (tName (el l x)).length < (9223372036854775808 : Nat) ∧ (fmtL l x ++ tblB ++ tName (el l x)).length + spB.length < (9223372036854775808 : Nat) ∧ True ∧ (fmtL l x ++
 tblB ++ tName (el l x) ++ spB).length + (wordB (tShape (el l x))).length < (9223372036854775808 : Nat) ∧ (fmtL l x ++ tblB ++ tName (el l x) ++ spB ++ wordB (tShape (el l x))).length + spB.length <
 (9223372036854775808 : Nat) ∧ ((0 : Int) ≤ tA (el l x) ∧ tA (el l x) ≤ (1000 : Int)) ∧ (fmtL l x ++ tblB ++ tName (el l x) ++ spB ++ wordB (tShape (el l x)) ++ spB).length + (decB (tA (el l
 x))).length < (9223372036854775808 : Nat) ∧ (fmtL l x ++ tblB ++ tName (el l x) ++ spB ++ wordB (tShape (el l x)) ++ spB ++ decB (tA (el l x))).length + spB.length < (9223372036854775808 : Nat) ∧ ((0
 : Int) ≤ tB (el l x) ∧ tB (el l x) ≤ (1000 : Int)) ∧ (fmtL l x ++ tblB ++ tName (el l x) ++ spB ++ wordB (tShape (el l x)) ++ spB ++ decB (tA (el l x)) ++ spB).length + (decB (tB (el l x))).length <
 (9223372036854775808 : Nat) ∧ (fmtL l x ++ tblB ++ tName (el l x) ++ spB ++ wordB (tShape (el l x)) ++ spB ++ decB (tA (el l x)) ++ spB ++ decB (tB (el l x))).length + spB.length <
 (9223372036854775808 : Nat) ∧ ((0 : Int) ≤ tX (el l x) ∧ tX (el l x) ≤ (1000 : Int)) ∧ (fmtL l x ++ tblB ++ tName (el l x) ++ spB ++ wordB (tShape (el l x)) ++ spB ++ decB (tA (el l x)) ++ spB ++ decB
 (tB (el l x)) ++ spB).length + (decB (tX (el l x))).length < (9223372036854775808 : Nat) ∧ (fmtL l x ++ tblB ++ tName (el l x) ++ spB ++ wordB (tShape (el l x)) ++ spB ++ decB (tA (el l x)) ++ spB ++
 decB (tB (el l x)) ++ spB ++ decB (tX (el l x))).length + spB.length < (9223372036854775808 : Nat) ∧ ((0 : Int) ≤ tY (el l x) ∧ tY (el l x) ≤ (1000 : Int)) ∧ (fmtL l x ++ tblB ++ tName (el l x) ++ spB
 ++ wordB (tShape (el l x)) ++ spB ++ decB (tA (el l x)) ++ spB ++ decB (tB (el l x)) ++ spB ++ decB (tX (el l x)) ++ spB).length + (decB (tY (el l x))).length < (9223372036854775808 : Nat) ∧ (∃ (x_1 :
 Nat), x_1.le (tOpen (el l x)).len ∧ ((0 : Int) = (↑x_1 : Int) ∧ fmtL l x ++ tblB ++ tName (el l x) ++ spB ++ wordB (tShape (el l x)) ++ spB ++ decB (tA (el l x)) ++ spB ++ decB (tB (el l x)) ++ spB ++
 decB (tX (el l x)) ++ spB ++ decB (tY (el l x)) = fmtL l x ++ (lineB (el l x) ++ numsB (numsL (el l x)) ((4 : Nat) + x_1)) ∧ True) ∧ True) ∧ ∀ (x_1 : Nat), x_1.le (tOpen (el l x)).len → (tOpen (el l
 x)).len - x_1 < LIM ∧ ((↑x_1 : Int) < (↑(tOpen (el l x)).len : Int) → (fmtL l x ++ (lineB (el l x) ++ numsB (numsL (el l x)) ((4 : Nat) + x_1))).length + spB.length < (9223372036854775808 : Nat) ∧ (0
 : Int) ≤ (↑x_1 : Int) ∧ (↑x_1 : Int) < (↑(tOpen (el l x)).len : Int) ∧ ((0 : Int) ≤ (el (tOpen (el l x)) x_1).asInt ∧ (el (tOpen (el l x)) x_1).asInt ≤ (1000 : Int)) ∧ (fmtL l x ++ (lineB (el l x) ++
 numsB (numsL (el l x)) ((4 : Nat) + x_1)) ++ spB).length + (decB (el (tOpen (el l x)) x_1).asInt).length < (9223372036854775808 : Nat) ∧ ((-9223372036854775808 : Int) ≤ (↑x_1 : Int) + (1 : Int) ∧
 (↑x_1 : Int) + (1 : Int) < (9223372036854775808 : Int)) ∧ ∃ (y : Nat), y.le (tOpen (el l x)).len ∧ (tOpen (el l x)).len - y < (tOpen (el l x)).len - x_1 ∧ ((↑x_1 : Int) + (1 : Int) = (↑y : Int) ∧ fmtL
 l x ++ (lineB (el l x) ++ numsB (numsL (el l x)) ((4 : Nat) + x_1)) ++ spB ++ decB (el (tOpen (el l x)) x_1).asInt = fmtL l x ++ (lineB (el l x) ++ numsB (numsL (el l x)) ((4 : Nat) + y)) ∧ True) ∧
 True) ∧ (((↑x_1 : Int) < (↑(tOpen (el l x)).len : Int) → False) → (fmtL l x ++ (lineB (el l x) ++ numsB (numsL (el l x)) ((4 : Nat) + x_1))).length + nlB.length < (9223372036854775808 : Nat) ∧
 ((-9223372036854775808 : Int) ≤ (↑x : Int) + (1 : Int) ∧ (↑x : Int) + (1 : Int) < (9223372036854775808 : Int)) ∧ ∃ (y : Nat), y.le l.len ∧ l.len - y < l.len - x ∧ ((↑x : Int) + (1 : Int) = (↑y : Int)
 ∧ fmtL l x ++ (lineB (el l x) ++ numsB (numsL (el l x)) ((4 : Nat) + x_1)) ++ nlB = fmtL l y ∧ True) ∧ True)) ∧ (((↑x : Int) < (↑l.len : Int) → False) → fmtL l x = fmtL l l.len)) := by intros; kernel_rfl
theorem vc27 : ∀ (l : D), symFun (ctx fmt2 fmtAnn) (4 : Nat) (27 : FuncId) [V.dat (22 : TypeId) l] (V.prop True) = (smallD l ∧ smallD l ∧ ((badZ l).snd = (0 : Int) → (smallD l ∧ (badZ l).snd = (0 :
 Int)) ∧ smallD (copyD l) ∧ (fmtD (copyD l) = fmtL l l.len → smallD (copyD l) ∧ (sameAll (copyD l) l ↔ True)) ∧ ((fmtD (copyD l) = fmtL l l.len → False) → (false = true ↔ True))) ∧ (((badZ l).snd = (0
 : Int) → False) → smallD (copyD l) ∧ (fmtD (copyD l) = [] → smallD (copyD l) ∧ (sameAll (copyD l) l ↔ True)) ∧ ((fmtD (copyD l) = [] → False) → (false = true ↔ True)))) := by intros; kernel_rfl
theorem vc9 : ∀ (l : D), symFun (ctx fmt3 fmtAnn) (3 : Nat) (9 : FuncId) [V.dat (22 : TypeId) l] (V.prop True) = (True ∧ (((fewD l → False) → False) → fewD l ∧ (True → (true = true ↔ True)) ∧ ((True →
 False) → (false = true ↔ True))) ∧ ((fewD l → False) → (true = true ↔ True))) := by intros; kernel_rfl
theorem strD_app (a b : List UInt8) : strD (a ++ b) = strD a ++ strD b := List.map_append
theorem strD_len (a : List UInt8) : (strD a).length = a.length := List.length_map _
theorem strD_take (a : List UInt8) (n : Nat) (h : n = a.length) : List.take n (strD a) = strD a := List.take_of_length_le (by rw [strD_len]; omega)
theorem bytesD_strD : ∀ s : List UInt8, bytesD (strD s) = s
  | [] => rfl
  | b :: s => by
    have := bytesD_strD s
    unfold bytesD strD at this ⊢
    rw [List.map_cons, List.map_cons, this]
    congr 1
    show UInt8.ofNat (Int.toNat (b.toNat : Int)) = b
    rw [Int.toNat_natCast, UInt8.ofNat_toNat]
theorem byteL_strD (s : List UInt8) : byteL (strD s) := ⟨fun d hd => by
  obtain ⟨b, _, rfl⟩ := List.mem_map.1 hd
  exact ⟨b.toNat, b.toNat_lt, rfl⟩⟩
theorem decF_len : ∀ f n, (decF f n).length ≤ f
  | 0, _ => Nat.le_refl _
  | f + 1, n => by
    unfold decF
    cases Nat.ble n 9 with
    | true => simp
    | false => have := decF_len f (n / 10); simp; omega
theorem decB_len (n : Int) : (decB n).length ≤ 5 := decF_len 5 _
theorem numsB_len (L : List D) : ∀ k, (numsB L k).length ≤ 6 * k
  | 0 => Nat.le_refl _
  | k + 1 => by
    have h1 := numsB_len L k
    have h2 := decB_len (nthD L k).asInt
    have h3 : spB.length = 1 := rfl
    unfold numsB
    simp only [List.length_append]
    omega
theorem wordB_len (sh : Int) : (wordB sh).length ≤ 9 := by
  unfold wordB
  split
  · decide
  · split
    · decide
    · split <;> decide
theorem tbl_len : tblB.length = 6 := rfl
theorem sp_len : spB.length = 1 := rfl
theorem nl_len : nlB.length = 1 := rfl
theorem head_len (t : D) : (headB t).length = 7 + (tName t).length := by unfold headB; simp only [List.length_append, tbl_len, sp_len]; omega
theorem line_len (t : D) : (lineB t).length ≤ 16 + (tName t).length := by
  have := wordB_len (tShape t)
  unfold lineB; simp only [List.length_append, head_len]; omega
theorem nums4_len (t : D) : (nums4 t).length = 4 := rfl
theorem numsL_len (t : D) : (numsL t).length = 4 + (tOpen t).len := by unfold numsL; rw [List.length_append, nums4_len]; rfl
theorem table_len (t : D) (hn : (tName t).length ≤ 12) (ho : (tOpen t).len ≤ 100) : (tableB t).length ≤ 700 := by
  have h1 := line_len t
  have h2 := numsB_len (numsL t) (numsL t).length
  have h3 := numsL_len t
  unfold tableB
  simp only [List.length_append, nl_len]
  omega
theorem fmtL_len (l : D) : ∀ n, (∀ k, k < n → (tName (el l k)).length ≤ 12 ∧ (tOpen (el l k)).len ≤ 100) → (fmtL l n).length ≤ 700 * n
  | 0, _ => Nat.le_refl _
  | n + 1, h => by
    have h1 := fmtL_len l n (fun k hk => h k (by omega))
    have h2 := table_len (el l n) (h n (by omega)).1 (h n (by omega)).2
    unfold fmtL
    rw [List.length_append]
    omega
theorem fmtL_pos (l : D) (n : Nat) (h : 0 < n) : 0 < (fmtL l n).length := by
  cases n with
  | zero => omega
  | succ n =>
    unfold fmtL tableB
    simp only [List.length_append, nl_len]
    omega
theorem size_bnd {sh a b : Int} (h : sizeZ sh a b ≠ 0) : (0 ≤ a ∧ a ≤ 24) ∧ (0 ≤ b ∧ b ≤ 24) ∧ sizeZ sh a b ≤ 24 := by
  unfold sizeZ at h ⊢
  split
  · omega
  · split
    · omega
    · split
      · omega
      · split
        · omega
        · rename_i h1 h2 h3 h4
          rw [if_neg h1, if_neg h2, if_neg h3, if_neg h4] at h
          exact absurd rfl h
theorem errT_ok {d : D} (h : errT d = 0) : nameP (tName d) ∧ sizeT' d ≠ 0 ∧ risingP (tOpen d) (sizeT' d) ∧ placeP (tX d) ∧ placeP (tY d) := by
  unfold errT errZ at h
  split at h
  · omega
  · rename_i h1
    split at h
    · omega
    · rename_i h2
      split at h
      · omega
      · rename_i h3
        split at h
        · omega
        · rename_i h4
          exact ⟨Classical.byContradiction h1, h2, Classical.byContradiction h3, (Classical.byContradiction h4).1, (Classical.byContradiction h4).2⟩
theorem nthD_app {a b : List D} {j : Nat} : nthD (a ++ b) j = if j < a.length then nthD a j else nthD b (j - a.length) := by
  unfold nthD
  split
  · rename_i h; rw [List.getElem?_append_left h]
  · rename_i h; rw [List.getElem?_append_right (by omega)]
theorem nums_ok {t : D} (h : errT t = 0) : ∀ j, j < (numsL t).length → 0 ≤ (nthD (numsL t) j).asInt ∧ (nthD (numsL t) j).asInt ≤ 1000 := fun j hj => by
  obtain ⟨_, h2, h3, h4, h5⟩ := errT_ok h
  obtain ⟨b1, b2, b3⟩ := size_bnd h2
  unfold placeP at h4 h5
  rw [numsL_len] at hj
  unfold numsL
  rw [nthD_app, nums4_len]
  split
  · rename_i hlt
    match j, hlt with
    | 0, _ => show 0 ≤ tA t ∧ tA t ≤ 1000; omega
    | 1, _ => show 0 ≤ tB t ∧ tB t ≤ 1000; omega
    | 2, _ => show 0 ≤ tX t ∧ tX t ≤ 1000; omega
    | 3, _ => show 0 ≤ tY t ∧ tY t ≤ 1000; omega
  · have := h3.out (j - 4) (by omega)
    have e : atI (tOpen t) (j - 4) = (nthD (tOpen t).asList (j - 4)).asInt := rfl
    have b3' : sizeT' t ≤ 24 := b3
    omega
theorem open_nil {t : D} (h : (tOpen t).len = 0) : (tOpen t).asList = [] := List.eq_nil_of_length_eq_zero h
def tailP (l : D) (x : Nat) (xi : Int) (A : List UInt8) (L : List D) (j : Nat) : Prop :=
  0 + ((strD A).length + (numsB L j).length) ≤ (strD A ++ strD (numsB L j)).length ∧ (strD A).length + (numsB L j).length + nlB.length ≤ 16777216 ∧
  ((-9223372036854775808 : Int) ≤ xi + 1 ∧ xi + 1 < 9223372036854775808) ∧
  ((∃ y : Nat, y = 0 ∧ l.len - y < l.len - x ∧ (xi + 1 = 0 ∧ True) ∧ (False ∧ False ∧ True) ∧ True) ∨
    ∃ y : Nat, (0 < y ∧ y ≤ l.len) ∧ l.len - y < l.len - x ∧ (xi + 1 = (y : Int) ∧ True) ∧ (True ∧ ((0 : Nat) = 0 ∧ (strD A).length + (numsB L j).length + nlB.length = (fmtL l y).length ∧ True) ∧ True) ∧
      List.take ((strD A).length + (numsB L j).length) (strD A ++ strD (numsB L j)) ++ strD nlB = strD (fmtL l y) ∧ True)
def innerP (l : D) (x : Nat) (xi : Int) (A : List UInt8) (L : List D) (N : Nat) : Prop :=
  (∃ j : Nat, j ≤ L.length ∧ ((0 : Int) = (j : Int) ∧ True) ∧ (True ∧ ((0 : Nat) = 0 ∧ A.length = (strD A).length + (numsB L j).length ∧ True) ∧ True) ∧ strD A = strD A ++ strD (numsB L j) ∧ True) ∧
  ∀ j : Nat, j ≤ L.length → L.length - j < LIM ∧
    ((j : Int) < (N : Int) → (0 : Int) ≤ (j : Int) ∧ (j : Int) < (N : Int) ∧ j < L.length ∧ ((0 : Int) ≤ (nthD L j).asInt ∧ (nthD L j).asInt ≤ (1000 : Int)) ∧ spB.length + (decB (nthD L j).asInt).length < 9223372036854775808 ∧
      0 < (spB ++ decB (nthD L j).asInt).length ∧ 0 + ((strD A).length + (numsB L j).length) ≤ (strD A ++ strD (numsB L j)).length ∧ (strD A).length + (numsB L j).length + (spB ++ decB (nthD L j).asInt).length ≤ 16777216 ∧
      ((-9223372036854775808 : Int) ≤ (j : Int) + 1 ∧ (j : Int) + 1 < 9223372036854775808) ∧
      ∃ y : Nat, y ≤ L.length ∧ L.length - y < L.length - j ∧ ((j : Int) + 1 = (y : Int) ∧ True) ∧
        (True ∧ ((0 : Nat) = 0 ∧ (strD A).length + (numsB L j).length + (spB ++ decB (nthD L j).asInt).length = (strD A).length + (numsB L y).length ∧ True) ∧ True) ∧
        List.take ((strD A).length + (numsB L j).length) (strD A ++ strD (numsB L j)) ++ strD (spB ++ decB (nthD L j).asInt) = strD A ++ strD (numsB L y) ∧ True) ∧
    (((j : Int) < (N : Int) → False) → tailP l x xi A L j)
def waysP (W : List UInt8 → Prop) (sh : Int) : Prop :=
  (sh = 1 → W w1B) ∧ ((sh = 1 → False) → (sh = 2 → W w2B) ∧ ((sh = 2 → False) → (sh = 3 → W w3B) ∧ ((sh = 3 → False) → (sh = 4 → W w4B) ∧ ((sh = 4 → False) → W []))))
def way0 (l : D) (w : List UInt8) : Prop :=
  (headB (el l 0)).length + w.length < 9223372036854775808 ∧ 0 < (headB (el l 0) ++ w).length ∧ (headB (el l 0) ++ w).length ≤ 16777216 ∧
  ∃ _ : Unit, True ∧ True ∧ (True ∧ ((0 : Nat) = 0 ∧ (headB (el l 0) ++ w).length = (fmtL l 0 ++ lineB (el l 0)).length ∧ True) ∧ True) ∧ strD (headB (el l 0) ++ w) = strD (fmtL l 0 ++ lineB (el l 0)) ∧ True
def way1 (l : D) (x : Nat) (w : List UInt8) : Prop :=
  (headB (el l x)).length + w.length < 9223372036854775808 ∧ 0 < (headB (el l x) ++ w).length ∧ 0 + (fmtL l x).length ≤ (strD (fmtL l x)).length ∧ (fmtL l x).length + (headB (el l x) ++ w).length ≤ 16777216 ∧
  ∃ _ : Unit, True ∧ True ∧ (True ∧ ((0 : Nat) = 0 ∧ (fmtL l x).length + (headB (el l x) ++ w).length = (fmtL l x ++ lineB (el l x)).length ∧ True) ∧ True) ∧
    List.take (fmtL l x).length (strD (fmtL l x)) ++ strD (headB (el l x) ++ w) = strD (fmtL l x ++ lineB (el l x)) ∧ True
def roundP (l : D) (m x : Nat) (xi : Int) (W : List UInt8 → Prop) : Prop :=
  (0 : Int) ≤ xi ∧ xi < (l.len : Int) ∧
  (tblB.length + (tName (el l x)).length < 9223372036854775808 ∧ (tblB ++ tName (el l x)).length + spB.length < 9223372036854775808 ∧ waysP W (tShape (el l x))) ∧
  ∀ _ : Unit, True →
    ((tOpen (el l x)).len = 0 → innerP l m xi (fmtL l x ++ lineB (el l x)) (nums4 (el l x)) 4) ∧
    (0 < (tOpen (el l x)).len → 0 + 4 ≤ (nums4 (el l x)).length ∧ 4 + (tOpen (el l x)).len ≤ 16777216 ∧
      (4 + (tOpen (el l x)).len ≤ 4 → 0 + 4 + (tOpen (el l x)).len ≤ (nums4 (el l x)).length ∧
        innerP l m xi (fmtL l x ++ lineB (el l x)) (List.take (0 + 4) (nums4 (el l x)) ++ (tOpen (el l x)).asList ++ List.drop (0 + 4 + (tOpen (el l x)).len) (nums4 (el l x))) (4 + (tOpen (el l x)).len)) ∧
      (4 < 4 + (tOpen (el l x)).len → innerP l m xi (fmtL l x ++ lineB (el l x)) (List.take 4 (nums4 (el l x)) ++ (tOpen (el l x)).asList) (4 + (tOpen (el l x)).len)))
theorem vc58 (l : D) : symFun (ctxJ chk3) 6 58 [.dat 22 l] (.str (fmtD l)) =
  (smallD l ∧ (((badZ l).snd = 0 → False) → [] = fmtD l) ∧ ((((badZ l).snd = 0 → False) → False) →
    ((∃ x : Nat, x = 0 ∧ ((0 : Int) = 0 ∧ True) ∧ (True ∧ True ∧ True) ∧ True) ∨ ∃ x : Nat, (0 < x ∧ x ≤ l.len) ∧ ((0 : Int) = (x : Int) ∧ True) ∧ (False ∧ False ∧ True) ∧ False ∧ True) ∧
    (∀ x : Nat, x = 0 → l.len - x < LIM ∧ ((0 : Int) < (l.len : Int) → roundP l x 0 0 (way0 l)) ∧ (((0 : Int) < (l.len : Int) → False) → [] = fmtD l)) ∧
    ∀ x : Nat, 0 < x ∧ x ≤ l.len → l.len - x < LIM ∧ ((x : Int) < (l.len : Int) → roundP l x x (x : Int) (way1 l x)) ∧
      (((x : Int) < (l.len : Int) → False) → ((fmtL l x).length = 0 → False) ∧ (0 : Int) ≤ ((fmtL l x).length : Int) ∧ 0 < (fmtL l x).length ∧ (fmtL l x).length ≤ 16777216 ∧ 0 + (fmtL l x).length ≤ (strD (fmtL l x)).length ∧
        byteL (List.take (fmtL l x).length (strD (fmtL l x))) ∧ bytesD (List.take (fmtL l x).length (strD (fmtL l x))) = fmtD l))) := by kernel_rfl
theorem inner_ok {l : D} {m x : Nat} {xi : Int} {A : List UInt8} {L : List D} {N : Nat} (hm : m = x) (hxi : xi = (x : Int)) (hN : N = L.length) (hL : ∀ j, j < L.length → 0 ≤ (nthD L j).asInt ∧ (nthD L j).asInt ≤ 1000)
    (hl : L.length ≤ 104) (hA : A.length ≤ 100000) (hfm : A ++ numsB L L.length ++ nlB = fmtL l (x + 1)) (hx : x < l.len) (hll : l.len ≤ 100) : innerP l m xi A L N := by
  subst hm hxi hN
  refine ⟨⟨0, Nat.zero_le _, ⟨rfl, trivial⟩, ⟨trivial, ⟨rfl, by rw [strD_len]; rfl, trivial⟩, trivial⟩, by show _ = _ ++ strD []; simp [strD], trivial⟩, fun j hj => ⟨by unfold LIM; omega, fun hjN => ?_, fun hjN => ?_⟩⟩
  · have hlt : j < L.length := by omega
    have h1 := numsB_len L j
    have h2 := decB_len (nthD L j).asInt
    refine ⟨by omega, hjN, hlt, hL j hlt, by rw [sp_len]; omega, by simp only [List.length_append, sp_len]; omega, by simp only [List.length_append, strD_len]; omega, ?_, by omega, j + 1, hlt, by omega, ⟨by omega, trivial⟩, ⟨trivial, ⟨rfl, ?_, trivial⟩, trivial⟩, ?_, trivial⟩
    · simp only [List.length_append, sp_len, strD_len]; omega
    · show _ = _ + (numsB L j ++ (spB ++ decB (nthD L j).asInt)).length
      simp only [List.length_append]; omega
    · show _ = strD A ++ strD (numsB L j ++ (spB ++ decB (nthD L j).asInt))
      rw [List.take_of_length_le (by simp only [List.length_append, strD_len]; omega), strD_app (numsB L j), List.append_assoc]
  · have hjN : ¬ ((j : Int) < (L.length : Int)) := hjN
    have hj' : j = L.length := by omega
    subst hj'
    have h1 := numsB_len L L.length
    unfold tailP
    refine ⟨by simp only [List.length_append, strD_len]; omega, by rw [strD_len, nl_len]; omega, by omega, .inr ⟨m + 1, by omega, by omega, ⟨by omega, trivial⟩, ⟨trivial, ⟨rfl, ?_, trivial⟩, trivial⟩, ?_, trivial⟩⟩
    · rw [← hfm, strD_len]; simp only [List.length_append]
    · rw [← hfm, List.take_of_length_le (by simp only [List.length_append, strD_len]; omega), strD_app, strD_app]
theorem ways_ok {W : List UInt8 → Prop} {sh : Int} (hs : sh = 1 ∨ sh = 2 ∨ sh = 3 ∨ sh = 4) (h : W (wordB sh)) : waysP W sh := by
  unfold waysP
  rcases hs with rfl | rfl | rfl | rfl
  · exact ⟨fun _ => h, fun hn => (hn rfl).elim⟩
  · exact ⟨fun hn => absurd hn (by decide), fun _ => ⟨fun _ => h, fun hn => (hn rfl).elim⟩⟩
  · exact ⟨fun hn => absurd hn (by decide), fun _ => ⟨fun hn => absurd hn (by decide), fun _ => ⟨fun _ => h, fun hn => (hn rfl).elim⟩⟩⟩
  · exact ⟨fun hn => absurd hn (by decide), fun _ => ⟨fun hn => absurd hn (by decide), fun _ => ⟨fun hn => absurd hn (by decide), fun _ => ⟨fun _ => h, fun hn => (hn rfl).elim⟩⟩⟩⟩
theorem shape_of {d : D} (h : sizeT' d ≠ 0) : tShape d = 1 ∨ tShape d = 2 ∨ tShape d = 3 ∨ tShape d = 4 := by
  unfold sizeT' sizeZ at h
  split at h
  · rename_i h1; exact .inl h1.1
  · split at h
    · rename_i h1; exact .inr (.inl h1.1)
    · split at h
      · rename_i h1; exact .inr (.inr (.inl h1.1))
      · split at h
        · rename_i h1; exact .inr (.inr (.inr h1.1))
        · exact absurd rfl h
structure okTab (t : D) : Prop where
  err : errT t = 0
  name : (tName t).length ≤ 12
  size : sizeT' t ≠ 0
  few : (tOpen t).len ≤ 100
theorem tab_ok {l : D} (hs : smallD l) (hb : (badZ l).2 = 0) (k : Nat) (hk : k < l.len) : okTab (el l k) := by
  have h := (bad_ok hb k hk).1
  obtain ⟨h1, h2, _⟩ := errT_ok h
  exact ⟨h, h1.out.2.1, h2, hs.out.2 k hk⟩
theorem round_ok {l : D} {m x : Nat} {xi : Int} {W : List UInt8 → Prop} (hs : smallD l) (hb : (badZ l).2 = 0) (hm : m = x) (hxi : xi = (x : Int)) (hx : x < l.len) (hW : W (wordB (tShape (el l x)))) : roundP l m x xi W := by
  have ht := tab_ok hs hb x hx
  have hll := hs.out.1
  have hlen := fmtL_len l x (fun k hk => ⟨(tab_ok hs hb k (by omega)).name, (tab_ok hs hb k (by omega)).few⟩)
  have hline := line_len (el l x)
  have hname := ht.name
  have hfew := ht.few
  have hA : (fmtL l x ++ lineB (el l x)).length ≤ 100000 := by rw [List.length_append]; omega
  have hnum := nums_ok ht.err
  have hfm : fmtL l x ++ lineB (el l x) ++ numsB (numsL (el l x)) (numsL (el l x)).length ++ nlB = fmtL l (x + 1) := by
    show _ = fmtL l x ++ tableB (el l x)
    unfold tableB
    simp only [List.append_assoc]
  refine ⟨by omega, by omega, ⟨by rw [tbl_len]; omega, by simp only [List.length_append, tbl_len, sp_len]; omega, ways_ok (shape_of ht.size) hW⟩, fun _ _ => ⟨fun h0 => ?_, fun h0 => ⟨by rw [nums4_len]; omega, by omega, fun h1 => by omega, fun _ => ?_⟩⟩⟩
  · have e : nums4 (el l x) = numsL (el l x) := by unfold numsL; rw [open_nil h0, List.append_nil]
    rw [e]
    exact inner_ok hm hxi (by rw [← e]; rfl) hnum (by rw [numsL_len]; omega) hA hfm hx hll
  · have e : List.take 4 (nums4 (el l x)) ++ (tOpen (el l x)).asList = numsL (el l x) := rfl
    rw [e]
    exact inner_ok hm hxi (by rw [numsL_len]) hnum (by rw [numsL_len]; omega) hA hfm hx hll
theorem s83 (sh : Int) : symFun (ctx chk3 fmtAnn) 3 83 [.int .u8 sh] (.str (wordB sh)) := by
  rw [vc83]
  refine ⟨fun h => by subst h; rfl, fun h1 => ⟨fun h => by subst h; rfl, fun h2 => ⟨fun h => by subst h; rfl, fun h3 => ?_⟩⟩⟩
  unfold wordB
  rw [if_neg h1, if_neg h2, if_neg h3]
theorem s58 (l : D) (hs : smallD l) : symFun (ctxJ chk3) 6 58 [.dat 22 l] (.str (fmtD l)) := by
  rw [vc58]
  refine ⟨hs, fun hb => ?_, fun hb => ?_⟩
  · unfold fmtD; rw [if_neg hb]
  · have hb : (badZ l).2 = 0 := Classical.byContradiction hb
    have hll := hs.out.1
    have hf : fmtD l = fmtL l l.len := by unfold fmtD; rw [if_pos hb]
    rw [hf]
    have hok := tab_ok hs hb
    refine ⟨.inl ⟨0, rfl, ⟨rfl, trivial⟩, ⟨trivial, trivial, trivial⟩, trivial⟩, fun x hx => ⟨by unfold LIM; omega, fun h => ?_, fun h => ?_⟩, fun x hx => ⟨by unfold LIM; omega, fun h => ?_, fun h => ?_⟩⟩
    · have ht := hok 0 (by omega)
      have hname := ht.name
      have hline := line_len (el l 0)
      refine round_ok hs hb hx rfl (by omega) ?_
      have e : headB (el l 0) ++ wordB (tShape (el l 0)) = lineB (el l 0) := rfl
      have hh := head_len (el l 0)
      have hw := wordB_len (tShape (el l 0))
      unfold way0
      rw [e]
      refine ⟨by omega, ?_, by omega, (), trivial, trivial, ⟨trivial, ⟨rfl, rfl, trivial⟩, trivial⟩, rfl, trivial⟩
      rw [← e, List.length_append]; omega
    · have h : ¬ ((0 : Int) < (l.len : Int)) := h
      have : l.len = 0 := by omega
      rw [this]; rfl
    · have ht := hok x (by omega)
      have hname := ht.name
      have hline := line_len (el l x)
      have hlen := fmtL_len l x (fun k hk => ⟨(hok k (by omega)).name, (hok k (by omega)).few⟩)
      refine round_ok hs hb rfl rfl (by omega) ?_
      have e : headB (el l x) ++ wordB (tShape (el l x)) = lineB (el l x) := rfl
      have hh := head_len (el l x)
      have hw := wordB_len (tShape (el l x))
      unfold way1
      rw [e]
      refine ⟨by omega, ?_, by rw [strD_len]; omega, by omega, (), trivial, trivial, ⟨trivial, ⟨rfl, by rw [List.length_append], trivial⟩, trivial⟩, by rw [strD_take _ _ rfl, ← strD_app], trivial⟩
      rw [← e, List.length_append]; omega
    · have h : ¬ ((x : Int) < (l.len : Int)) := h
      have hxe : x = l.len := by omega
      subst hxe
      have hlen := fmtL_len l l.len (fun k hk => ⟨(hok k hk).name, (hok k hk).few⟩)
      have hpos := fmtL_pos l l.len hx.1
      refine ⟨fun h => by omega, by omega, hpos, by omega, by rw [strD_len]; omega, ?_, ?_⟩
      · rw [strD_take _ _ rfl]; exact byteL_strD _
      · rw [strD_take _ _ rfl, bytesD_strD]
theorem s27 (l : D) (h : fewD l) : symFun (ctx fmt2 fmtAnn) 4 27 [.dat 22 l] (.prop True) := by
  have hs := few_small h
  rw [vc27]
  have hfc : ∀ n, fmtL (copyD l) n = fmtL l n := fun n => by
    induction n with
    | zero => rfl
    | succ n ih =>
      unfold fmtL
      rw [ih]
      congr 1
      rcases copy_el l n with ⟨_, e⟩ | ⟨e, e'⟩
      · rw [e]
        rfl
      · rw [e, e']
  have hf : fmtD (copyD l) = fmtD l := by unfold fmtD; rw [c_bad, copy_dlen, hfc]
  refine ⟨hs, hs, fun hb => ⟨⟨hs, hb⟩, c_small hs, fun _ => ⟨c_small hs, iff_of_true (c_same l) trivial⟩, fun hn => (hn ?_).elim⟩, fun hb => ⟨c_small hs, fun _ => ⟨c_small hs, iff_of_true (c_same l) trivial⟩, fun hn => (hn ?_).elim⟩⟩
  · rw [hf]; unfold fmtD; rw [if_pos hb]
  · rw [hf]; unfold fmtD; rw [if_neg hb]
theorem s9 (l : D) : symFun (ctx fmt3 fmtAnn) 3 9 [.dat 22 l] (.prop True) := by
  rw [vc9]
  exact ⟨trivial, fun h => ⟨Classical.byContradiction h, fun _ => iff_of_true rfl trivial, fun h => (h trivial).elim⟩, fun _ => iff_of_true rfl trivial⟩
theorem s30 (l : D) (hs : smallD l) (hb : (badZ l).2 = 0) : symFun (ctx fmt1 fmtAnn) 3 30 [.dat 22 l] (.str (fmtL l l.len)) := by
  rw [vc30]
  have hll := hs.out.1
  have hok := tab_ok hs hb
  refine ⟨⟨0, Nat.zero_le _, ⟨rfl, rfl, trivial⟩, trivial⟩, fun x hx => ⟨by unfold LIM; omega, fun h => ?_, fun h => ?_⟩⟩
  · have hx' : x < l.len := by omega
    have ht := hok x hx'
    have hname := ht.name
    have hfew := ht.few
    have hlen := fmtL_len l x (fun k hk => ⟨(hok k (by omega)).name, (hok k (by omega)).few⟩)
    have hw := wordB_len (tShape (el l x))
    have hnum := nums_ok ht.err
    have hnl := numsL_len (el l x)
    have n0 := hnum 0 (by omega)
    have n1 := hnum 1 (by omega)
    have n2 := hnum 2 (by omega)
    have n3 := hnum 3 (by omega)
    have d0 := decB_len (tA (el l x))
    have d1 := decB_len (tB (el l x))
    have d2 := decB_len (tX (el l x))
    have d3 := decB_len (tY (el l x))
    have hbody : ∀ k, (fmtL l x ++ (lineB (el l x) ++ numsB (numsL (el l x)) (4 + k))).length ≤ 100100 + 6 * k := fun k => by
      have h1 := numsB_len (numsL (el l x)) (4 + k)
      have h2 := line_len (el l x)
      simp only [List.length_append]; omega
    have h4 : numsB (numsL (el l x)) 4 = spB ++ decB (tA (el l x)) ++ (spB ++ decB (tB (el l x))) ++ (spB ++ decB (tX (el l x))) ++ (spB ++ decB (tY (el l x))) := rfl
    have hel : ∀ k, (el (tOpen (el l x)) k).asInt = (nthD (numsL (el l x)) (4 + k)).asInt := fun k => by
      unfold numsL
      rw [nthD_app, nums4_len, if_neg (by omega), Nat.add_sub_cancel_left]
      rfl
    refine ⟨by omega, h, ?_, ?_, ?_, trivial, ?_, ?_, n0, ?_, ?_, n1, ?_, ?_, n2, ?_, ?_, n3, ?_, ⟨0, Nat.zero_le _, ⟨rfl, ?_, trivial⟩, trivial⟩, fun k hk => ⟨by unfold LIM; omega, fun hkl => ?_, fun hkl => ?_⟩⟩
    all_goals try (simp only [List.length_append, tbl_len, sp_len]; omega)
    · show _ = fmtL l x ++ (lineB (el l x) ++ numsB (numsL (el l x)) 4)
      rw [h4]
      unfold lineB headB
      simp only [List.append_assoc]
    · have hk' : k < (tOpen (el l x)).len := by omega
      have hb1 := hbody k
      have hn := hnum (4 + k) (by omega)
      rw [hel]
      have d4 := decB_len (nthD (numsL (el l x)) (4 + k)).asInt
      refine ⟨by rw [sp_len]; omega, by omega, hkl, hn, by rw [List.length_append, sp_len]; omega, by omega, k + 1, hk', by omega, ⟨by omega, ?_, trivial⟩, trivial⟩
      show _ = fmtL l x ++ (lineB (el l x) ++ (numsB (numsL (el l x)) (4 + k) ++ (spB ++ decB (nthD (numsL (el l x)) (4 + k)).asInt)))
      simp only [List.append_assoc]
    · have hkl : ¬ ((k : Int) < ((tOpen (el l x)).len : Int)) := hkl
      have hke : k = (tOpen (el l x)).len := by have : k ≤ (tOpen (el l x)).len := hk; omega
      have hb1 := hbody k
      refine ⟨by rw [nl_len]; omega, by omega, x + 1, hx', by omega, ⟨by omega, ?_, trivial⟩, trivial⟩
      show _ = fmtL l x ++ tableB (el l x)
      unfold tableB
      rw [hnl, hke]
      simp only [List.append_assoc]
  · have h : ¬ ((x : Int) < (l.len : Int)) := h
    have hxe : x = l.len := by have : x ≤ l.len := hx; omega
    rw [hxe]
end Go.Ev

end
