/-
  Part of the engine that the claim is proved with: it states nothing of the document by itself.
-/
import Derived.Test.YtehipkhbnhagbaaGreatDoorCoreChkA
import Derived.Test.YtehipkhbnhagbaaGreatDoorCoreChkDefs

open Go.Proofs
namespace Go.Ev
set_option maxRecDepth 100000
theorem vc66 : ∀ (l : D),
 symFun (ctx chk2 chkAnn) (5 : Nat) (66 : FuncId) [V.dat (22 : TypeId) l] (V.dat (22 : TypeId) (copyD l)) =
 (((∃ (x : Nat), x = (0 : Nat) ∧ ((0 : Int) = (0 : Int) ∧ True ∧ True) ∧ True) ∨
 ∃ (x : Nat), ((0 : Nat) < x ∧ x ≤ l.len) ∧ ((0 : Int) = (↑x : Int) ∧ False ∧ True) ∧ False ∧ True) ∧
 (∀ (x : Nat),
 x = (0 : Nat) →
 l.len - x < LIM ∧
 ((0 : Int) < (↑l.len : Int) →
 (0 : Int) ≤ (0 : Int) ∧
 (0 : Int) < (↑l.len : Int) ∧
 ((tOpen (el l (Int.toNat (0 : Int)))).isNil →
 (0 : Nat) + (1 : Nat) ≤ [D.int (-7 : Int)].length ∧
 (1 : Nat) ≤ (16777216 : Nat) ∧
 (0 : Int) ≤ (0 : Int) ∧
 (0 : Int) ≤ (↑(tOpen (el l (Int.toNat (0 : Int)))).len : Int) ∧
 ((↑(1 : Nat) : Int) - (↑(tOpen (el l (Int.toNat (0 : Int)))).len : Int)).NonNeg ∧
 (0 : Nat) + (0 : Nat) + (tOpen (el l (Int.toNat (0 : Int)))).len ≤ (List.take (1 : Nat) [D.int (-7 : Int)]).length ∧
 (0 : Nat) + (1 : Nat) ≤
 [D.sct
 [D.str (tName (el l (Int.toNat (0 : Int)))), D.int (tShape (el l (Int.toNat (0 : Int)))),
 D.int (tA (el l (Int.toNat (0 : Int)))), D.int (tB (el l (Int.toNat (0 : Int)))),
 D.list
 (List.take (tOpen (el l (Int.toNat (0 : Int)))).len
 (List.drop ((0 : Nat) + (0 : Nat)) (List.take (1 : Nat) [D.int (-7 : Int)]))),
 D.int (tX (el l (Int.toNat (0 : Int)))), D.int (tY (el l (Int.toNat (0 : Int))))]].length ∧
 (1 : Nat) ≤ (16777216 : Nat) ∧
 ((-9223372036854775808 : Int) ≤ (0 : Int) + (1 : Int) ∧ (0 : Int) + (1 : Int) < (9223372036854775808 : Int)) ∧
 ((∃ (y : Nat), y = (0 : Nat) ∧ l.len - y < l.len - x ∧ ((0 : Int) + (1 : Int) = (0 : Int) ∧ False ∧ True) ∧ True) ∨
 ∃ (y : Nat),
 ((0 : Nat) < y ∧ y ≤ l.len) ∧
 l.len - y < l.len - x ∧
 ((0 : Int) + (1 : Int) = (↑y : Int) ∧ ((0 : Nat) = (0 : Nat) ∧ (1 : Nat) = y ∧ True) ∧ True) ∧
 List.take (1 : Nat)
 [D.sct
 [D.str (tName (el l (Int.toNat (0 : Int)))), D.int (tShape (el l (Int.toNat (0 : Int)))),
 D.int (tA (el l (Int.toNat (0 : Int)))), D.int (tB (el l (Int.toNat (0 : Int)))),
 D.list
 (List.take (tOpen (el l (Int.toNat (0 : Int)))).len
 (List.drop ((0 : Nat) + (0 : Nat)) (List.take (1 : Nat) [D.int (-7 : Int)]))),
 D.int (tX (el l (Int.toNat (0 : Int)))), D.int (tY (el l (Int.toNat (0 : Int))))]] =
 copyL l y ∧
 True)) ∧
 (((tOpen (el l (Int.toNat (0 : Int)))).isNil → False) →
 ((tOpen (el l (Int.toNat (0 : Int)))).len = (0 : Nat) →
 (0 : Nat) + (1 : Nat) ≤ [D.int (-7 : Int)].length ∧
 (0 : Nat) + (0 : Nat) ≤ ([] : List D).length ∧
 (0 : Nat) + (1 : Nat) ≤ (16777216 : Nat) ∧
 (0 : Int) ≤ (0 : Int) ∧
 (0 : Int) ≤ (↑(tOpen (el l (Int.toNat (0 : Int)))).len : Int) ∧
 ((↑((0 : Nat) + (1 : Nat)) : Int) - (↑(tOpen (el l (Int.toNat (0 : Int)))).len : Int)).NonNeg ∧
 (0 : Nat) + (0 : Nat) + (tOpen (el l (Int.toNat (0 : Int)))).len ≤
 (List.take (0 : Nat) ([] : List D) ++ List.take (1 : Nat) [D.int (-7 : Int)]).length ∧
 (0 : Nat) + (1 : Nat) ≤
 [D.sct
 [D.str (tName (el l (Int.toNat (0 : Int)))), D.int (tShape (el l (Int.toNat (0 : Int)))),
 D.int (tA (el l (Int.toNat (0 : Int)))), D.int (tB (el l (Int.toNat (0 : Int)))),
 D.list
 (List.take (tOpen (el l (Int.toNat (0 : Int)))).len
 (List.drop ((0 : Nat) + (0 : Nat))
 (List.take (0 : Nat) ([] : List D) ++ List.take (1 : Nat) [D.int (-7 : Int)]))),
 D.int (tX (el l (Int.toNat (0 : Int)))), D.int (tY (el l (Int.toNat (0 : Int))))]].length ∧
 (1 : Nat) ≤ (16777216 : Nat) ∧
 ((-9223372036854775808 : Int) ≤ (0 : Int) + (1 : Int) ∧ (0 : Int) + (1 : Int) < (9223372036854775808 : Int)) ∧
 ((∃ (y : Nat),
 y = (0 : Nat) ∧ l.len - y < l.len - x ∧ ((0 : Int) + (1 : Int) = (0 : Int) ∧ False ∧ True) ∧ True) ∨
 ∃ (y : Nat),
 ((0 : Nat) < y ∧ y ≤ l.len) ∧
 l.len - y < l.len - x ∧
 ((0 : Int) + (1 : Int) = (↑y : Int) ∧ ((0 : Nat) = (0 : Nat) ∧ (1 : Nat) = y ∧ True) ∧ True) ∧
 List.take (1 : Nat)
 [D.sct
 [D.str (tName (el l (Int.toNat (0 : Int)))), D.int (tShape (el l (Int.toNat (0 : Int)))),
 D.int (tA (el l (Int.toNat (0 : Int)))), D.int (tB (el l (Int.toNat (0 : Int)))),
 D.list
 (List.take (tOpen (el l (Int.toNat (0 : Int)))).len
 (List.drop ((0 : Nat) + (0 : Nat))
 (List.take (0 : Nat) ([] : List D) ++ List.take (1 : Nat) [D.int (-7 : Int)]))),
 D.int (tX (el l (Int.toNat (0 : Int)))), D.int (tY (el l (Int.toNat (0 : Int))))]] =
 copyL l y ∧
 True)) ∧
 ((0 : Nat) < (tOpen (el l (Int.toNat (0 : Int)))).len →
 (0 : Nat) + (0 : Nat) ≤ ([] : List D).length ∧
 (0 : Nat) + (tOpen (el l (Int.toNat (0 : Int)))).len ≤ (16777216 : Nat) ∧
 ((0 : Nat) + (tOpen (el l (Int.toNat (0 : Int)))).len ≤ (0 : Nat) →
 (0 : Nat) + (0 : Nat) + (tOpen (el l (Int.toNat (0 : Int)))).len ≤ ([] : List D).length ∧
 (0 : Nat) + (1 : Nat) ≤ [D.int (-7 : Int)].length ∧
 (0 : Nat) + (tOpen (el l (Int.toNat (0 : Int)))).len ≤
 (List.take ((0 : Nat) + (0 : Nat)) [] ++ (tOpen (el l (Int.toNat (0 : Int)))).asList ++
 List.drop ((0 : Nat) + (0 : Nat) + (tOpen (el l (Int.toNat (0 : Int)))).len) []).length ∧
 (tOpen (el l (Int.toNat (0 : Int)))).len + (1 : Nat) ≤ (16777216 : Nat) ∧
 ((tOpen (el l (Int.toNat (0 : Int)))).len + (1 : Nat) ≤ (0 : Nat) →
 (0 : Nat) + (tOpen (el l (Int.toNat (0 : Int)))).len + (1 : Nat) ≤
 (List.take ((0 : Nat) + (0 : Nat)) [] ++ (tOpen (el l (Int.toNat (0 : Int)))).asList ++
 List.drop ((0 : Nat) + (0 : Nat) + (tOpen (el l (Int.toNat (0 : Int)))).len) []).length ∧
 (0 : Int) ≤ (0 : Int) ∧
 (0 : Int) ≤ (↑(tOpen (el l (Int.toNat (0 : Int)))).len : Int) ∧
 ((↑(0 : Nat) : Int) - (↑(tOpen (el l (Int.toNat (0 : Int)))).len : Int)).NonNeg ∧
 (0 : Nat) + (0 : Nat) + (tOpen (el l (Int.toNat (0 : Int)))).len ≤
 (List.take ((0 : Nat) + (tOpen (el l (Int.toNat (0 : Int)))).len)
 (List.take ((0 : Nat) + (0 : Nat)) [] ++ (tOpen (el l (Int.toNat (0 : Int)))).asList ++
 List.drop ((0 : Nat) + (0 : Nat) + (tOpen (el l (Int.toNat (0 : Int)))).len) []) ++
 List.take (1 : Nat) [D.int (-7 : Int)] ++
 List.drop ((0 : Nat) + (tOpen (el l (Int.toNat (0 : Int)))).len + (1 : Nat))
 (List.take ((0 : Nat) + (0 : Nat)) [] ++ (tOpen (el l (Int.toNat (0 : Int)))).asList ++
 List.drop ((0 : Nat) + (0 : Nat) + (tOpen (el l (Int.toNat (0 : Int)))).len) [])).length ∧
 (0 : Nat) + (1 : Nat) ≤
 [D.sct
 [D.str (tName (el l (Int.toNat (0 : Int)))), D.int (tShape (el l (Int.toNat (0 : Int)))),
 D.int (tA (el l (Int.toNat (0 : Int)))), D.int (tB (el l (Int.toNat (0 : Int)))),
 D.list
 (List.take (tOpen (el l (Int.toNat (0 : Int)))).len
 (List.drop ((0 : Nat) + (0 : Nat))
 (List.take ((0 : Nat) + (tOpen (el l (Int.toNat (0 : Int)))).len)
 (List.take ((0 : Nat) + (0 : Nat)) [] ++
 (tOpen (el l (Int.toNat (0 : Int)))).asList ++
 List.drop
 ((0 : Nat) + (0 : Nat) + (tOpen (el l (Int.toNat (0 : Int)))).len)
 []) ++
 List.take (1 : Nat) [D.int (-7 : Int)] ++
 List.drop ((0 : Nat) + (tOpen (el l (Int.toNat (0 : Int)))).len + (1 : Nat))
 (List.take ((0 : Nat) + (0 : Nat)) [] ++
 (tOpen (el l (Int.toNat (0 : Int)))).asList ++
 List.drop ((0 : Nat) + (0 : Nat) + (tOpen (el l (Int.toNat (0 : Int)))).len)
 [])))),
 D.int (tX (el l (Int.toNat (0 : Int)))),
 D.int (tY (el l (Int.toNat (0 : Int))))]].length ∧
 (1 : Nat) ≤ (16777216 : Nat) ∧
 ((-9223372036854775808 : Int) ≤ (0 : Int) + (1 : Int) ∧
 (0 : Int) + (1 : Int) < (9223372036854775808 : Int)) ∧
 ((∃ (y : Nat),
 y = (0 : Nat) ∧
 l.len - y < l.len - x ∧ ((0 : Int) + (1 : Int) = (0 : Int) ∧ False ∧ True) ∧ True) ∨
 ∃ (y : Nat),
 ((0 : Nat) < y ∧ y ≤ l.len) ∧
 l.len - y < l.len - x ∧
 ((0 : Int) + (1 : Int) = (↑y : Int) ∧
 ((0 : Nat) = (0 : Nat) ∧ (1 : Nat) = y ∧ True) ∧ True) ∧
 List.take (1 : Nat)
 [D.sct
 [D.str (tName (el l (Int.toNat (0 : Int)))),
 D.int (tShape (el l (Int.toNat (0 : Int)))),
 D.int (tA (el l (Int.toNat (0 : Int)))),
 D.int (tB (el l (Int.toNat (0 : Int)))),
 D.list
 (List.take (tOpen (el l (Int.toNat (0 : Int)))).len
 (List.drop ((0 : Nat) + (0 : Nat))
 (List.take ((0 : Nat) + (tOpen (el l (Int.toNat (0 : Int)))).len)
 (List.take ((0 : Nat) + (0 : Nat)) [] ++
 (tOpen (el l (Int.toNat (0 : Int)))).asList ++
 List.drop
 ((0 : Nat) + (0 : Nat) +
 (tOpen (el l (Int.toNat (0 : Int)))).len)
 []) ++
 List.take (1 : Nat) [D.int (-7 : Int)] ++
 List.drop
 ((0 : Nat) + (tOpen (el l (Int.toNat (0 : Int)))).len +
 (1 : Nat))
 (List.take ((0 : Nat) + (0 : Nat)) [] ++
 (tOpen (el l (Int.toNat (0 : Int)))).asList ++
 List.drop
 ((0 : Nat) + (0 : Nat) +
 (tOpen (el l (Int.toNat (0 : Int)))).len)
 [])))),
 D.int (tX (el l (Int.toNat (0 : Int)))),
 D.int (tY (el l (Int.toNat (0 : Int))))]] =
 copyL l y ∧
 True)) ∧
 ((0 : Nat) < (tOpen (el l (Int.toNat (0 : Int)))).len + (1 : Nat) →
 (0 : Int) ≤ (0 : Int) ∧
 (0 : Int) ≤ (↑(tOpen (el l (Int.toNat (0 : Int)))).len : Int) ∧
 ((↑((tOpen (el l (Int.toNat (0 : Int)))).len + (1 : Nat)) : Int) -
 (↑(tOpen (el l (Int.toNat (0 : Int)))).len : Int)).NonNeg ∧
 (0 : Nat) + (0 : Nat) + (tOpen (el l (Int.toNat (0 : Int)))).len ≤
 (List.take (tOpen (el l (Int.toNat (0 : Int)))).len
 (List.take ((0 : Nat) + (0 : Nat)) [] ++ (tOpen (el l (Int.toNat (0 : Int)))).asList ++
 List.drop ((0 : Nat) + (0 : Nat) + (tOpen (el l (Int.toNat (0 : Int)))).len) []) ++
 List.take (1 : Nat) [D.int (-7 : Int)]).length ∧
 (0 : Nat) + (1 : Nat) ≤
 [D.sct
 [D.str (tName (el l (Int.toNat (0 : Int)))), D.int (tShape (el l (Int.toNat (0 : Int)))),
 D.int (tA (el l (Int.toNat (0 : Int)))), D.int (tB (el l (Int.toNat (0 : Int)))),
 D.list
 (List.take (tOpen (el l (Int.toNat (0 : Int)))).len
 (List.drop ((0 : Nat) + (0 : Nat))
 (List.take (tOpen (el l (Int.toNat (0 : Int)))).len
 (List.take ((0 : Nat) + (0 : Nat)) [] ++
 (tOpen (el l (Int.toNat (0 : Int)))).asList ++
 List.drop ((0 : Nat) + (0 : Nat) + (tOpen (el l (Int.toNat (0 : Int)))).len)
 []) ++
 List.take (1 : Nat) [D.int (-7 : Int)]))),
 D.int (tX (el l (Int.toNat (0 : Int)))),
 D.int (tY (el l (Int.toNat (0 : Int))))]].length ∧
 (1 : Nat) ≤ (16777216 : Nat) ∧
 ((-9223372036854775808 : Int) ≤ (0 : Int) + (1 : Int) ∧
 (0 : Int) + (1 : Int) < (9223372036854775808 : Int)) ∧
 ((∃ (y : Nat),
 y = (0 : Nat) ∧
 l.len - y < l.len - x ∧ ((0 : Int) + (1 : Int) = (0 : Int) ∧ False ∧ True) ∧ True) ∨
 ∃ (y : Nat),
 ((0 : Nat) < y ∧ y ≤ l.len) ∧
 l.len - y < l.len - x ∧
 ((0 : Int) + (1 : Int) = (↑y : Int) ∧
 ((0 : Nat) = (0 : Nat) ∧ (1 : Nat) = y ∧ True) ∧ True) ∧
 List.take (1 : Nat)
 [D.sct
 [D.str (tName (el l (Int.toNat (0 : Int)))),
 D.int (tShape (el l (Int.toNat (0 : Int)))),
 D.int (tA (el l (Int.toNat (0 : Int)))),
 D.int (tB (el l (Int.toNat (0 : Int)))),
 D.list
 (List.take (tOpen (el l (Int.toNat (0 : Int)))).len
 (List.drop ((0 : Nat) + (0 : Nat))
 (List.take (tOpen (el l (Int.toNat (0 : Int)))).len
 (List.take ((0 : Nat) + (0 : Nat)) [] ++
 (tOpen (el l (Int.toNat (0 : Int)))).asList ++
 List.drop
 ((0 : Nat) + (0 : Nat) +
 (tOpen (el l (Int.toNat (0 : Int)))).len)
 []) ++
 List.take (1 : Nat) [D.int (-7 : Int)]))),
 D.int (tX (el l (Int.toNat (0 : Int)))),
 D.int (tY (el l (Int.toNat (0 : Int))))]] =
 copyL l y ∧
 True))) ∧
 ((0 : Nat) < (0 : Nat) + (tOpen (el l (Int.toNat (0 : Int)))).len →
 (0 : Nat) + (1 : Nat) ≤ [D.int (-7 : Int)].length ∧
 (0 : Nat) + (tOpen (el l (Int.toNat (0 : Int)))).len ≤
 (List.take (0 : Nat) ([] : List D) ++ (tOpen (el l (Int.toNat (0 : Int)))).asList).length ∧
 (tOpen (el l (Int.toNat (0 : Int)))).len + (1 : Nat) ≤ (16777216 : Nat) ∧
 (0 : Int) ≤ (0 : Int) ∧
 (0 : Int) ≤ (↑(tOpen (el l (Int.toNat (0 : Int)))).len : Int) ∧
 ((↑((tOpen (el l (Int.toNat (0 : Int)))).len + (1 : Nat)) : Int) -
 (↑(tOpen (el l (Int.toNat (0 : Int)))).len : Int)).NonNeg ∧
 (0 : Nat) + (0 : Nat) + (tOpen (el l (Int.toNat (0 : Int)))).len ≤
 (List.take (tOpen (el l (Int.toNat (0 : Int)))).len
 (List.take (0 : Nat) ([] : List D) ++ (tOpen (el l (Int.toNat (0 : Int)))).asList) ++
 List.take (1 : Nat) [D.int (-7 : Int)]).length ∧
 (0 : Nat) + (1 : Nat) ≤
 [D.sct
 [D.str (tName (el l (Int.toNat (0 : Int)))), D.int (tShape (el l (Int.toNat (0 : Int)))),
 D.int (tA (el l (Int.toNat (0 : Int)))), D.int (tB (el l (Int.toNat (0 : Int)))),
 D.list
 (List.take (tOpen (el l (Int.toNat (0 : Int)))).len
 (List.drop ((0 : Nat) + (0 : Nat))
 (List.take (tOpen (el l (Int.toNat (0 : Int)))).len
 (List.take (0 : Nat) ([] : List D) ++ (tOpen (el l (Int.toNat (0 : Int)))).asList) ++
 List.take (1 : Nat) [D.int (-7 : Int)]))),
 D.int (tX (el l (Int.toNat (0 : Int)))), D.int (tY (el l (Int.toNat (0 : Int))))]].length ∧
 (1 : Nat) ≤ (16777216 : Nat) ∧
 ((-9223372036854775808 : Int) ≤ (0 : Int) + (1 : Int) ∧
 (0 : Int) + (1 : Int) < (9223372036854775808 : Int)) ∧
 ((∃ (y : Nat),
 y = (0 : Nat) ∧
 l.len - y < l.len - x ∧ ((0 : Int) + (1 : Int) = (0 : Int) ∧ False ∧ True) ∧ True) ∨
 ∃ (y : Nat),
 ((0 : Nat) < y ∧ y ≤ l.len) ∧
 l.len - y < l.len - x ∧
 ((0 : Int) + (1 : Int) = (↑y : Int) ∧ ((0 : Nat) = (0 : Nat) ∧ (1 : Nat) = y ∧ True) ∧ True) ∧
 List.take (1 : Nat)
 [D.sct
 [D.str (tName (el l (Int.toNat (0 : Int)))),
 D.int (tShape (el l (Int.toNat (0 : Int)))),
 D.int (tA (el l (Int.toNat (0 : Int)))),
 D.int (tB (el l (Int.toNat (0 : Int)))),
 D.list
 (List.take (tOpen (el l (Int.toNat (0 : Int)))).len
 (List.drop ((0 : Nat) + (0 : Nat))
 (List.take (tOpen (el l (Int.toNat (0 : Int)))).len
 (List.take (0 : Nat) ([] : List D) ++
 (tOpen (el l (Int.toNat (0 : Int)))).asList) ++
 List.take (1 : Nat) [D.int (-7 : Int)]))),
 D.int (tX (el l (Int.toNat (0 : Int)))),
 D.int (tY (el l (Int.toNat (0 : Int))))]] =
 copyL l y ∧
 True))))) ∧
 (((0 : Int) < (↑l.len : Int) → False) → D.nil = copyD l)) ∧
 ∀ (x : Nat),
 (0 : Nat) < x ∧ x ≤ l.len →
 l.len - x < LIM ∧
 ((↑x : Int) < (↑l.len : Int) →
 (0 : Int) ≤ (↑x : Int) ∧
 (↑x : Int) < (↑l.len : Int) ∧
 ((tOpen (el l x)).isNil →
 (0 : Nat) + (1 : Nat) ≤ [D.int (-7 : Int)].length ∧
 (1 : Nat) ≤ (16777216 : Nat) ∧
 (0 : Int) ≤ (0 : Int) ∧
 (0 : Int) ≤ (↑(tOpen (el l x)).len : Int) ∧
 ((↑(1 : Nat) : Int) - (↑(tOpen (el l x)).len : Int)).NonNeg ∧
 (0 : Nat) + (0 : Nat) + (tOpen (el l x)).len ≤ (List.take (1 : Nat) [D.int (-7 : Int)]).length ∧
 (0 : Nat) + (1 : Nat) ≤
 [D.sct
 [D.str (tName (el l x)), D.int (tShape (el l x)), D.int (tA (el l x)), D.int (tB (el l x)),
 D.list
 (List.take (tOpen (el l x)).len
 (List.drop ((0 : Nat) + (0 : Nat)) (List.take (1 : Nat) [D.int (-7 : Int)]))),
 D.int (tX (el l x)), D.int (tY (el l x))]].length ∧
 (0 : Nat) + x ≤ (copyL l x).length ∧
 x + (1 : Nat) ≤ (16777216 : Nat) ∧
 ((-9223372036854775808 : Int) ≤ (↑x : Int) + (1 : Int) ∧ (↑x : Int) + (1 : Int) < (9223372036854775808 : Int)) ∧
 ((∃ (y : Nat),
 y = (0 : Nat) ∧ l.len - y < l.len - x ∧ ((↑x : Int) + (1 : Int) = (0 : Int) ∧ False ∧ True) ∧ True) ∨
 ∃ (y : Nat),
 ((0 : Nat) < y ∧ y ≤ l.len) ∧
 l.len - y < l.len - x ∧
 ((↑x : Int) + (1 : Int) = (↑y : Int) ∧ ((0 : Nat) = (0 : Nat) ∧ x + (1 : Nat) = y ∧ True) ∧ True) ∧
 List.take x (copyL l x) ++
 List.take (1 : Nat)
 [D.sct
 [D.str (tName (el l x)), D.int (tShape (el l x)), D.int (tA (el l x)), D.int (tB (el l x)),
 D.list
 (List.take (tOpen (el l x)).len
 (List.drop ((0 : Nat) + (0 : Nat)) (List.take (1 : Nat) [D.int (-7 : Int)]))),
 D.int (tX (el l x)), D.int (tY (el l x))]] =
 copyL l y ∧
 True)) ∧
 (((tOpen (el l x)).isNil → False) →
 ((tOpen (el l x)).len = (0 : Nat) →
 (0 : Nat) + (1 : Nat) ≤ [D.int (-7 : Int)].length ∧
 (0 : Nat) + (0 : Nat) ≤ ([] : List D).length ∧
 (0 : Nat) + (1 : Nat) ≤ (16777216 : Nat) ∧
 (0 : Int) ≤ (0 : Int) ∧
 (0 : Int) ≤ (↑(tOpen (el l x)).len : Int) ∧
 ((↑((0 : Nat) + (1 : Nat)) : Int) - (↑(tOpen (el l x)).len : Int)).NonNeg ∧
 (0 : Nat) + (0 : Nat) + (tOpen (el l x)).len ≤
 (List.take (0 : Nat) ([] : List D) ++ List.take (1 : Nat) [D.int (-7 : Int)]).length ∧
 (0 : Nat) + (1 : Nat) ≤
 [D.sct
 [D.str (tName (el l x)), D.int (tShape (el l x)), D.int (tA (el l x)), D.int (tB (el l x)),
 D.list
 (List.take (tOpen (el l x)).len
 (List.drop ((0 : Nat) + (0 : Nat))
 (List.take (0 : Nat) ([] : List D) ++ List.take (1 : Nat) [D.int (-7 : Int)]))),
 D.int (tX (el l x)), D.int (tY (el l x))]].length ∧
 (0 : Nat) + x ≤ (copyL l x).length ∧
 x + (1 : Nat) ≤ (16777216 : Nat) ∧
 ((-9223372036854775808 : Int) ≤ (↑x : Int) + (1 : Int) ∧
 (↑x : Int) + (1 : Int) < (9223372036854775808 : Int)) ∧
 ((∃ (y : Nat),
 y = (0 : Nat) ∧ l.len - y < l.len - x ∧ ((↑x : Int) + (1 : Int) = (0 : Int) ∧ False ∧ True) ∧ True) ∨
 ∃ (y : Nat),
 ((0 : Nat) < y ∧ y ≤ l.len) ∧
 l.len - y < l.len - x ∧
 ((↑x : Int) + (1 : Int) = (↑y : Int) ∧ ((0 : Nat) = (0 : Nat) ∧ x + (1 : Nat) = y ∧ True) ∧ True) ∧
 List.take x (copyL l x) ++
 List.take (1 : Nat)
 [D.sct
 [D.str (tName (el l x)), D.int (tShape (el l x)), D.int (tA (el l x)),
 D.int (tB (el l x)),
 D.list
 (List.take (tOpen (el l x)).len
 (List.drop ((0 : Nat) + (0 : Nat))
 (List.take (0 : Nat) ([] : List D) ++ List.take (1 : Nat) [D.int (-7 : Int)]))),
 D.int (tX (el l x)), D.int (tY (el l x))]] =
 copyL l y ∧
 True)) ∧
 ((0 : Nat) < (tOpen (el l x)).len →
 (0 : Nat) + (0 : Nat) ≤ ([] : List D).length ∧
 (0 : Nat) + (tOpen (el l x)).len ≤ (16777216 : Nat) ∧
 ((0 : Nat) + (tOpen (el l x)).len ≤ (0 : Nat) →
 (0 : Nat) + (0 : Nat) + (tOpen (el l x)).len ≤ ([] : List D).length ∧
 (0 : Nat) + (1 : Nat) ≤ [D.int (-7 : Int)].length ∧
 (0 : Nat) + (tOpen (el l x)).len ≤
 (List.take ((0 : Nat) + (0 : Nat)) [] ++ (tOpen (el l x)).asList ++
 List.drop ((0 : Nat) + (0 : Nat) + (tOpen (el l x)).len) []).length ∧
 (tOpen (el l x)).len + (1 : Nat) ≤ (16777216 : Nat) ∧
 ((tOpen (el l x)).len + (1 : Nat) ≤ (0 : Nat) →
 (0 : Nat) + (tOpen (el l x)).len + (1 : Nat) ≤
 (List.take ((0 : Nat) + (0 : Nat)) [] ++ (tOpen (el l x)).asList ++
 List.drop ((0 : Nat) + (0 : Nat) + (tOpen (el l x)).len) []).length ∧
 (0 : Int) ≤ (0 : Int) ∧
 (0 : Int) ≤ (↑(tOpen (el l x)).len : Int) ∧
 ((↑(0 : Nat) : Int) - (↑(tOpen (el l x)).len : Int)).NonNeg ∧
 (0 : Nat) + (0 : Nat) + (tOpen (el l x)).len ≤
 (List.take ((0 : Nat) + (tOpen (el l x)).len)
 (List.take ((0 : Nat) + (0 : Nat)) [] ++ (tOpen (el l x)).asList ++
 List.drop ((0 : Nat) + (0 : Nat) + (tOpen (el l x)).len) []) ++
 List.take (1 : Nat) [D.int (-7 : Int)] ++
 List.drop ((0 : Nat) + (tOpen (el l x)).len + (1 : Nat))
 (List.take ((0 : Nat) + (0 : Nat)) [] ++ (tOpen (el l x)).asList ++
 List.drop ((0 : Nat) + (0 : Nat) + (tOpen (el l x)).len) [])).length ∧
 (0 : Nat) + (1 : Nat) ≤
 [D.sct
 [D.str (tName (el l x)), D.int (tShape (el l x)), D.int (tA (el l x)),
 D.int (tB (el l x)),
 D.list
 (List.take (tOpen (el l x)).len
 (List.drop ((0 : Nat) + (0 : Nat))
 (List.take ((0 : Nat) + (tOpen (el l x)).len)
 (List.take ((0 : Nat) + (0 : Nat)) [] ++ (tOpen (el l x)).asList ++
 List.drop ((0 : Nat) + (0 : Nat) + (tOpen (el l x)).len) []) ++
 List.take (1 : Nat) [D.int (-7 : Int)] ++
 List.drop ((0 : Nat) + (tOpen (el l x)).len + (1 : Nat))
 (List.take ((0 : Nat) + (0 : Nat)) [] ++ (tOpen (el l x)).asList ++
 List.drop ((0 : Nat) + (0 : Nat) + (tOpen (el l x)).len) [])))),
 D.int (tX (el l x)), D.int (tY (el l x))]].length ∧
 (0 : Nat) + x ≤ (copyL l x).length ∧
 x + (1 : Nat) ≤ (16777216 : Nat) ∧
 ((-9223372036854775808 : Int) ≤ (↑x : Int) + (1 : Int) ∧
 (↑x : Int) + (1 : Int) < (9223372036854775808 : Int)) ∧
 ((∃ (y : Nat),
 y = (0 : Nat) ∧
 l.len - y < l.len - x ∧ ((↑x : Int) + (1 : Int) = (0 : Int) ∧ False ∧ True) ∧ True) ∨
 ∃ (y : Nat),
 ((0 : Nat) < y ∧ y ≤ l.len) ∧
 l.len - y < l.len - x ∧
 ((↑x : Int) + (1 : Int) = (↑y : Int) ∧
 ((0 : Nat) = (0 : Nat) ∧ x + (1 : Nat) = y ∧ True) ∧ True) ∧
 List.take x (copyL l x) ++
 List.take (1 : Nat)
 [D.sct
 [D.str (tName (el l x)), D.int (tShape (el l x)), D.int (tA (el l x)),
 D.int (tB (el l x)),
 D.list
 (List.take (tOpen (el l x)).len
 (List.drop ((0 : Nat) + (0 : Nat))
 (List.take ((0 : Nat) + (tOpen (el l x)).len)
 (List.take ((0 : Nat) + (0 : Nat)) [] ++
 (tOpen (el l x)).asList ++
 List.drop
 ((0 : Nat) + (0 : Nat) + (tOpen (el l x)).len)
 []) ++
 List.take (1 : Nat) [D.int (-7 : Int)] ++
 List.drop ((0 : Nat) + (tOpen (el l x)).len + (1 : Nat))
 (List.take ((0 : Nat) + (0 : Nat)) [] ++
 (tOpen (el l x)).asList ++
 List.drop ((0 : Nat) + (0 : Nat) + (tOpen (el l x)).len)
 [])))),
 D.int (tX (el l x)), D.int (tY (el l x))]] =
 copyL l y ∧
 True)) ∧
 ((0 : Nat) < (tOpen (el l x)).len + (1 : Nat) →
 (0 : Int) ≤ (0 : Int) ∧
 (0 : Int) ≤ (↑(tOpen (el l x)).len : Int) ∧
 ((↑((tOpen (el l x)).len + (1 : Nat)) : Int) - (↑(tOpen (el l x)).len : Int)).NonNeg ∧
 (0 : Nat) + (0 : Nat) + (tOpen (el l x)).len ≤
 (List.take (tOpen (el l x)).len
 (List.take ((0 : Nat) + (0 : Nat)) [] ++ (tOpen (el l x)).asList ++
 List.drop ((0 : Nat) + (0 : Nat) + (tOpen (el l x)).len) []) ++
 List.take (1 : Nat) [D.int (-7 : Int)]).length ∧
 (0 : Nat) + (1 : Nat) ≤
 [D.sct
 [D.str (tName (el l x)), D.int (tShape (el l x)), D.int (tA (el l x)), D.int (tB (el l x)),
 D.list
 (List.take (tOpen (el l x)).len
 (List.drop ((0 : Nat) + (0 : Nat))
 (List.take (tOpen (el l x)).len
 (List.take ((0 : Nat) + (0 : Nat)) [] ++ (tOpen (el l x)).asList ++
 List.drop ((0 : Nat) + (0 : Nat) + (tOpen (el l x)).len) []) ++
 List.take (1 : Nat) [D.int (-7 : Int)]))),
 D.int (tX (el l x)), D.int (tY (el l x))]].length ∧
 (0 : Nat) + x ≤ (copyL l x).length ∧
 x + (1 : Nat) ≤ (16777216 : Nat) ∧
 ((-9223372036854775808 : Int) ≤ (↑x : Int) + (1 : Int) ∧
 (↑x : Int) + (1 : Int) < (9223372036854775808 : Int)) ∧
 ((∃ (y : Nat),
 y = (0 : Nat) ∧
 l.len - y < l.len - x ∧ ((↑x : Int) + (1 : Int) = (0 : Int) ∧ False ∧ True) ∧ True) ∨
 ∃ (y : Nat),
 ((0 : Nat) < y ∧ y ≤ l.len) ∧
 l.len - y < l.len - x ∧
 ((↑x : Int) + (1 : Int) = (↑y : Int) ∧
 ((0 : Nat) = (0 : Nat) ∧ x + (1 : Nat) = y ∧ True) ∧ True) ∧
 List.take x (copyL l x) ++
 List.take (1 : Nat)
 [D.sct
 [D.str (tName (el l x)), D.int (tShape (el l x)), D.int (tA (el l x)),
 D.int (tB (el l x)),
 D.list
 (List.take (tOpen (el l x)).len
 (List.drop ((0 : Nat) + (0 : Nat))
 (List.take (tOpen (el l x)).len
 (List.take ((0 : Nat) + (0 : Nat)) [] ++
 (tOpen (el l x)).asList ++
 List.drop ((0 : Nat) + (0 : Nat) + (tOpen (el l x)).len)
 []) ++
 List.take (1 : Nat) [D.int (-7 : Int)]))),
 D.int (tX (el l x)), D.int (tY (el l x))]] =
 copyL l y ∧
 True))) ∧
 ((0 : Nat) < (0 : Nat) + (tOpen (el l x)).len →
 (0 : Nat) + (1 : Nat) ≤ [D.int (-7 : Int)].length ∧
 (0 : Nat) + (tOpen (el l x)).len ≤ (List.take (0 : Nat) ([] : List D) ++ (tOpen (el l x)).asList).length ∧
 (tOpen (el l x)).len + (1 : Nat) ≤ (16777216 : Nat) ∧
 (0 : Int) ≤ (0 : Int) ∧
 (0 : Int) ≤ (↑(tOpen (el l x)).len : Int) ∧
 ((↑((tOpen (el l x)).len + (1 : Nat)) : Int) - (↑(tOpen (el l x)).len : Int)).NonNeg ∧
 (0 : Nat) + (0 : Nat) + (tOpen (el l x)).len ≤
 (List.take (tOpen (el l x)).len (List.take (0 : Nat) ([] : List D) ++ (tOpen (el l x)).asList) ++
 List.take (1 : Nat) [D.int (-7 : Int)]).length ∧
 (0 : Nat) + (1 : Nat) ≤
 [D.sct
 [D.str (tName (el l x)), D.int (tShape (el l x)), D.int (tA (el l x)), D.int (tB (el l x)),
 D.list
 (List.take (tOpen (el l x)).len
 (List.drop ((0 : Nat) + (0 : Nat))
 (List.take (tOpen (el l x)).len (List.take (0 : Nat) ([] : List D) ++ (tOpen (el l x)).asList) ++
 List.take (1 : Nat) [D.int (-7 : Int)]))),
 D.int (tX (el l x)), D.int (tY (el l x))]].length ∧
 (0 : Nat) + x ≤ (copyL l x).length ∧
 x + (1 : Nat) ≤ (16777216 : Nat) ∧
 ((-9223372036854775808 : Int) ≤ (↑x : Int) + (1 : Int) ∧
 (↑x : Int) + (1 : Int) < (9223372036854775808 : Int)) ∧
 ((∃ (y : Nat),
 y = (0 : Nat) ∧
 l.len - y < l.len - x ∧ ((↑x : Int) + (1 : Int) = (0 : Int) ∧ False ∧ True) ∧ True) ∨
 ∃ (y : Nat),
 ((0 : Nat) < y ∧ y ≤ l.len) ∧
 l.len - y < l.len - x ∧
 ((↑x : Int) + (1 : Int) = (↑y : Int) ∧
 ((0 : Nat) = (0 : Nat) ∧ x + (1 : Nat) = y ∧ True) ∧ True) ∧
 List.take x (copyL l x) ++
 List.take (1 : Nat)
 [D.sct
 [D.str (tName (el l x)), D.int (tShape (el l x)), D.int (tA (el l x)),
 D.int (tB (el l x)),
 D.list
 (List.take (tOpen (el l x)).len
 (List.drop ((0 : Nat) + (0 : Nat))
 (List.take (tOpen (el l x)).len
 (List.take (0 : Nat) ([] : List D) ++ (tOpen (el l x)).asList) ++
 List.take (1 : Nat) [D.int (-7 : Int)]))),
 D.int (tX (el l x)), D.int (tY (el l x))]] =
 copyL l y ∧
 True))))) ∧
 (((↑x : Int) < (↑l.len : Int) → False) → (0 : Nat) + x ≤ (copyL l x).length ∧ D.list (List.take x (copyL l x)) = copyD l)) := by intros; kernel_rfl


theorem nonneg_iff (a b : Int) : (b - a).NonNeg ↔ a ≤ b := Iff.rfl
theorem f_toNat0 : Int.toNat (0 : Int) = 0 := rfl
theorem copy_succ (l : D) (x : Nat) : copyL l (x + 1) = copyL l x ++ [copyT (el l x)] := by
  unfold copyL; rw [List.range_succ, List.map_append]; rfl
theorem copy_len (l : D) (x : Nat) : (copyL l x).length = x := by unfold copyL; simp
theorem lastX (l : D) (x : Nat) (X : List D) (hX : List.take (tOpen (el l x)).len X = (tOpen (el l x)).asList) :
    List.take x (copyL l x) ++ List.take 1 [D.sct [D.str (tName (el l x)), D.int (tShape (el l x)), D.int (tA (el l x)), D.int (tB (el l x)), D.list (List.take (tOpen (el l x)).len X), D.int (tX (el l x)), D.int (tY (el l x))]] = copyL l (x + 1) := by
  rw [hX, copy_succ, List.take_of_length_le (by rw [copy_len]; exact Nat.le_refl _)]; rfl
theorem last0 (l : D) (X : List D) (hX : List.take (tOpen (el l 0)).len X = (tOpen (el l 0)).asList) :
    List.take 1 [D.sct [D.str (tName (el l 0)), D.int (tShape (el l 0)), D.int (tA (el l 0)), D.int (tB (el l 0)), D.list (List.take (tOpen (el l 0)).len X), D.int (tX (el l 0)), D.int (tY (el l 0))]] = copyL l 1 := by
  have := lastX l 0 X hX
  exact this
theorem take_zero (o : D) (X : List D) (h : o.len = 0) : List.take o.len X = o.asList := by
  rw [h, List.take_zero]; exact (List.eq_nil_of_length_eq_zero h).symm
theorem take_app (o : D) (Y : List D) : List.take o.len (List.take o.len o.asList ++ Y) = o.asList := by
  have e : List.take o.len o.asList = o.asList := List.take_of_length_le (Nat.le_refl _)
  rw [e]
  exact List.take_left' rfl
theorem take_app2 (o : D) (Y Z : List D) : List.take o.len (List.take o.len o.asList ++ Y ++ Z) = o.asList := by
  rw [List.append_assoc]; exact take_app o _
theorem isNil_len {o : D} (h : o.isNil) : o.len = 0 := by cases o <;> first | rfl | exact h.elim
theorem len_as (o : D) : o.asList.length = o.len := rfl
set_option maxHeartbeats 4000000 in
theorem s66 (l : D) (h : smallD l) : symFun (ctx chk2 chkAnn) 5 66 [.dat 22 l] (.dat 22 (copyD l)) := by
  have hlen := h.out.1
  rw [vc66]
  simp only [imp_false, Classical.not_not, true_and, and_true, false_and, and_false, or_false, false_or, exists_false, Nat.zero_add, Nat.add_zero, List.take_nil, List.drop_nil, List.drop_zero, List.nil_append, List.append_nil, List.length_nil, List.length_cons, List.length_append, nonneg_iff, f_toNat0, Nat.le_refl, Int.le_refl, forall_eq, exists_eq]
  refine ⟨⟨by unfold LIM; omega, fun hlt => ⟨hlt, ?_⟩, fun hge => ?_⟩, fun x ⟨hx0, hx⟩ => ⟨by unfold LIM; omega, fun hlt => ⟨by omega, hlt, ?_⟩, fun hge => ?_⟩⟩
  · have ho := h.out.2 0 (by omega)
    refine ⟨fun hnil => ?_, ?_⟩
    · have h0 := isNil_len hnil
      repeat' (first | refine And.intro ?_ ?_ | intro _)
      all_goals (first | omega | (simp; done) | (simp [h0]; done) | skip)
      exact ⟨_, ⟨by omega, by omega⟩, by omega, ⟨by omega, rfl⟩, last0 l _ (take_zero _ _ h0)⟩
    · repeat' (first | refine And.intro ?_ ?_ | intro _)
      all_goals (first | omega | (simp only [List.length_take, List.length_drop, List.length_cons, List.length_nil, len_as]; omega) | skip)
      all_goals (first
        | exact ⟨_, ⟨by omega, by omega⟩, by omega, ⟨by omega, rfl⟩, last0 l _ (take_zero _ _ (by omega))⟩
        | exact ⟨_, ⟨by omega, by omega⟩, by omega, ⟨by omega, rfl⟩, last0 l _ (take_app _ _)⟩
        | exact ⟨_, ⟨by omega, by omega⟩, by omega, ⟨by omega, rfl⟩, last0 l _ (take_app2 _ _ _)⟩)
  · have : l.len = 0 := by omega
    unfold copyD; rw [this]; rfl
  · have ho := h.out.2 x (by omega)
    have hc := copy_len l x
    refine ⟨fun hnil => ?_, ?_⟩
    · have h0 := isNil_len hnil
      repeat' (first | refine And.intro ?_ ?_ | intro _)
      all_goals (first | omega | (simp; done) | (simp [h0]; done) | skip)
      exact ⟨_, ⟨by omega, by omega⟩, by omega, ⟨by omega, rfl⟩, lastX l x _ (take_zero _ _ h0)⟩
    · repeat' (first | refine And.intro ?_ ?_ | intro _)
      all_goals (first | omega | (simp only [List.length_take, List.length_drop, List.length_cons, List.length_nil, len_as]; omega) | skip)
      all_goals (first
        | exact ⟨_, ⟨by omega, by omega⟩, by omega, ⟨by omega, rfl⟩, lastX l x _ (take_zero _ _ (by omega))⟩
        | exact ⟨_, ⟨by omega, by omega⟩, by omega, ⟨by omega, rfl⟩, lastX l x _ (take_app _ _)⟩
        | exact ⟨_, ⟨by omega, by omega⟩, by omega, ⟨by omega, rfl⟩, lastX l x _ (take_app2 _ _ _)⟩)
  · have : x = l.len := by omega
    subst this
    have hne : copyL l l.len ≠ [] := fun hn => by have := copy_len l l.len; rw [hn] at this; simp at this; omega
    have hl : copyD l = .list (copyL l l.len) := by
      unfold copyD listD
      split
      · rename_i hn; exact absurd hn hne
      · rfl
    rw [hl, List.take_of_length_le (by rw [copy_len]; exact Nat.le_refl _)]
    exact ⟨by rw [copy_len]; exact Nat.le_refl _, rfl⟩
end Go.Ev

open Go.Proofs
namespace Go.Ev
set_option maxRecDepth 100000
theorem vc20 : ∀ (l : D) (s : List UInt8) (t : Int),
 symFun (ctx chk3 chkAnn) (5 : Nat) (20 : FuncId) [V.dat (22 : TypeId) l, V.str s, V.int IntKind.i64 t] (V.prop True) =
 (smallD l ∧
 smallD (copyD l) ∧
 smallD l ∧
 ((((badZ (copyD l)).fst = (badZ l).fst → False) → False) →
 (((badZ (copyD l)).snd = (badZ l).snd → False) → (false = true ↔ True)) ∧
 ((((badZ (copyD l)).snd = (badZ l).snd → False) → False) →
 (∃ (x : Nat), x.le l.len ∧ ((0 : Int) = (↑x : Int) ∧ True) ∧ True) ∧
 ∀ (x : Nat),
 x.le l.len →
 l.len - x < LIM ∧
 ((↑x : Int) < (↑(copyD l).len : Int) →
 (0 : Int) ≤ (↑x : Int) ∧
 (↑x : Int) < (↑l.len : Int) ∧
 (tOpen (el l x)).len ≤ (100 : Nat) ∧
 (errT (el l x) = (0 : Int) →
 (0 : Int) ≤ (↑x : Int) ∧
 (↑x : Int) < (↑l.len : Int) ∧
 True ∧
 (0 : Int) ≤ (↑x : Int) ∧
 (↑x : Int) < (↑(copyD l).len : Int) ∧
 (tOpen (el (copyD l) x)).len ≤ (100 : Nat) ∧
 (((errT (el (copyD l) x) = errT (el l x) → False) → False) →
 (0 : Int) ≤ (↑x : Int) ∧
 (↑x : Int) < (↑(copyD l).len : Int) ∧
 (tOpen (el (copyD l) x)).len ≤ (100 : Nat) ∧
 ((errT (el (copyD l) x) = (0 : Int) → False) →
 (((0 : Int) = sizeT' (el l x) → False) → (false = true ↔ True)) ∧
 ((((0 : Int) = sizeT' (el l x) → False) → False) →
 ((-9223372036854775808 : Int) ≤ (↑x : Int) + (1 : Int) ∧
 (↑x : Int) + (1 : Int) < (9223372036854775808 : Int)) ∧
 ∃ (y : Nat),
 y.le l.len ∧
 l.len - y < l.len - x ∧ ((↑x : Int) + (1 : Int) = (↑y : Int) ∧ True) ∧ True)) ∧
 (((errT (el (copyD l) x) = (0 : Int) → False) → False) →
 (sizeT' (el (copyD l) x) = (0 : Int) → False) ∧
 ((sizeT' (el (copyD l) x) = sizeT' (el l x) → False) → (false = true ↔ True)) ∧
 (((sizeT' (el (copyD l) x) = sizeT' (el l x) → False) → False) →
 ((-9223372036854775808 : Int) ≤ (↑x : Int) + (1 : Int) ∧
 (↑x : Int) + (1 : Int) < (9223372036854775808 : Int)) ∧
 ∃ (y : Nat),
 y.le l.len ∧
 l.len - y < l.len - x ∧ ((↑x : Int) + (1 : Int) = (↑y : Int) ∧ True) ∧ True))) ∧
 ((errT (el (copyD l) x) = errT (el l x) → False) → (false = true ↔ True))) ∧
 ((errT (el l x) = (0 : Int) → False) →
 (0 : Int) ≤ (↑x : Int) ∧
 (↑x : Int) < (↑(copyD l).len : Int) ∧
 (tOpen (el (copyD l) x)).len ≤ (100 : Nat) ∧
 (((errT (el (copyD l) x) = errT (el l x) → False) → False) →
 (0 : Int) ≤ (↑x : Int) ∧
 (↑x : Int) < (↑(copyD l).len : Int) ∧
 (tOpen (el (copyD l) x)).len ≤ (100 : Nat) ∧
 ((errT (el (copyD l) x) = (0 : Int) → False) →
 ((-9223372036854775808 : Int) ≤ (↑x : Int) + (1 : Int) ∧
 (↑x : Int) + (1 : Int) < (9223372036854775808 : Int)) ∧
 ∃ (y : Nat),
 y.le l.len ∧ l.len - y < l.len - x ∧ ((↑x : Int) + (1 : Int) = (↑y : Int) ∧ True) ∧ True) ∧
 (((errT (el (copyD l) x) = (0 : Int) → False) → False) →
 (sizeT' (el (copyD l) x) = (0 : Int) → False) ∧
 ((sizeT' (el (copyD l) x) = (0 : Int) → False) → (false = true ↔ True)) ∧
 (((sizeT' (el (copyD l) x) = (0 : Int) → False) → False) →
 ((-9223372036854775808 : Int) ≤ (↑x : Int) + (1 : Int) ∧
 (↑x : Int) + (1 : Int) < (9223372036854775808 : Int)) ∧
 ∃ (y : Nat),
 y.le l.len ∧
 l.len - y < l.len - x ∧ ((↑x : Int) + (1 : Int) = (↑y : Int) ∧ True) ∧ True))) ∧
 ((errT (el (copyD l) x) = errT (el l x) → False) → (false = true ↔ True)))) ∧
 (((↑x : Int) < (↑(copyD l).len : Int) → False) →
 ((badZ l).snd = (0 : Int) →
 l.len ≤ (100 : Nat) ∧
 ((0 : Int) ≤ t →
 (t < (↑l.len : Int) →
 ((0 : Int) ≤ t ∧ t ≤ (↑l.len : Int) ∧ l.len ≤ (100 : Nat)) ∧
 (∃ (x : Nat × Int × Prop),
 (x.fst ≤ l.len ∧
 ((x.snd.2 ∧ ∃ (k : Nat), k < x.fst ∧ x.snd.fst = (↑k : Int) ∧ tName (el l k) = s) ∨
 (x.snd.2 → False) ∧ x.snd.fst = (0 : Int) ∧ ∀ (k : Nat), k < x.fst → tName (el l k) = s → False)) ∧
 ((0 : Int) = (↑x.fst : Int) ∧ (0 : Int) = x.snd.fst ∧ (false = true ↔ x.snd.2) ∧ True) ∧ True) ∧
 ∀ (x : Nat × Int × Prop),
 x.fst ≤ l.len ∧
 ((x.snd.2 ∧ ∃ (k : Nat), k < x.fst ∧ x.snd.fst = (↑k : Int) ∧ tName (el l k) = s) ∨
 (x.snd.2 → False) ∧ x.snd.fst = (0 : Int) ∧ ∀ (k : Nat), k < x.fst → tName (el l k) = s → False) →
 l.len - x.fst < LIM ∧
 ((↑x.fst : Int) < (↑l.len : Int) →
 (0 : Int) ≤ (↑x.fst : Int) ∧
 (↑x.fst : Int) < (↑l.len : Int) ∧
 (tName (el l x.fst) = s →
 ((-9223372036854775808 : Int) ≤ (↑x.fst : Int) + (1 : Int) ∧
 (↑x.fst : Int) + (1 : Int) < (9223372036854775808 : Int)) ∧
 ∃ (y : Nat × Int × Prop),
 (y.fst ≤ l.len ∧
 ((y.snd.2 ∧ ∃ (k : Nat), k < y.fst ∧ y.snd.fst = (↑k : Int) ∧ tName (el l k) = s) ∨
 (y.snd.2 → False) ∧
 y.snd.fst = (0 : Int) ∧ ∀ (k : Nat), k < y.fst → tName (el l k) = s → False)) ∧
 l.len - y.fst < l.len - x.fst ∧
 ((↑x.fst : Int) + (1 : Int) = (↑y.fst : Int) ∧
 (↑x.fst : Int) = y.snd.fst ∧ (true = true ↔ y.snd.2) ∧ True) ∧
 True) ∧
 ((tName (el l x.fst) = s → False) →
 ((-9223372036854775808 : Int) ≤ (↑x.fst : Int) + (1 : Int) ∧
 (↑x.fst : Int) + (1 : Int) < (9223372036854775808 : Int)) ∧
 ∃ (y : Nat × Int × Prop),
 (y.fst ≤ l.len ∧
 ((y.snd.2 ∧ ∃ (k : Nat), k < y.fst ∧ y.snd.fst = (↑k : Int) ∧ tName (el l k) = s) ∨
 (y.snd.2 → False) ∧
 y.snd.fst = (0 : Int) ∧ ∀ (k : Nat), k < y.fst → tName (el l k) = s → False)) ∧
 l.len - y.fst < l.len - x.fst ∧
 ((↑x.fst : Int) + (1 : Int) = (↑y.fst : Int) ∧
 x.snd.fst = y.snd.fst ∧ (x.snd.2 ↔ y.snd.2) ∧ True) ∧
 True)) ∧
 (((↑x.fst : Int) < (↑l.len : Int) → False) →
 smallD (copyD l) ∧
 (((badZ (copyD l)).snd = (0 : Int) → False) →
 smallD (copyD l) ∧
 (((badZ (copyD l)).snd = (0 : Int) → False) →
 ((0 : Int) = (↑(listD (seatsL l l.len)).len : Int) →
 ((0 : Int) ≤ t →
 (t < (↑(copyD l).len : Int) →
 smallD (copyD l) ∧
 (((badZ (copyD l)).snd = (0 : Int) → False) →
 ((0 : Int) = sumZ l t.toNat →
 ((0 : Int) = x.snd.fst →
 ((false = true ↔ x.snd.2) →
 smallD (copyD l) ∧ (sameAll (copyD l) l ↔ True)) ∧
 (((false = true ↔ x.snd.2) → False) →
 (false = true ↔ True))) ∧
 (((0 : Int) = x.snd.fst → False) → (false = true ↔ True))) ∧
 (((0 : Int) = sumZ l t.toNat → False) → (false = true ↔ True))) ∧
 ((((badZ (copyD l)).snd = (0 : Int) → False) → False) →
 ((0 : Int) ≤ t ∧ t ≤ (↑(copyD l).len : Int) ∧ seatedD (copyD l)) ∧
 (sumZ (copyD l) t.toNat = sumZ l t.toNat →
 ((0 : Int) = x.snd.fst →
 ((false = true ↔ x.snd.2) →
 smallD (copyD l) ∧ (sameAll (copyD l) l ↔ True)) ∧
 (((false = true ↔ x.snd.2) → False) →
 (false = true ↔ True))) ∧
 (((0 : Int) = x.snd.fst → False) → (false = true ↔ True))) ∧
 ((sumZ (copyD l) t.toNat = sumZ l t.toNat → False) →
 (false = true ↔ True)))) ∧
 ((t < (↑(copyD l).len : Int) → False) →
 ((0 : Int) = sumZ l t.toNat →
 ((0 : Int) = x.snd.fst →
 ((false = true ↔ x.snd.2) →
 smallD (copyD l) ∧ (sameAll (copyD l) l ↔ True)) ∧
 (((false = true ↔ x.snd.2) → False) → (false = true ↔ True))) ∧
 (((0 : Int) = x.snd.fst → False) → (false = true ↔ True))) ∧
 (((0 : Int) = sumZ l t.toNat → False) → (false = true ↔ True)))) ∧
 (((0 : Int) ≤ t → False) →
 ((0 : Int) = sumZ l t.toNat →
 ((0 : Int) = x.snd.fst →
 ((false = true ↔ x.snd.2) →
 smallD (copyD l) ∧ (sameAll (copyD l) l ↔ True)) ∧
 (((false = true ↔ x.snd.2) → False) → (false = true ↔ True))) ∧
 (((0 : Int) = x.snd.fst → False) → (false = true ↔ True))) ∧
 (((0 : Int) = sumZ l t.toNat → False) → (false = true ↔ True)))) ∧
 (((0 : Int) = (↑(listD (seatsL l l.len)).len : Int) → False) → (false = true ↔ True))) ∧
 ((((badZ (copyD l)).snd = (0 : Int) → False) → False) →
 ((0 : Int) ≤ (↑(copyD l).len : Int) ∧
 (↑(copyD l).len : Int) ≤ (↑(copyD l).len : Int) ∧ seatedD (copyD l)) ∧
 (sumZ (copyD l) (copyD l).len = (↑(listD (seatsL l l.len)).len : Int) →
 ((0 : Int) ≤ t →
 (t < (↑(copyD l).len : Int) →
 smallD (copyD l) ∧
 (((badZ (copyD l)).snd = (0 : Int) → False) →
 ((0 : Int) = sumZ l t.toNat →
 ((0 : Int) = x.snd.fst →
 ((false = true ↔ x.snd.2) →
 smallD (copyD l) ∧ (sameAll (copyD l) l ↔ True)) ∧
 (((false = true ↔ x.snd.2) → False) →
 (false = true ↔ True))) ∧
 (((0 : Int) = x.snd.fst → False) → (false = true ↔ True))) ∧
 (((0 : Int) = sumZ l t.toNat → False) → (false = true ↔ True))) ∧
 ((((badZ (copyD l)).snd = (0 : Int) → False) → False) →
 ((0 : Int) ≤ t ∧ t ≤ (↑(copyD l).len : Int) ∧ seatedD (copyD l)) ∧
 (sumZ (copyD l) t.toNat = sumZ l t.toNat →
 ((0 : Int) = x.snd.fst →
 ((false = true ↔ x.snd.2) →
 smallD (copyD l) ∧ (sameAll (copyD l) l ↔ True)) ∧
 (((false = true ↔ x.snd.2) → False) →
 (false = true ↔ True))) ∧
 (((0 : Int) = x.snd.fst → False) → (false = true ↔ True))) ∧
 ((sumZ (copyD l) t.toNat = sumZ l t.toNat → False) →
 (false = true ↔ True)))) ∧
 ((t < (↑(copyD l).len : Int) → False) →
 ((0 : Int) = sumZ l t.toNat →
 ((0 : Int) = x.snd.fst →
 ((false = true ↔ x.snd.2) →
 smallD (copyD l) ∧ (sameAll (copyD l) l ↔ True)) ∧
 (((false = true ↔ x.snd.2) → False) → (false = true ↔ True))) ∧
 (((0 : Int) = x.snd.fst → False) → (false = true ↔ True))) ∧
 (((0 : Int) = sumZ l t.toNat → False) → (false = true ↔ True)))) ∧
 (((0 : Int) ≤ t → False) →
 ((0 : Int) = sumZ l t.toNat →
 ((0 : Int) = x.snd.fst →
 ((false = true ↔ x.snd.2) →
 smallD (copyD l) ∧ (sameAll (copyD l) l ↔ True)) ∧
 (((false = true ↔ x.snd.2) → False) → (false = true ↔ True))) ∧
 (((0 : Int) = x.snd.fst → False) → (false = true ↔ True))) ∧
 (((0 : Int) = sumZ l t.toNat → False) → (false = true ↔ True)))) ∧
 ((sumZ (copyD l) (copyD l).len = (↑(listD (seatsL l l.len)).len : Int) → False) →
 (false = true ↔ True)))) ∧
 ((((badZ (copyD l)).snd = (0 : Int) → False) → False) →
 (copyD l).len ≤ (100 : Nat) ∧
 ((0 : Int) ≤ idxZ (copyD l) s (copyD l).len (0 : Nat) →
 smallD (copyD l) ∧
 (((badZ (copyD l)).snd = (0 : Int) → False) →
 ((0 : Int) = (↑(listD (seatsL l l.len)).len : Int) →
 ((0 : Int) ≤ t →
 (t < (↑(copyD l).len : Int) →
 smallD (copyD l) ∧
 (((badZ (copyD l)).snd = (0 : Int) → False) →
 ((0 : Int) = sumZ l t.toNat →
 (idxZ (copyD l) s (copyD l).len (0 : Nat) = x.snd.fst →
 ((true = true ↔ x.snd.2) →
 smallD (copyD l) ∧ (sameAll (copyD l) l ↔ True)) ∧
 (((true = true ↔ x.snd.2) → False) →
 (false = true ↔ True))) ∧
 ((idxZ (copyD l) s (copyD l).len (0 : Nat) = x.snd.fst →
 False) →
 (false = true ↔ True))) ∧
 (((0 : Int) = sumZ l t.toNat → False) →
 (false = true ↔ True))) ∧
 ((((badZ (copyD l)).snd = (0 : Int) → False) → False) →
 ((0 : Int) ≤ t ∧ t ≤ (↑(copyD l).len : Int) ∧ seatedD (copyD l)) ∧
 (sumZ (copyD l) t.toNat = sumZ l t.toNat →
 (idxZ (copyD l) s (copyD l).len (0 : Nat) = x.snd.fst →
 ((true = true ↔ x.snd.2) →
 smallD (copyD l) ∧ (sameAll (copyD l) l ↔ True)) ∧
 (((true = true ↔ x.snd.2) → False) →
 (false = true ↔ True))) ∧
 ((idxZ (copyD l) s (copyD l).len (0 : Nat) = x.snd.fst →
 False) →
 (false = true ↔ True))) ∧
 ((sumZ (copyD l) t.toNat = sumZ l t.toNat → False) →
 (false = true ↔ True)))) ∧
 ((t < (↑(copyD l).len : Int) → False) →
 ((0 : Int) = sumZ l t.toNat →
 (idxZ (copyD l) s (copyD l).len (0 : Nat) = x.snd.fst →
 ((true = true ↔ x.snd.2) →
 smallD (copyD l) ∧ (sameAll (copyD l) l ↔ True)) ∧
 (((true = true ↔ x.snd.2) → False) → (false = true ↔ True))) ∧
 ((idxZ (copyD l) s (copyD l).len (0 : Nat) = x.snd.fst → False) →
 (false = true ↔ True))) ∧
 (((0 : Int) = sumZ l t.toNat → False) → (false = true ↔ True)))) ∧
 (((0 : Int) ≤ t → False) →
 ((0 : Int) = sumZ l t.toNat →
 (idxZ (copyD l) s (copyD l).len (0 : Nat) = x.snd.fst →
 ((true = true ↔ x.snd.2) →
 smallD (copyD l) ∧ (sameAll (copyD l) l ↔ True)) ∧
 (((true = true ↔ x.snd.2) → False) → (false = true ↔ True))) ∧
 ((idxZ (copyD l) s (copyD l).len (0 : Nat) = x.snd.fst → False) →
 (false = true ↔ True))) ∧
 (((0 : Int) = sumZ l t.toNat → False) → (false = true ↔ True)))) ∧
 (((0 : Int) = (↑(listD (seatsL l l.len)).len : Int) → False) →
 (false = true ↔ True))) ∧
 ((((badZ (copyD l)).snd = (0 : Int) → False) → False) →
 ((0 : Int) ≤ (↑(copyD l).len : Int) ∧
 (↑(copyD l).len : Int) ≤ (↑(copyD l).len : Int) ∧ seatedD (copyD l)) ∧
 (sumZ (copyD l) (copyD l).len = (↑(listD (seatsL l l.len)).len : Int) →
 ((0 : Int) ≤ t →
 (t < (↑(copyD l).len : Int) →
 smallD (copyD l) ∧
 (((badZ (copyD l)).snd = (0 : Int) → False) →
 ((0 : Int) = sumZ l t.toNat →
 (idxZ (copyD l) s (copyD l).len (0 : Nat) = x.snd.fst →
 ((true = true ↔ x.snd.2) →
 smallD (copyD l) ∧ (sameAll (copyD l) l ↔ True)) ∧
 (((true = true ↔ x.snd.2) → False) →
 (false = true ↔ True))) ∧
 ((idxZ (copyD l) s (copyD l).len (0 : Nat) = x.snd.fst →
 False) →
 (false = true ↔ True))) ∧
 (((0 : Int) = sumZ l t.toNat → False) →
 (false = true ↔ True))) ∧
 ((((badZ (copyD l)).snd = (0 : Int) → False) → False) →
 ((0 : Int) ≤ t ∧
 t ≤ (↑(copyD l).len : Int) ∧ seatedD (copyD l)) ∧
 (sumZ (copyD l) t.toNat = sumZ l t.toNat →
 (idxZ (copyD l) s (copyD l).len (0 : Nat) = x.snd.fst →
 ((true = true ↔ x.snd.2) →
 smallD (copyD l) ∧ (sameAll (copyD l) l ↔ True)) ∧
 (((true = true ↔ x.snd.2) → False) →
 (false = true ↔ True))) ∧
 ((idxZ (copyD l) s (copyD l).len (0 : Nat) = x.snd.fst →
 False) →
 (false = true ↔ True))) ∧
 ((sumZ (copyD l) t.toNat = sumZ l t.toNat → False) →
 (false = true ↔ True)))) ∧
 ((t < (↑(copyD l).len : Int) → False) →
 ((0 : Int) = sumZ l t.toNat →
 (idxZ (copyD l) s (copyD l).len (0 : Nat) = x.snd.fst →
 ((true = true ↔ x.snd.2) →
 smallD (copyD l) ∧ (sameAll (copyD l) l ↔ True)) ∧
 (((true = true ↔ x.snd.2) → False) →
 (false = true ↔ True))) ∧
 ((idxZ (copyD l) s (copyD l).len (0 : Nat) = x.snd.fst →
 False) →
 (false = true ↔ True))) ∧
 (((0 : Int) = sumZ l t.toNat → False) → (false = true ↔ True)))) ∧
 (((0 : Int) ≤ t → False) →
 ((0 : Int) = sumZ l t.toNat →
 (idxZ (copyD l) s (copyD l).len (0 : Nat) = x.snd.fst →
 ((true = true ↔ x.snd.2) →
 smallD (copyD l) ∧ (sameAll (copyD l) l ↔ True)) ∧
 (((true = true ↔ x.snd.2) → False) → (false = true ↔ True))) ∧
 ((idxZ (copyD l) s (copyD l).len (0 : Nat) = x.snd.fst → False) →
 (false = true ↔ True))) ∧
 (((0 : Int) = sumZ l t.toNat → False) → (false = true ↔ True)))) ∧
 ((sumZ (copyD l) (copyD l).len = (↑(listD (seatsL l l.len)).len : Int) →
 False) →
 (false = true ↔ True)))) ∧
 (((0 : Int) ≤ idxZ (copyD l) s (copyD l).len (0 : Nat) → False) →
 smallD (copyD l) ∧
 (((badZ (copyD l)).snd = (0 : Int) → False) →
 ((0 : Int) = (↑(listD (seatsL l l.len)).len : Int) →
 ((0 : Int) ≤ t →
 (t < (↑(copyD l).len : Int) →
 smallD (copyD l) ∧
 (((badZ (copyD l)).snd = (0 : Int) → False) →
 ((0 : Int) = sumZ l t.toNat →
 ((0 : Int) = x.snd.fst →
 ((false = true ↔ x.snd.2) →
 smallD (copyD l) ∧ (sameAll (copyD l) l ↔ True)) ∧
 (((false = true ↔ x.snd.2) → False) →
 (false = true ↔ True))) ∧
 (((0 : Int) = x.snd.fst → False) → (false = true ↔ True))) ∧
 (((0 : Int) = sumZ l t.toNat → False) →
 (false = true ↔ True))) ∧
 ((((badZ (copyD l)).snd = (0 : Int) → False) → False) →
 ((0 : Int) ≤ t ∧ t ≤ (↑(copyD l).len : Int) ∧ seatedD (copyD l)) ∧
 (sumZ (copyD l) t.toNat = sumZ l t.toNat →
 ((0 : Int) = x.snd.fst →
 ((false = true ↔ x.snd.2) →
 smallD (copyD l) ∧ (sameAll (copyD l) l ↔ True)) ∧
 (((false = true ↔ x.snd.2) → False) →
 (false = true ↔ True))) ∧
 (((0 : Int) = x.snd.fst → False) →
 (false = true ↔ True))) ∧
 ((sumZ (copyD l) t.toNat = sumZ l t.toNat → False) →
 (false = true ↔ True)))) ∧
 ((t < (↑(copyD l).len : Int) → False) →
 ((0 : Int) = sumZ l t.toNat →
 ((0 : Int) = x.snd.fst →
 ((false = true ↔ x.snd.2) →
 smallD (copyD l) ∧ (sameAll (copyD l) l ↔ True)) ∧
 (((false = true ↔ x.snd.2) → False) →
 (false = true ↔ True))) ∧
 (((0 : Int) = x.snd.fst → False) → (false = true ↔ True))) ∧
 (((0 : Int) = sumZ l t.toNat → False) → (false = true ↔ True)))) ∧
 (((0 : Int) ≤ t → False) →
 ((0 : Int) = sumZ l t.toNat →
 ((0 : Int) = x.snd.fst →
 ((false = true ↔ x.snd.2) →
 smallD (copyD l) ∧ (sameAll (copyD l) l ↔ True)) ∧
 (((false = true ↔ x.snd.2) → False) → (false = true ↔ True))) ∧
 (((0 : Int) = x.snd.fst → False) → (false = true ↔ True))) ∧
 (((0 : Int) = sumZ l t.toNat → False) → (false = true ↔ True)))) ∧
 (((0 : Int) = (↑(listD (seatsL l l.len)).len : Int) → False) →
 (false = true ↔ True))) ∧
 ((((badZ (copyD l)).snd = (0 : Int) → False) → False) →
 ((0 : Int) ≤ (↑(copyD l).len : Int) ∧
 (↑(copyD l).len : Int) ≤ (↑(copyD l).len : Int) ∧ seatedD (copyD l)) ∧
 (sumZ (copyD l) (copyD l).len = (↑(listD (seatsL l l.len)).len : Int) →
 ((0 : Int) ≤ t →
 (t < (↑(copyD l).len : Int) →
 smallD (copyD l) ∧
 (((badZ (copyD l)).snd = (0 : Int) → False) →
 ((0 : Int) = sumZ l t.toNat →
 ((0 : Int) = x.snd.fst →
 ((false = true ↔ x.snd.2) →
 smallD (copyD l) ∧ (sameAll (copyD l) l ↔ True)) ∧
 (((false = true ↔ x.snd.2) → False) →
 (false = true ↔ True))) ∧
 (((0 : Int) = x.snd.fst → False) →
 (false = true ↔ True))) ∧
 (((0 : Int) = sumZ l t.toNat → False) →
 (false = true ↔ True))) ∧
 ((((badZ (copyD l)).snd = (0 : Int) → False) → False) →
 ((0 : Int) ≤ t ∧
 t ≤ (↑(copyD l).len : Int) ∧ seatedD (copyD l)) ∧
 (sumZ (copyD l) t.toNat = sumZ l t.toNat →
 ((0 : Int) = x.snd.fst →
 ((false = true ↔ x.snd.2) →
 smallD (copyD l) ∧ (sameAll (copyD l) l ↔ True)) ∧
 (((false = true ↔ x.snd.2) → False) →
 (false = true ↔ True))) ∧
 (((0 : Int) = x.snd.fst → False) →
 (false = true ↔ True))) ∧
 ((sumZ (copyD l) t.toNat = sumZ l t.toNat → False) →
 (false = true ↔ True)))) ∧
 ((t < (↑(copyD l).len : Int) → False) →
 ((0 : Int) = sumZ l t.toNat →
 ((0 : Int) = x.snd.fst →
 ((false = true ↔ x.snd.2) →
 smallD (copyD l) ∧ (sameAll (copyD l) l ↔ True)) ∧
 (((false = true ↔ x.snd.2) → False) →
 (false = true ↔ True))) ∧
 (((0 : Int) = x.snd.fst → False) → (false = true ↔ True))) ∧
 (((0 : Int) = sumZ l t.toNat → False) → (false = true ↔ True)))) ∧
 (((0 : Int) ≤ t → False) →
 ((0 : Int) = sumZ l t.toNat →
 ((0 : Int) = x.snd.fst →
 ((false = true ↔ x.snd.2) →
 smallD (copyD l) ∧ (sameAll (copyD l) l ↔ True)) ∧
 (((false = true ↔ x.snd.2) → False) → (false = true ↔ True))) ∧
 (((0 : Int) = x.snd.fst → False) → (false = true ↔ True))) ∧
 (((0 : Int) = sumZ l t.toNat → False) → (false = true ↔ True)))) ∧
 ((sumZ (copyD l) (copyD l).len = (↑(listD (seatsL l l.len)).len : Int) →
 False) →
 (false = true ↔ True))))))) ∧
 ((t < (↑l.len : Int) → False) →
 (∃ (x : Nat × Int × Prop),
 (x.fst ≤ l.len ∧
 ((x.snd.2 ∧ ∃ (k : Nat), k < x.fst ∧ x.snd.fst = (↑k : Int) ∧ tName (el l k) = s) ∨
 (x.snd.2 → False) ∧ x.snd.fst = (0 : Int) ∧ ∀ (k : Nat), k < x.fst → tName (el l k) = s → False)) ∧
 ((0 : Int) = (↑x.fst : Int) ∧ (0 : Int) = x.snd.fst ∧ (false = true ↔ x.snd.2) ∧ True) ∧ True) ∧
 ∀ (x : Nat × Int × Prop),
 x.fst ≤ l.len ∧
 ((x.snd.2 ∧ ∃ (k : Nat), k < x.fst ∧ x.snd.fst = (↑k : Int) ∧ tName (el l k) = s) ∨
 (x.snd.2 → False) ∧ x.snd.fst = (0 : Int) ∧ ∀ (k : Nat), k < x.fst → tName (el l k) = s → False) →
 l.len - x.fst < LIM ∧
 ((↑x.fst : Int) < (↑l.len : Int) →
 (0 : Int) ≤ (↑x.fst : Int) ∧
 (↑x.fst : Int) < (↑l.len : Int) ∧
 (tName (el l x.fst) = s →
 ((-9223372036854775808 : Int) ≤ (↑x.fst : Int) + (1 : Int) ∧
 (↑x.fst : Int) + (1 : Int) < (9223372036854775808 : Int)) ∧
 ∃ (y : Nat × Int × Prop),
 (y.fst ≤ l.len ∧
 ((y.snd.2 ∧ ∃ (k : Nat), k < y.fst ∧ y.snd.fst = (↑k : Int) ∧ tName (el l k) = s) ∨
 (y.snd.2 → False) ∧
 y.snd.fst = (0 : Int) ∧ ∀ (k : Nat), k < y.fst → tName (el l k) = s → False)) ∧
 l.len - y.fst < l.len - x.fst ∧
 ((↑x.fst : Int) + (1 : Int) = (↑y.fst : Int) ∧
 (↑x.fst : Int) = y.snd.fst ∧ (true = true ↔ y.snd.2) ∧ True) ∧
 True) ∧
 ((tName (el l x.fst) = s → False) →
 ((-9223372036854775808 : Int) ≤ (↑x.fst : Int) + (1 : Int) ∧
 (↑x.fst : Int) + (1 : Int) < (9223372036854775808 : Int)) ∧
 ∃ (y : Nat × Int × Prop),
 (y.fst ≤ l.len ∧
 ((y.snd.2 ∧ ∃ (k : Nat), k < y.fst ∧ y.snd.fst = (↑k : Int) ∧ tName (el l k) = s) ∨
 (y.snd.2 → False) ∧
 y.snd.fst = (0 : Int) ∧ ∀ (k : Nat), k < y.fst → tName (el l k) = s → False)) ∧
 l.len - y.fst < l.len - x.fst ∧
 ((↑x.fst : Int) + (1 : Int) = (↑y.fst : Int) ∧
 x.snd.fst = y.snd.fst ∧ (x.snd.2 ↔ y.snd.2) ∧ True) ∧
 True)) ∧
 (((↑x.fst : Int) < (↑l.len : Int) → False) →
 smallD (copyD l) ∧
 (((badZ (copyD l)).snd = (0 : Int) → False) →
 smallD (copyD l) ∧
 (((badZ (copyD l)).snd = (0 : Int) → False) →
 ((0 : Int) = (↑(listD (seatsL l l.len)).len : Int) →
 ((0 : Int) ≤ t →
 (t < (↑(copyD l).len : Int) →
 smallD (copyD l) ∧
 (((badZ (copyD l)).snd = (0 : Int) → False) →
 ((0 : Int) = x.snd.fst →
 ((false = true ↔ x.snd.2) →
 smallD (copyD l) ∧ (sameAll (copyD l) l ↔ True)) ∧
 (((false = true ↔ x.snd.2) → False) → (false = true ↔ True))) ∧
 (((0 : Int) = x.snd.fst → False) → (false = true ↔ True))) ∧
 ((((badZ (copyD l)).snd = (0 : Int) → False) → False) →
 ((0 : Int) ≤ t ∧ t ≤ (↑(copyD l).len : Int) ∧ seatedD (copyD l)) ∧
 (sumZ (copyD l) t.toNat = (0 : Int) →
 ((0 : Int) = x.snd.fst →
 ((false = true ↔ x.snd.2) →
 smallD (copyD l) ∧ (sameAll (copyD l) l ↔ True)) ∧
 (((false = true ↔ x.snd.2) → False) →
 (false = true ↔ True))) ∧
 (((0 : Int) = x.snd.fst → False) → (false = true ↔ True))) ∧
 ((sumZ (copyD l) t.toNat = (0 : Int) → False) →
 (false = true ↔ True)))) ∧
 ((t < (↑(copyD l).len : Int) → False) →
 ((0 : Int) = x.snd.fst →
 ((false = true ↔ x.snd.2) →
 smallD (copyD l) ∧ (sameAll (copyD l) l ↔ True)) ∧
 (((false = true ↔ x.snd.2) → False) → (false = true ↔ True))) ∧
 (((0 : Int) = x.snd.fst → False) → (false = true ↔ True)))) ∧
 (((0 : Int) ≤ t → False) →
 ((0 : Int) = x.snd.fst →
 ((false = true ↔ x.snd.2) → smallD (copyD l) ∧ (sameAll (copyD l) l ↔ True)) ∧
 (((false = true ↔ x.snd.2) → False) → (false = true ↔ True))) ∧
 (((0 : Int) = x.snd.fst → False) → (false = true ↔ True)))) ∧
 (((0 : Int) = (↑(listD (seatsL l l.len)).len : Int) → False) → (false = true ↔ True))) ∧
 ((((badZ (copyD l)).snd = (0 : Int) → False) → False) →
 ((0 : Int) ≤ (↑(copyD l).len : Int) ∧
 (↑(copyD l).len : Int) ≤ (↑(copyD l).len : Int) ∧ seatedD (copyD l)) ∧
 (sumZ (copyD l) (copyD l).len = (↑(listD (seatsL l l.len)).len : Int) →
 ((0 : Int) ≤ t →
 (t < (↑(copyD l).len : Int) →
 smallD (copyD l) ∧
 (((badZ (copyD l)).snd = (0 : Int) → False) →
 ((0 : Int) = x.snd.fst →
 ((false = true ↔ x.snd.2) →
 smallD (copyD l) ∧ (sameAll (copyD l) l ↔ True)) ∧
 (((false = true ↔ x.snd.2) → False) → (false = true ↔ True))) ∧
 (((0 : Int) = x.snd.fst → False) → (false = true ↔ True))) ∧
 ((((badZ (copyD l)).snd = (0 : Int) → False) → False) →
 ((0 : Int) ≤ t ∧ t ≤ (↑(copyD l).len : Int) ∧ seatedD (copyD l)) ∧
 (sumZ (copyD l) t.toNat = (0 : Int) →
 ((0 : Int) = x.snd.fst →
 ((false = true ↔ x.snd.2) →
 smallD (copyD l) ∧ (sameAll (copyD l) l ↔ True)) ∧
 (((false = true ↔ x.snd.2) → False) →
 (false = true ↔ True))) ∧
 (((0 : Int) = x.snd.fst → False) → (false = true ↔ True))) ∧
 ((sumZ (copyD l) t.toNat = (0 : Int) → False) →
 (false = true ↔ True)))) ∧
 ((t < (↑(copyD l).len : Int) → False) →
 ((0 : Int) = x.snd.fst →
 ((false = true ↔ x.snd.2) →
 smallD (copyD l) ∧ (sameAll (copyD l) l ↔ True)) ∧
 (((false = true ↔ x.snd.2) → False) → (false = true ↔ True))) ∧
 (((0 : Int) = x.snd.fst → False) → (false = true ↔ True)))) ∧
 (((0 : Int) ≤ t → False) →
 ((0 : Int) = x.snd.fst →
 ((false = true ↔ x.snd.2) → smallD (copyD l) ∧ (sameAll (copyD l) l ↔ True)) ∧
 (((false = true ↔ x.snd.2) → False) → (false = true ↔ True))) ∧
 (((0 : Int) = x.snd.fst → False) → (false = true ↔ True)))) ∧
 ((sumZ (copyD l) (copyD l).len = (↑(listD (seatsL l l.len)).len : Int) → False) →
 (false = true ↔ True)))) ∧
 ((((badZ (copyD l)).snd = (0 : Int) → False) → False) →
 (copyD l).len ≤ (100 : Nat) ∧
 ((0 : Int) ≤ idxZ (copyD l) s (copyD l).len (0 : Nat) →
 smallD (copyD l) ∧
 (((badZ (copyD l)).snd = (0 : Int) → False) →
 ((0 : Int) = (↑(listD (seatsL l l.len)).len : Int) →
 ((0 : Int) ≤ t →
 (t < (↑(copyD l).len : Int) →
 smallD (copyD l) ∧
 (((badZ (copyD l)).snd = (0 : Int) → False) →
 (idxZ (copyD l) s (copyD l).len (0 : Nat) = x.snd.fst →
 ((true = true ↔ x.snd.2) →
 smallD (copyD l) ∧ (sameAll (copyD l) l ↔ True)) ∧
 (((true = true ↔ x.snd.2) → False) → (false = true ↔ True))) ∧
 ((idxZ (copyD l) s (copyD l).len (0 : Nat) = x.snd.fst → False) →
 (false = true ↔ True))) ∧
 ((((badZ (copyD l)).snd = (0 : Int) → False) → False) →
 ((0 : Int) ≤ t ∧ t ≤ (↑(copyD l).len : Int) ∧ seatedD (copyD l)) ∧
 (sumZ (copyD l) t.toNat = (0 : Int) →
 (idxZ (copyD l) s (copyD l).len (0 : Nat) = x.snd.fst →
 ((true = true ↔ x.snd.2) →
 smallD (copyD l) ∧ (sameAll (copyD l) l ↔ True)) ∧
 (((true = true ↔ x.snd.2) → False) →
 (false = true ↔ True))) ∧
 ((idxZ (copyD l) s (copyD l).len (0 : Nat) = x.snd.fst →
 False) →
 (false = true ↔ True))) ∧
 ((sumZ (copyD l) t.toNat = (0 : Int) → False) →
 (false = true ↔ True)))) ∧
 ((t < (↑(copyD l).len : Int) → False) →
 (idxZ (copyD l) s (copyD l).len (0 : Nat) = x.snd.fst →
 ((true = true ↔ x.snd.2) →
 smallD (copyD l) ∧ (sameAll (copyD l) l ↔ True)) ∧
 (((true = true ↔ x.snd.2) → False) → (false = true ↔ True))) ∧
 ((idxZ (copyD l) s (copyD l).len (0 : Nat) = x.snd.fst → False) →
 (false = true ↔ True)))) ∧
 (((0 : Int) ≤ t → False) →
 (idxZ (copyD l) s (copyD l).len (0 : Nat) = x.snd.fst →
 ((true = true ↔ x.snd.2) →
 smallD (copyD l) ∧ (sameAll (copyD l) l ↔ True)) ∧
 (((true = true ↔ x.snd.2) → False) → (false = true ↔ True))) ∧
 ((idxZ (copyD l) s (copyD l).len (0 : Nat) = x.snd.fst → False) →
 (false = true ↔ True)))) ∧
 (((0 : Int) = (↑(listD (seatsL l l.len)).len : Int) → False) →
 (false = true ↔ True))) ∧
 ((((badZ (copyD l)).snd = (0 : Int) → False) → False) →
 ((0 : Int) ≤ (↑(copyD l).len : Int) ∧
 (↑(copyD l).len : Int) ≤ (↑(copyD l).len : Int) ∧ seatedD (copyD l)) ∧
 (sumZ (copyD l) (copyD l).len = (↑(listD (seatsL l l.len)).len : Int) →
 ((0 : Int) ≤ t →
 (t < (↑(copyD l).len : Int) →
 smallD (copyD l) ∧
 (((badZ (copyD l)).snd = (0 : Int) → False) →
 (idxZ (copyD l) s (copyD l).len (0 : Nat) = x.snd.fst →
 ((true = true ↔ x.snd.2) →
 smallD (copyD l) ∧ (sameAll (copyD l) l ↔ True)) ∧
 (((true = true ↔ x.snd.2) → False) →
 (false = true ↔ True))) ∧
 ((idxZ (copyD l) s (copyD l).len (0 : Nat) = x.snd.fst →
 False) →
 (false = true ↔ True))) ∧
 ((((badZ (copyD l)).snd = (0 : Int) → False) → False) →
 ((0 : Int) ≤ t ∧ t ≤ (↑(copyD l).len : Int) ∧ seatedD (copyD l)) ∧
 (sumZ (copyD l) t.toNat = (0 : Int) →
 (idxZ (copyD l) s (copyD l).len (0 : Nat) = x.snd.fst →
 ((true = true ↔ x.snd.2) →
 smallD (copyD l) ∧ (sameAll (copyD l) l ↔ True)) ∧
 (((true = true ↔ x.snd.2) → False) →
 (false = true ↔ True))) ∧
 ((idxZ (copyD l) s (copyD l).len (0 : Nat) = x.snd.fst →
 False) →
 (false = true ↔ True))) ∧
 ((sumZ (copyD l) t.toNat = (0 : Int) → False) →
 (false = true ↔ True)))) ∧
 ((t < (↑(copyD l).len : Int) → False) →
 (idxZ (copyD l) s (copyD l).len (0 : Nat) = x.snd.fst →
 ((true = true ↔ x.snd.2) →
 smallD (copyD l) ∧ (sameAll (copyD l) l ↔ True)) ∧
 (((true = true ↔ x.snd.2) → False) → (false = true ↔ True))) ∧
 ((idxZ (copyD l) s (copyD l).len (0 : Nat) = x.snd.fst → False) →
 (false = true ↔ True)))) ∧
 (((0 : Int) ≤ t → False) →
 (idxZ (copyD l) s (copyD l).len (0 : Nat) = x.snd.fst →
 ((true = true ↔ x.snd.2) →
 smallD (copyD l) ∧ (sameAll (copyD l) l ↔ True)) ∧
 (((true = true ↔ x.snd.2) → False) → (false = true ↔ True))) ∧
 ((idxZ (copyD l) s (copyD l).len (0 : Nat) = x.snd.fst → False) →
 (false = true ↔ True)))) ∧
 ((sumZ (copyD l) (copyD l).len = (↑(listD (seatsL l l.len)).len : Int) → False) →
 (false = true ↔ True)))) ∧
 (((0 : Int) ≤ idxZ (copyD l) s (copyD l).len (0 : Nat) → False) →
 smallD (copyD l) ∧
 (((badZ (copyD l)).snd = (0 : Int) → False) →
 ((0 : Int) = (↑(listD (seatsL l l.len)).len : Int) →
 ((0 : Int) ≤ t →
 (t < (↑(copyD l).len : Int) →
 smallD (copyD l) ∧
 (((badZ (copyD l)).snd = (0 : Int) → False) →
 ((0 : Int) = x.snd.fst →
 ((false = true ↔ x.snd.2) →
 smallD (copyD l) ∧ (sameAll (copyD l) l ↔ True)) ∧
 (((false = true ↔ x.snd.2) → False) →
 (false = true ↔ True))) ∧
 (((0 : Int) = x.snd.fst → False) → (false = true ↔ True))) ∧
 ((((badZ (copyD l)).snd = (0 : Int) → False) → False) →
 ((0 : Int) ≤ t ∧ t ≤ (↑(copyD l).len : Int) ∧ seatedD (copyD l)) ∧
 (sumZ (copyD l) t.toNat = (0 : Int) →
 ((0 : Int) = x.snd.fst →
 ((false = true ↔ x.snd.2) →
 smallD (copyD l) ∧ (sameAll (copyD l) l ↔ True)) ∧
 (((false = true ↔ x.snd.2) → False) →
 (false = true ↔ True))) ∧
 (((0 : Int) = x.snd.fst → False) → (false = true ↔ True))) ∧
 ((sumZ (copyD l) t.toNat = (0 : Int) → False) →
 (false = true ↔ True)))) ∧
 ((t < (↑(copyD l).len : Int) → False) →
 ((0 : Int) = x.snd.fst →
 ((false = true ↔ x.snd.2) →
 smallD (copyD l) ∧ (sameAll (copyD l) l ↔ True)) ∧
 (((false = true ↔ x.snd.2) → False) → (false = true ↔ True))) ∧
 (((0 : Int) = x.snd.fst → False) → (false = true ↔ True)))) ∧
 (((0 : Int) ≤ t → False) →
 ((0 : Int) = x.snd.fst →
 ((false = true ↔ x.snd.2) →
 smallD (copyD l) ∧ (sameAll (copyD l) l ↔ True)) ∧
 (((false = true ↔ x.snd.2) → False) → (false = true ↔ True))) ∧
 (((0 : Int) = x.snd.fst → False) → (false = true ↔ True)))) ∧
 (((0 : Int) = (↑(listD (seatsL l l.len)).len : Int) → False) →
 (false = true ↔ True))) ∧
 ((((badZ (copyD l)).snd = (0 : Int) → False) → False) →
 ((0 : Int) ≤ (↑(copyD l).len : Int) ∧
 (↑(copyD l).len : Int) ≤ (↑(copyD l).len : Int) ∧ seatedD (copyD l)) ∧
 (sumZ (copyD l) (copyD l).len = (↑(listD (seatsL l l.len)).len : Int) →
 ((0 : Int) ≤ t →
 (t < (↑(copyD l).len : Int) →
 smallD (copyD l) ∧
 (((badZ (copyD l)).snd = (0 : Int) → False) →
 ((0 : Int) = x.snd.fst →
 ((false = true ↔ x.snd.2) →
 smallD (copyD l) ∧ (sameAll (copyD l) l ↔ True)) ∧
 (((false = true ↔ x.snd.2) → False) →
 (false = true ↔ True))) ∧
 (((0 : Int) = x.snd.fst → False) → (false = true ↔ True))) ∧
 ((((badZ (copyD l)).snd = (0 : Int) → False) → False) →
 ((0 : Int) ≤ t ∧ t ≤ (↑(copyD l).len : Int) ∧ seatedD (copyD l)) ∧
 (sumZ (copyD l) t.toNat = (0 : Int) →
 ((0 : Int) = x.snd.fst →
 ((false = true ↔ x.snd.2) →
 smallD (copyD l) ∧ (sameAll (copyD l) l ↔ True)) ∧
 (((false = true ↔ x.snd.2) → False) →
 (false = true ↔ True))) ∧
 (((0 : Int) = x.snd.fst → False) →
 (false = true ↔ True))) ∧
 ((sumZ (copyD l) t.toNat = (0 : Int) → False) →
 (false = true ↔ True)))) ∧
 ((t < (↑(copyD l).len : Int) → False) →
 ((0 : Int) = x.snd.fst →
 ((false = true ↔ x.snd.2) →
 smallD (copyD l) ∧ (sameAll (copyD l) l ↔ True)) ∧
 (((false = true ↔ x.snd.2) → False) → (false = true ↔ True))) ∧
 (((0 : Int) = x.snd.fst → False) → (false = true ↔ True)))) ∧
 (((0 : Int) ≤ t → False) →
 ((0 : Int) = x.snd.fst →
 ((false = true ↔ x.snd.2) →
 smallD (copyD l) ∧ (sameAll (copyD l) l ↔ True)) ∧
 (((false = true ↔ x.snd.2) → False) → (false = true ↔ True))) ∧
 (((0 : Int) = x.snd.fst → False) → (false = true ↔ True)))) ∧
 ((sumZ (copyD l) (copyD l).len = (↑(listD (seatsL l l.len)).len : Int) → False) →
 (false = true ↔ True)))))))) ∧
 (((0 : Int) ≤ t → False) →
 (∃ (x : Nat × Int × Prop),
 (x.fst ≤ l.len ∧
 ((x.snd.2 ∧ ∃ (k : Nat), k < x.fst ∧ x.snd.fst = (↑k : Int) ∧ tName (el l k) = s) ∨
 (x.snd.2 → False) ∧ x.snd.fst = (0 : Int) ∧ ∀ (k : Nat), k < x.fst → tName (el l k) = s → False)) ∧
 ((0 : Int) = (↑x.fst : Int) ∧ (0 : Int) = x.snd.fst ∧ (false = true ↔ x.snd.2) ∧ True) ∧ True) ∧
 ∀ (x : Nat × Int × Prop),
 x.fst ≤ l.len ∧
 ((x.snd.2 ∧ ∃ (k : Nat), k < x.fst ∧ x.snd.fst = (↑k : Int) ∧ tName (el l k) = s) ∨
 (x.snd.2 → False) ∧ x.snd.fst = (0 : Int) ∧ ∀ (k : Nat), k < x.fst → tName (el l k) = s → False) →
 l.len - x.fst < LIM ∧
 ((↑x.fst : Int) < (↑l.len : Int) →
 (0 : Int) ≤ (↑x.fst : Int) ∧
 (↑x.fst : Int) < (↑l.len : Int) ∧
 (tName (el l x.fst) = s →
 ((-9223372036854775808 : Int) ≤ (↑x.fst : Int) + (1 : Int) ∧
 (↑x.fst : Int) + (1 : Int) < (9223372036854775808 : Int)) ∧
 ∃ (y : Nat × Int × Prop),
 (y.fst ≤ l.len ∧
 ((y.snd.2 ∧ ∃ (k : Nat), k < y.fst ∧ y.snd.fst = (↑k : Int) ∧ tName (el l k) = s) ∨
 (y.snd.2 → False) ∧
 y.snd.fst = (0 : Int) ∧ ∀ (k : Nat), k < y.fst → tName (el l k) = s → False)) ∧
 l.len - y.fst < l.len - x.fst ∧
 ((↑x.fst : Int) + (1 : Int) = (↑y.fst : Int) ∧
 (↑x.fst : Int) = y.snd.fst ∧ (true = true ↔ y.snd.2) ∧ True) ∧
 True) ∧
 ((tName (el l x.fst) = s → False) →
 ((-9223372036854775808 : Int) ≤ (↑x.fst : Int) + (1 : Int) ∧
 (↑x.fst : Int) + (1 : Int) < (9223372036854775808 : Int)) ∧
 ∃ (y : Nat × Int × Prop),
 (y.fst ≤ l.len ∧
 ((y.snd.2 ∧ ∃ (k : Nat), k < y.fst ∧ y.snd.fst = (↑k : Int) ∧ tName (el l k) = s) ∨
 (y.snd.2 → False) ∧
 y.snd.fst = (0 : Int) ∧ ∀ (k : Nat), k < y.fst → tName (el l k) = s → False)) ∧
 l.len - y.fst < l.len - x.fst ∧
 ((↑x.fst : Int) + (1 : Int) = (↑y.fst : Int) ∧
 x.snd.fst = y.snd.fst ∧ (x.snd.2 ↔ y.snd.2) ∧ True) ∧
 True)) ∧
 (((↑x.fst : Int) < (↑l.len : Int) → False) →
 smallD (copyD l) ∧
 (((badZ (copyD l)).snd = (0 : Int) → False) →
 smallD (copyD l) ∧
 (((badZ (copyD l)).snd = (0 : Int) → False) →
 ((0 : Int) = (↑(listD (seatsL l l.len)).len : Int) →
 ((0 : Int) ≤ t →
 (t < (↑(copyD l).len : Int) →
 smallD (copyD l) ∧
 (((badZ (copyD l)).snd = (0 : Int) → False) →
 ((0 : Int) = x.snd.fst →
 ((false = true ↔ x.snd.2) →
 smallD (copyD l) ∧ (sameAll (copyD l) l ↔ True)) ∧
 (((false = true ↔ x.snd.2) → False) → (false = true ↔ True))) ∧
 (((0 : Int) = x.snd.fst → False) → (false = true ↔ True))) ∧
 ((((badZ (copyD l)).snd = (0 : Int) → False) → False) →
 ((0 : Int) ≤ t ∧ t ≤ (↑(copyD l).len : Int) ∧ seatedD (copyD l)) ∧
 (sumZ (copyD l) t.toNat = (0 : Int) →
 ((0 : Int) = x.snd.fst →
 ((false = true ↔ x.snd.2) →
 smallD (copyD l) ∧ (sameAll (copyD l) l ↔ True)) ∧
 (((false = true ↔ x.snd.2) → False) → (false = true ↔ True))) ∧
 (((0 : Int) = x.snd.fst → False) → (false = true ↔ True))) ∧
 ((sumZ (copyD l) t.toNat = (0 : Int) → False) → (false = true ↔ True)))) ∧
 ((t < (↑(copyD l).len : Int) → False) →
 ((0 : Int) = x.snd.fst →
 ((false = true ↔ x.snd.2) → smallD (copyD l) ∧ (sameAll (copyD l) l ↔ True)) ∧
 (((false = true ↔ x.snd.2) → False) → (false = true ↔ True))) ∧
 (((0 : Int) = x.snd.fst → False) → (false = true ↔ True)))) ∧
 (((0 : Int) ≤ t → False) →
 ((0 : Int) = x.snd.fst →
 ((false = true ↔ x.snd.2) → smallD (copyD l) ∧ (sameAll (copyD l) l ↔ True)) ∧
 (((false = true ↔ x.snd.2) → False) → (false = true ↔ True))) ∧
 (((0 : Int) = x.snd.fst → False) → (false = true ↔ True)))) ∧
 (((0 : Int) = (↑(listD (seatsL l l.len)).len : Int) → False) → (false = true ↔ True))) ∧
 ((((badZ (copyD l)).snd = (0 : Int) → False) → False) →
 ((0 : Int) ≤ (↑(copyD l).len : Int) ∧
 (↑(copyD l).len : Int) ≤ (↑(copyD l).len : Int) ∧ seatedD (copyD l)) ∧
 (sumZ (copyD l) (copyD l).len = (↑(listD (seatsL l l.len)).len : Int) →
 ((0 : Int) ≤ t →
 (t < (↑(copyD l).len : Int) →
 smallD (copyD l) ∧
 (((badZ (copyD l)).snd = (0 : Int) → False) →
 ((0 : Int) = x.snd.fst →
 ((false = true ↔ x.snd.2) →
 smallD (copyD l) ∧ (sameAll (copyD l) l ↔ True)) ∧
 (((false = true ↔ x.snd.2) → False) → (false = true ↔ True))) ∧
 (((0 : Int) = x.snd.fst → False) → (false = true ↔ True))) ∧
 ((((badZ (copyD l)).snd = (0 : Int) → False) → False) →
 ((0 : Int) ≤ t ∧ t ≤ (↑(copyD l).len : Int) ∧ seatedD (copyD l)) ∧
 (sumZ (copyD l) t.toNat = (0 : Int) →
 ((0 : Int) = x.snd.fst →
 ((false = true ↔ x.snd.2) →
 smallD (copyD l) ∧ (sameAll (copyD l) l ↔ True)) ∧
 (((false = true ↔ x.snd.2) → False) → (false = true ↔ True))) ∧
 (((0 : Int) = x.snd.fst → False) → (false = true ↔ True))) ∧
 ((sumZ (copyD l) t.toNat = (0 : Int) → False) →
 (false = true ↔ True)))) ∧
 ((t < (↑(copyD l).len : Int) → False) →
 ((0 : Int) = x.snd.fst →
 ((false = true ↔ x.snd.2) → smallD (copyD l) ∧ (sameAll (copyD l) l ↔ True)) ∧
 (((false = true ↔ x.snd.2) → False) → (false = true ↔ True))) ∧
 (((0 : Int) = x.snd.fst → False) → (false = true ↔ True)))) ∧
 (((0 : Int) ≤ t → False) →
 ((0 : Int) = x.snd.fst →
 ((false = true ↔ x.snd.2) → smallD (copyD l) ∧ (sameAll (copyD l) l ↔ True)) ∧
 (((false = true ↔ x.snd.2) → False) → (false = true ↔ True))) ∧
 (((0 : Int) = x.snd.fst → False) → (false = true ↔ True)))) ∧
 ((sumZ (copyD l) (copyD l).len = (↑(listD (seatsL l l.len)).len : Int) → False) →
 (false = true ↔ True)))) ∧
 ((((badZ (copyD l)).snd = (0 : Int) → False) → False) →
 (copyD l).len ≤ (100 : Nat) ∧
 ((0 : Int) ≤ idxZ (copyD l) s (copyD l).len (0 : Nat) →
 smallD (copyD l) ∧
 (((badZ (copyD l)).snd = (0 : Int) → False) →
 ((0 : Int) = (↑(listD (seatsL l l.len)).len : Int) →
 ((0 : Int) ≤ t →
 (t < (↑(copyD l).len : Int) →
 smallD (copyD l) ∧
 (((badZ (copyD l)).snd = (0 : Int) → False) →
 (idxZ (copyD l) s (copyD l).len (0 : Nat) = x.snd.fst →
 ((true = true ↔ x.snd.2) →
 smallD (copyD l) ∧ (sameAll (copyD l) l ↔ True)) ∧
 (((true = true ↔ x.snd.2) → False) → (false = true ↔ True))) ∧
 ((idxZ (copyD l) s (copyD l).len (0 : Nat) = x.snd.fst → False) →
 (false = true ↔ True))) ∧
 ((((badZ (copyD l)).snd = (0 : Int) → False) → False) →
 ((0 : Int) ≤ t ∧ t ≤ (↑(copyD l).len : Int) ∧ seatedD (copyD l)) ∧
 (sumZ (copyD l) t.toNat = (0 : Int) →
 (idxZ (copyD l) s (copyD l).len (0 : Nat) = x.snd.fst →
 ((true = true ↔ x.snd.2) →
 smallD (copyD l) ∧ (sameAll (copyD l) l ↔ True)) ∧
 (((true = true ↔ x.snd.2) → False) →
 (false = true ↔ True))) ∧
 ((idxZ (copyD l) s (copyD l).len (0 : Nat) = x.snd.fst →
 False) →
 (false = true ↔ True))) ∧
 ((sumZ (copyD l) t.toNat = (0 : Int) → False) →
 (false = true ↔ True)))) ∧
 ((t < (↑(copyD l).len : Int) → False) →
 (idxZ (copyD l) s (copyD l).len (0 : Nat) = x.snd.fst →
 ((true = true ↔ x.snd.2) →
 smallD (copyD l) ∧ (sameAll (copyD l) l ↔ True)) ∧
 (((true = true ↔ x.snd.2) → False) → (false = true ↔ True))) ∧
 ((idxZ (copyD l) s (copyD l).len (0 : Nat) = x.snd.fst → False) →
 (false = true ↔ True)))) ∧
 (((0 : Int) ≤ t → False) →
 (idxZ (copyD l) s (copyD l).len (0 : Nat) = x.snd.fst →
 ((true = true ↔ x.snd.2) → smallD (copyD l) ∧ (sameAll (copyD l) l ↔ True)) ∧
 (((true = true ↔ x.snd.2) → False) → (false = true ↔ True))) ∧
 ((idxZ (copyD l) s (copyD l).len (0 : Nat) = x.snd.fst → False) →
 (false = true ↔ True)))) ∧
 (((0 : Int) = (↑(listD (seatsL l l.len)).len : Int) → False) → (false = true ↔ True))) ∧
 ((((badZ (copyD l)).snd = (0 : Int) → False) → False) →
 ((0 : Int) ≤ (↑(copyD l).len : Int) ∧
 (↑(copyD l).len : Int) ≤ (↑(copyD l).len : Int) ∧ seatedD (copyD l)) ∧
 (sumZ (copyD l) (copyD l).len = (↑(listD (seatsL l l.len)).len : Int) →
 ((0 : Int) ≤ t →
 (t < (↑(copyD l).len : Int) →
 smallD (copyD l) ∧
 (((badZ (copyD l)).snd = (0 : Int) → False) →
 (idxZ (copyD l) s (copyD l).len (0 : Nat) = x.snd.fst →
 ((true = true ↔ x.snd.2) →
 smallD (copyD l) ∧ (sameAll (copyD l) l ↔ True)) ∧
 (((true = true ↔ x.snd.2) → False) → (false = true ↔ True))) ∧
 ((idxZ (copyD l) s (copyD l).len (0 : Nat) = x.snd.fst → False) →
 (false = true ↔ True))) ∧
 ((((badZ (copyD l)).snd = (0 : Int) → False) → False) →
 ((0 : Int) ≤ t ∧ t ≤ (↑(copyD l).len : Int) ∧ seatedD (copyD l)) ∧
 (sumZ (copyD l) t.toNat = (0 : Int) →
 (idxZ (copyD l) s (copyD l).len (0 : Nat) = x.snd.fst →
 ((true = true ↔ x.snd.2) →
 smallD (copyD l) ∧ (sameAll (copyD l) l ↔ True)) ∧
 (((true = true ↔ x.snd.2) → False) →
 (false = true ↔ True))) ∧
 ((idxZ (copyD l) s (copyD l).len (0 : Nat) = x.snd.fst →
 False) →
 (false = true ↔ True))) ∧
 ((sumZ (copyD l) t.toNat = (0 : Int) → False) →
 (false = true ↔ True)))) ∧
 ((t < (↑(copyD l).len : Int) → False) →
 (idxZ (copyD l) s (copyD l).len (0 : Nat) = x.snd.fst →
 ((true = true ↔ x.snd.2) →
 smallD (copyD l) ∧ (sameAll (copyD l) l ↔ True)) ∧
 (((true = true ↔ x.snd.2) → False) → (false = true ↔ True))) ∧
 ((idxZ (copyD l) s (copyD l).len (0 : Nat) = x.snd.fst → False) →
 (false = true ↔ True)))) ∧
 (((0 : Int) ≤ t → False) →
 (idxZ (copyD l) s (copyD l).len (0 : Nat) = x.snd.fst →
 ((true = true ↔ x.snd.2) →
 smallD (copyD l) ∧ (sameAll (copyD l) l ↔ True)) ∧
 (((true = true ↔ x.snd.2) → False) → (false = true ↔ True))) ∧
 ((idxZ (copyD l) s (copyD l).len (0 : Nat) = x.snd.fst → False) →
 (false = true ↔ True)))) ∧
 ((sumZ (copyD l) (copyD l).len = (↑(listD (seatsL l l.len)).len : Int) → False) →
 (false = true ↔ True)))) ∧
 (((0 : Int) ≤ idxZ (copyD l) s (copyD l).len (0 : Nat) → False) →
 smallD (copyD l) ∧
 (((badZ (copyD l)).snd = (0 : Int) → False) →
 ((0 : Int) = (↑(listD (seatsL l l.len)).len : Int) →
 ((0 : Int) ≤ t →
 (t < (↑(copyD l).len : Int) →
 smallD (copyD l) ∧
 (((badZ (copyD l)).snd = (0 : Int) → False) →
 ((0 : Int) = x.snd.fst →
 ((false = true ↔ x.snd.2) →
 smallD (copyD l) ∧ (sameAll (copyD l) l ↔ True)) ∧
 (((false = true ↔ x.snd.2) → False) → (false = true ↔ True))) ∧
 (((0 : Int) = x.snd.fst → False) → (false = true ↔ True))) ∧
 ((((badZ (copyD l)).snd = (0 : Int) → False) → False) →
 ((0 : Int) ≤ t ∧ t ≤ (↑(copyD l).len : Int) ∧ seatedD (copyD l)) ∧
 (sumZ (copyD l) t.toNat = (0 : Int) →
 ((0 : Int) = x.snd.fst →
 ((false = true ↔ x.snd.2) →
 smallD (copyD l) ∧ (sameAll (copyD l) l ↔ True)) ∧
 (((false = true ↔ x.snd.2) → False) →
 (false = true ↔ True))) ∧
 (((0 : Int) = x.snd.fst → False) → (false = true ↔ True))) ∧
 ((sumZ (copyD l) t.toNat = (0 : Int) → False) →
 (false = true ↔ True)))) ∧
 ((t < (↑(copyD l).len : Int) → False) →
 ((0 : Int) = x.snd.fst →
 ((false = true ↔ x.snd.2) →
 smallD (copyD l) ∧ (sameAll (copyD l) l ↔ True)) ∧
 (((false = true ↔ x.snd.2) → False) → (false = true ↔ True))) ∧
 (((0 : Int) = x.snd.fst → False) → (false = true ↔ True)))) ∧
 (((0 : Int) ≤ t → False) →
 ((0 : Int) = x.snd.fst →
 ((false = true ↔ x.snd.2) → smallD (copyD l) ∧ (sameAll (copyD l) l ↔ True)) ∧
 (((false = true ↔ x.snd.2) → False) → (false = true ↔ True))) ∧
 (((0 : Int) = x.snd.fst → False) → (false = true ↔ True)))) ∧
 (((0 : Int) = (↑(listD (seatsL l l.len)).len : Int) → False) → (false = true ↔ True))) ∧
 ((((badZ (copyD l)).snd = (0 : Int) → False) → False) →
 ((0 : Int) ≤ (↑(copyD l).len : Int) ∧
 (↑(copyD l).len : Int) ≤ (↑(copyD l).len : Int) ∧ seatedD (copyD l)) ∧
 (sumZ (copyD l) (copyD l).len = (↑(listD (seatsL l l.len)).len : Int) →
 ((0 : Int) ≤ t →
 (t < (↑(copyD l).len : Int) →
 smallD (copyD l) ∧
 (((badZ (copyD l)).snd = (0 : Int) → False) →
 ((0 : Int) = x.snd.fst →
 ((false = true ↔ x.snd.2) →
 smallD (copyD l) ∧ (sameAll (copyD l) l ↔ True)) ∧
 (((false = true ↔ x.snd.2) → False) → (false = true ↔ True))) ∧
 (((0 : Int) = x.snd.fst → False) → (false = true ↔ True))) ∧
 ((((badZ (copyD l)).snd = (0 : Int) → False) → False) →
 ((0 : Int) ≤ t ∧ t ≤ (↑(copyD l).len : Int) ∧ seatedD (copyD l)) ∧
 (sumZ (copyD l) t.toNat = (0 : Int) →
 ((0 : Int) = x.snd.fst →
 ((false = true ↔ x.snd.2) →
 smallD (copyD l) ∧ (sameAll (copyD l) l ↔ True)) ∧
 (((false = true ↔ x.snd.2) → False) →
 (false = true ↔ True))) ∧
 (((0 : Int) = x.snd.fst → False) → (false = true ↔ True))) ∧
 ((sumZ (copyD l) t.toNat = (0 : Int) → False) →
 (false = true ↔ True)))) ∧
 ((t < (↑(copyD l).len : Int) → False) →
 ((0 : Int) = x.snd.fst →
 ((false = true ↔ x.snd.2) →
 smallD (copyD l) ∧ (sameAll (copyD l) l ↔ True)) ∧
 (((false = true ↔ x.snd.2) → False) → (false = true ↔ True))) ∧
 (((0 : Int) = x.snd.fst → False) → (false = true ↔ True)))) ∧
 (((0 : Int) ≤ t → False) →
 ((0 : Int) = x.snd.fst →
 ((false = true ↔ x.snd.2) →
 smallD (copyD l) ∧ (sameAll (copyD l) l ↔ True)) ∧
 (((false = true ↔ x.snd.2) → False) → (false = true ↔ True))) ∧
 (((0 : Int) = x.snd.fst → False) → (false = true ↔ True)))) ∧
 ((sumZ (copyD l) (copyD l).len = (↑(listD (seatsL l l.len)).len : Int) → False) →
 (false = true ↔ True)))))))) ∧
 (((badZ l).snd = (0 : Int) → False) →
 smallD (copyD l) ∧
 (((badZ (copyD l)).snd = (0 : Int) → False) →
 smallD (copyD l) ∧
 (((badZ (copyD l)).snd = (0 : Int) → False) →
 ((0 : Int) ≤ t →
 (t < (↑(copyD l).len : Int) →
 smallD (copyD l) ∧
 (((badZ (copyD l)).snd = (0 : Int) → False) → smallD (copyD l) ∧ (sameAll (copyD l) l ↔ True)) ∧
 ((((badZ (copyD l)).snd = (0 : Int) → False) → False) →
 ((0 : Int) ≤ t ∧ t ≤ (↑(copyD l).len : Int) ∧ seatedD (copyD l)) ∧
 (sumZ (copyD l) t.toNat = (0 : Int) → smallD (copyD l) ∧ (sameAll (copyD l) l ↔ True)) ∧
 ((sumZ (copyD l) t.toNat = (0 : Int) → False) → (false = true ↔ True)))) ∧
 ((t < (↑(copyD l).len : Int) → False) → smallD (copyD l) ∧ (sameAll (copyD l) l ↔ True))) ∧
 (((0 : Int) ≤ t → False) → smallD (copyD l) ∧ (sameAll (copyD l) l ↔ True))) ∧
 ((((badZ (copyD l)).snd = (0 : Int) → False) → False) →
 ((0 : Int) ≤ (↑(copyD l).len : Int) ∧ (↑(copyD l).len : Int) ≤ (↑(copyD l).len : Int) ∧ seatedD (copyD l)) ∧
 (sumZ (copyD l) (copyD l).len = (0 : Int) →
 ((0 : Int) ≤ t →
 (t < (↑(copyD l).len : Int) →
 smallD (copyD l) ∧
 (((badZ (copyD l)).snd = (0 : Int) → False) → smallD (copyD l) ∧ (sameAll (copyD l) l ↔ True)) ∧
 ((((badZ (copyD l)).snd = (0 : Int) → False) → False) →
 ((0 : Int) ≤ t ∧ t ≤ (↑(copyD l).len : Int) ∧ seatedD (copyD l)) ∧
 (sumZ (copyD l) t.toNat = (0 : Int) → smallD (copyD l) ∧ (sameAll (copyD l) l ↔ True)) ∧
 ((sumZ (copyD l) t.toNat = (0 : Int) → False) → (false = true ↔ True)))) ∧
 ((t < (↑(copyD l).len : Int) → False) → smallD (copyD l) ∧ (sameAll (copyD l) l ↔ True))) ∧
 (((0 : Int) ≤ t → False) → smallD (copyD l) ∧ (sameAll (copyD l) l ↔ True))) ∧
 ((sumZ (copyD l) (copyD l).len = (0 : Int) → False) → (false = true ↔ True)))) ∧
 ((((badZ (copyD l)).snd = (0 : Int) → False) → False) →
 (copyD l).len ≤ (100 : Nat) ∧
 ((0 : Int) ≤ idxZ (copyD l) s (copyD l).len (0 : Nat) →
 smallD (copyD l) ∧
 (((badZ (copyD l)).snd = (0 : Int) → False) →
 ((0 : Int) ≤ t →
 (t < (↑(copyD l).len : Int) →
 smallD (copyD l) ∧
 (((badZ (copyD l)).snd = (0 : Int) → False) →
 (idxZ (copyD l) s (copyD l).len (0 : Nat) = (0 : Int) → (false = true ↔ True)) ∧
 ((idxZ (copyD l) s (copyD l).len (0 : Nat) = (0 : Int) → False) → (false = true ↔ True))) ∧
 ((((badZ (copyD l)).snd = (0 : Int) → False) → False) →
 ((0 : Int) ≤ t ∧ t ≤ (↑(copyD l).len : Int) ∧ seatedD (copyD l)) ∧
 (sumZ (copyD l) t.toNat = (0 : Int) →
 (idxZ (copyD l) s (copyD l).len (0 : Nat) = (0 : Int) → (false = true ↔ True)) ∧
 ((idxZ (copyD l) s (copyD l).len (0 : Nat) = (0 : Int) → False) →
 (false = true ↔ True))) ∧
 ((sumZ (copyD l) t.toNat = (0 : Int) → False) → (false = true ↔ True)))) ∧
 ((t < (↑(copyD l).len : Int) → False) →
 (idxZ (copyD l) s (copyD l).len (0 : Nat) = (0 : Int) → (false = true ↔ True)) ∧
 ((idxZ (copyD l) s (copyD l).len (0 : Nat) = (0 : Int) → False) → (false = true ↔ True)))) ∧
 (((0 : Int) ≤ t → False) →
 (idxZ (copyD l) s (copyD l).len (0 : Nat) = (0 : Int) → (false = true ↔ True)) ∧
 ((idxZ (copyD l) s (copyD l).len (0 : Nat) = (0 : Int) → False) → (false = true ↔ True)))) ∧
 ((((badZ (copyD l)).snd = (0 : Int) → False) → False) →
 ((0 : Int) ≤ (↑(copyD l).len : Int) ∧ (↑(copyD l).len : Int) ≤ (↑(copyD l).len : Int) ∧ seatedD (copyD l)) ∧
 (sumZ (copyD l) (copyD l).len = (0 : Int) →
 ((0 : Int) ≤ t →
 (t < (↑(copyD l).len : Int) →
 smallD (copyD l) ∧
 (((badZ (copyD l)).snd = (0 : Int) → False) →
 (idxZ (copyD l) s (copyD l).len (0 : Nat) = (0 : Int) → (false = true ↔ True)) ∧
 ((idxZ (copyD l) s (copyD l).len (0 : Nat) = (0 : Int) → False) →
 (false = true ↔ True))) ∧
 ((((badZ (copyD l)).snd = (0 : Int) → False) → False) →
 ((0 : Int) ≤ t ∧ t ≤ (↑(copyD l).len : Int) ∧ seatedD (copyD l)) ∧
 (sumZ (copyD l) t.toNat = (0 : Int) →
 (idxZ (copyD l) s (copyD l).len (0 : Nat) = (0 : Int) → (false = true ↔ True)) ∧
 ((idxZ (copyD l) s (copyD l).len (0 : Nat) = (0 : Int) → False) →
 (false = true ↔ True))) ∧
 ((sumZ (copyD l) t.toNat = (0 : Int) → False) → (false = true ↔ True)))) ∧
 ((t < (↑(copyD l).len : Int) → False) →
 (idxZ (copyD l) s (copyD l).len (0 : Nat) = (0 : Int) → (false = true ↔ True)) ∧
 ((idxZ (copyD l) s (copyD l).len (0 : Nat) = (0 : Int) → False) → (false = true ↔ True)))) ∧
 (((0 : Int) ≤ t → False) →
 (idxZ (copyD l) s (copyD l).len (0 : Nat) = (0 : Int) → (false = true ↔ True)) ∧
 ((idxZ (copyD l) s (copyD l).len (0 : Nat) = (0 : Int) → False) → (false = true ↔ True)))) ∧
 ((sumZ (copyD l) (copyD l).len = (0 : Int) → False) → (false = true ↔ True)))) ∧
 (((0 : Int) ≤ idxZ (copyD l) s (copyD l).len (0 : Nat) → False) →
 smallD (copyD l) ∧
 (((badZ (copyD l)).snd = (0 : Int) → False) →
 ((0 : Int) ≤ t →
 (t < (↑(copyD l).len : Int) →
 smallD (copyD l) ∧
 (((badZ (copyD l)).snd = (0 : Int) → False) → smallD (copyD l) ∧ (sameAll (copyD l) l ↔ True)) ∧
 ((((badZ (copyD l)).snd = (0 : Int) → False) → False) →
 ((0 : Int) ≤ t ∧ t ≤ (↑(copyD l).len : Int) ∧ seatedD (copyD l)) ∧
 (sumZ (copyD l) t.toNat = (0 : Int) → smallD (copyD l) ∧ (sameAll (copyD l) l ↔ True)) ∧
 ((sumZ (copyD l) t.toNat = (0 : Int) → False) → (false = true ↔ True)))) ∧
 ((t < (↑(copyD l).len : Int) → False) → smallD (copyD l) ∧ (sameAll (copyD l) l ↔ True))) ∧
 (((0 : Int) ≤ t → False) → smallD (copyD l) ∧ (sameAll (copyD l) l ↔ True))) ∧
 ((((badZ (copyD l)).snd = (0 : Int) → False) → False) →
 ((0 : Int) ≤ (↑(copyD l).len : Int) ∧ (↑(copyD l).len : Int) ≤ (↑(copyD l).len : Int) ∧ seatedD (copyD l)) ∧
 (sumZ (copyD l) (copyD l).len = (0 : Int) →
 ((0 : Int) ≤ t →
 (t < (↑(copyD l).len : Int) →
 smallD (copyD l) ∧
 (((badZ (copyD l)).snd = (0 : Int) → False) →
 smallD (copyD l) ∧ (sameAll (copyD l) l ↔ True)) ∧
 ((((badZ (copyD l)).snd = (0 : Int) → False) → False) →
 ((0 : Int) ≤ t ∧ t ≤ (↑(copyD l).len : Int) ∧ seatedD (copyD l)) ∧
 (sumZ (copyD l) t.toNat = (0 : Int) →
 smallD (copyD l) ∧ (sameAll (copyD l) l ↔ True)) ∧
 ((sumZ (copyD l) t.toNat = (0 : Int) → False) → (false = true ↔ True)))) ∧
 ((t < (↑(copyD l).len : Int) → False) → smallD (copyD l) ∧ (sameAll (copyD l) l ↔ True))) ∧
 (((0 : Int) ≤ t → False) → smallD (copyD l) ∧ (sameAll (copyD l) l ↔ True))) ∧
 ((sumZ (copyD l) (copyD l).len = (0 : Int) → False) → (false = true ↔ True))))))))) ∧
 (((badZ (copyD l)).fst = (badZ l).fst → False) → (false = true ↔ True))) := by intros; kernel_rfl


theorem copy_dlen (l : D) : (copyD l).len = l.len := by
  have h : (copyL l l.len).length = l.len := copy_len l l.len
  unfold copyD listD
  split
  · rename_i hn; rw [hn] at h; exact h
  · exact h
theorem copy_as (l : D) : (copyD l).asList = copyL l l.len := by
  unfold copyD listD
  split
  · rename_i hn; rw [hn]; rfl
  · rfl
theorem el_far {l : D} {x : Nat} (h : l.len ≤ x) : el l x = .nil := by
  unfold el nthD
  rw [List.getElem?_eq_none h]; rfl
theorem copy_el (l : D) (x : Nat) : (x < l.len ∧ el (copyD l) x = copyT (el l x)) ∨ (el (copyD l) x = .nil ∧ el l x = .nil) := by
  rcases Nat.lt_or_ge x l.len with h | h
  · left
    refine ⟨h, ?_⟩
    show nthD (copyD l).asList x = _
    rw [copy_as]
    unfold copyL nthD
    simp [h]
  · right
    exact ⟨el_far (by rw [copy_dlen]; exact h), el_far h⟩
theorem rising_list (o : D) (n : Int) : risingP (.list o.asList) n = risingP o n := propext ⟨fun h => ⟨h.out⟩, fun h => ⟨h.out⟩⟩
theorem errZ_list (nm : List UInt8) (sh a b : Int) (o : D) (x y : Int) : errZ nm sh a b (.list o.asList) x y = errZ nm sh a b o x y := by
  unfold errZ
  rw [rising_list o (sizeZ sh a b)]
theorem c_name (l : D) (x : Nat) : tName (el (copyD l) x) = tName (el l x) := by rcases copy_el l x with ⟨_, h⟩ | ⟨h, h'⟩ <;> rw [h] <;> first | rfl | rw [h']
theorem c_size (l : D) (x : Nat) : sizeT' (el (copyD l) x) = sizeT' (el l x) := by rcases copy_el l x with ⟨_, h⟩ | ⟨h, h'⟩ <;> rw [h] <;> first | rfl | rw [h']
theorem c_open (l : D) (x : Nat) : (tOpen (el (copyD l) x)).len = (tOpen (el l x)).len := by rcases copy_el l x with ⟨_, h⟩ | ⟨h, h'⟩ <;> rw [h] <;> first | rfl | rw [h']
theorem c_err (l : D) (x : Nat) : errT (el (copyD l) x) = errT (el l x) := by
  rcases copy_el l x with ⟨_, h⟩ | ⟨h, h'⟩
  · rw [h]
    exact errZ_list (tName (el l x)) (tShape (el l x)) (tA (el l x)) (tB (el l x)) (tOpen (el l x)) (tX (el l x)) (tY (el l x))
  · rw [h, h']
theorem c_twice (l : D) (x : Nat) : twiceP (copyD l) x = twiceP l x := propext ⟨fun ⟨k, h1, h2⟩ => ⟨k, h1, by rw [c_name, c_name] at h2; exact h2⟩, fun ⟨k, h1, h2⟩ => ⟨k, h1, by rw [c_name, c_name]; exact h2⟩⟩
theorem c_err1 (l : D) (x : Nat) : err1 (copyD l) x = err1 l x := by unfold err1; rw [c_err, c_twice]
theorem c_scan (l : D) : ∀ (f i : Nat), scanZ (copyD l) f i = scanZ l f i
  | 0, _ => rfl
  | f + 1, i => by unfold scanZ; rw [c_err1, c_scan l f (i + 1)]
theorem c_bad (l : D) : badZ (copyD l) = badZ l := by unfold badZ; rw [copy_dlen, c_scan]
theorem c_sum (l : D) : ∀ n, sumZ (copyD l) n = sumZ l n
  | 0 => rfl
  | n + 1 => by unfold sumZ; rw [c_sum l n, c_size]
theorem c_idx (l : D) (s : List UInt8) : ∀ (f i : Nat), idxZ (copyD l) s f i = idxZ l s f i
  | 0, _ => rfl
  | f + 1, i => by unfold idxZ; rw [c_name, c_idx l s f (i + 1)]
theorem seats_sum (l : D) : ∀ n, ((seatsL l n).length : Int) = sumZ l n
  | 0 => rfl
  | n + 1 => by
    have h1 := seats_sum l n
    have h2 := size_lim2 (el l n)
    show ((seatsL l n ++ seatRow n (sizeT' (el l n)).toNat).length : Int) = sumZ l n + sizeT' (el l n)
    rw [List.length_append, row_len]; omega
theorem listD_len (l : List D) : (listD l).len = l.length := by cases l <;> rfl
theorem c_seats (l : D) : ((listD (seatsL l l.len)).len : Int) = sumZ l l.len := by rw [listD_len]; exact seats_sum l l.len
theorem c_small {l : D} (h : smallD l) : smallD (copyD l) := ⟨by rw [copy_dlen]; exact h.out.1, fun i hi => by rw [copy_dlen] at hi; rw [c_open]; exact h.out.2 i hi⟩
theorem c_same (l : D) : sameAll (copyD l) l := by
  refine ⟨copy_dlen l, fun i hi => ?_⟩
  rw [copy_dlen] at hi
  rcases copy_el l i with ⟨_, h⟩ | ⟨h, h'⟩
  · rw [h]; exact ⟨rfl, rfl, rfl, rfl, rfl, rfl, rfl, fun _ _ => rfl⟩
  · rw [h, h']; exact ⟨rfl, rfl, rfl, rfl, rfl, rfl, rfl, fun _ _ => rfl⟩
theorem scan_ok (l : D) : ∀ (f i : Nat), (scanZ l f i).2 = 0 → ∀ k, i ≤ k → k < i + f → err1 l k = 0
  | 0, i, _, k, h1, h2 => by omega
  | f + 1, i, h, k, h1, h2 => by
    unfold scanZ at h
    split at h
    · rename_i hn; exact absurd h hn
    · rename_i hn
      rcases Nat.eq_or_lt_of_le h1 with e | e
      · subst e; exact Classical.byContradiction hn
      · exact scan_ok l f (i + 1) h k (by omega) (by omega)
theorem bad_ok {l : D} (h : (badZ l).2 = 0) : ∀ k, k < l.len → errT (el l k) = 0 ∧ ¬ twiceP l k := fun k hk => by
  unfold badZ at h
  split at h
  · simp at h
  · have := scan_ok l l.len 0 h k (Nat.zero_le _) (by omega)
    by_cases h1 : errT (el l k) = 0
    · by_cases h2 : twiceP l k
      · rw [err1_twice h1 h2] at this; omega
      · exact ⟨h1, h2⟩
    · rw [err1_own h1] at this; exact absurd this h1
theorem err_size {d : D} (h : errT d = 0) : sizeT' d ≠ 0 := fun hz => by
  unfold errT errZ at h
  split at h
  · omega
  · rw [if_pos (show sizeZ (tShape d) (tA d) (tB d) = 0 from hz)] at h; omega
theorem c_seated {l : D} (hs : l.len ≤ 100) (h : (badZ l).2 = 0) : seatedD (copyD l) :=
  ⟨by rw [copy_dlen]; exact hs, fun i hi => by rw [copy_dlen] at hi; rw [c_size]; exact err_size (bad_ok h i hi).1⟩
theorem idx_val (l : D) (s : List UInt8) : ∀ (f i : Nat), 0 ≤ idxZ l s f i → ∃ k : Nat, idxZ l s f i = k ∧ i ≤ k ∧ k < i + f ∧ tName (el l k) = s
  | 0, i, h => absurd h (by simp [idxZ])
  | f + 1, i, h => by
    unfold idxZ at h ⊢
    split
    · rename_i hn; exact ⟨i, rfl, by omega, by omega, hn⟩
    · rename_i hn
      rw [if_neg hn] at h
      obtain ⟨k, h1, h2, h3, h4⟩ := idx_val l s f (i + 1) h
      exact ⟨k, h1, by omega, by omega, h4⟩
/-- The table of a name is one. -/
theorem idx_one {l : D} {s : List UInt8} (hb : (badZ l).2 = 0) {k : Nat} (hk : k < l.len) (hs : tName (el l k) = s) : idxZ l s l.len 0 = k := by
  have h0 : 0 ≤ idxZ l s l.len 0 := (idx_ge l s l.len 0).2 ⟨k, by omega, by omega, hs⟩
  obtain ⟨j, h1, _, h3, h4⟩ := idx_val l s l.len 0 h0
  rw [h1]
  rcases Nat.lt_trichotomy j k with h | h | h
  · exact absurd ⟨j, h, by rw [h4, hs]⟩ (bad_ok hb k hk).2
  · rw [h]
  · exact absurd ⟨k, h, by rw [h4, hs]⟩ (bad_ok hb j (by omega)).2
theorem few_small {l : D} (h : fewD l) : smallD l := ⟨by have := h.out.1; omega, fun i hi => by have := (h.out.2 i hi).out.2; omega⟩
theorem ft_true : (false = true ↔ True) = False := by simp
set_option maxHeartbeats 4000000 in
theorem s20 (l : D) (s : List UInt8) (t : Int) (hf : fewD l) : symFun (ctx chk3 chkAnn) 5 20 [.dat 22 l, .str s, .int .i64 t] (.prop True) := by
  have hs := few_small hf
  have hlen := hs.out.1
  have e1 : smallD l = True := eq_true hs
  have e2 : smallD (copyD l) = True := eq_true (c_small hs)
  have e3 : sameAll (copyD l) l = True := eq_true (c_same l)
  have hseat : (badZ l).2 = 0 → seatedD (copyD l) := c_seated hlen
  rw [vc20]
  simp only [e1, e2, e3, c_bad, copy_dlen, c_err, c_size, c_open, c_sum, c_idx, c_seats, ft_true, imp_false, Classical.not_not, true_and, and_true, not_true_eq_false, not_false_eq_true, true_implies, false_implies, implies_true]
  refine ⟨⟨0, Nat.zero_le _, rfl⟩, fun x hx => ?_⟩
  have hx' : x ≤ l.len := hx
  refine ⟨by unfold LIM; omega, fun hlt => ?_, fun hge => ?_⟩
  · have ho := hs.out.2 x (by omega)
    have hsz : errT (el l x) = 0 → sizeT' (el l x) ≠ 0 := err_size
    have nxt : ∃ y, y.le l.len ∧ l.len - y < l.len - x ∧ (x : Int) + 1 = (y : Int) := ⟨x + 1, show x + 1 ≤ l.len by omega, by omega, by omega⟩
    have hin : (-9223372036854775808 : Int) ≤ (x : Int) + 1 ∧ (x : Int) + 1 < 9223372036854775808 := by omega
    by_cases he : errT (el l x) = 0
    · have h2 := hsz he
      have h3 : ¬ (0 : Int) = sizeT' (el l x) := fun h => h2 h.symm
      simp only [he, h2, h3, not_true_eq_false, not_false_eq_true, true_implies, false_implies, true_and, and_true, hin, nxt, ho]
      omega
    · simp only [he, not_true_eq_false, not_false_eq_true, true_implies, false_implies, true_and, and_true, hin, nxt, ho]
      omega
  · clear hge
    by_cases hb : (badZ l).2 = 0
    · have hse := hseat hb
      -- who is found
      have found : ∀ (v : Int) (p : Prop), ((p ∧ ∃ k : Nat, k < l.len ∧ v = k ∧ tName (el l k) = s) ∨ (¬ p ∧ v = 0 ∧ ∀ k, k < l.len → ¬ tName (el l k) = s)) →
          (0 ≤ idxZ l s l.len 0 → idxZ l s l.len 0 = v ∧ (True ↔ p)) ∧ (¬ 0 ≤ idxZ l s l.len 0 → 0 = v ∧ (false = true ↔ p)) := fun v p h => by
        rcases h with ⟨hp, k, hk, hv, hn⟩ | ⟨hp, hv, hno⟩
        · have := idx_one hb hk hn
          exact ⟨fun _ => ⟨by rw [this, hv], ⟨fun _ => hp, fun _ => trivial⟩⟩, fun h => absurd (by rw [this]; omega) h⟩
        · refine ⟨fun h => ?_, fun _ => ⟨hv.symm, ⟨fun h => by simp at h, fun h => absurd h hp⟩⟩⟩
          obtain ⟨k, h1, _, h3, h4⟩ := idx_val l s l.len 0 h
          exact absurd h4 (hno k (by omega))
      have walk : ∀ (x : Nat × Int × Prop), x.fst < l.len → (x.fst ≤ l.len ∧ ((x.snd.snd ∧ ∃ k : Nat, k < x.fst ∧ x.snd.fst = k ∧ tName (el l k) = s) ∨ ¬ x.snd.snd ∧ x.snd.fst = 0 ∧ ∀ k, k < x.fst → ¬ tName (el l k) = s)) →
          (tName (el l x.fst) = s → ∃ y : Nat × Int × Prop, (y.fst ≤ l.len ∧ ((y.snd.snd ∧ ∃ k : Nat, k < y.fst ∧ y.snd.fst = k ∧ tName (el l k) = s) ∨ ¬ y.snd.snd ∧ y.snd.fst = 0 ∧ ∀ k, k < y.fst → ¬ tName (el l k) = s)) ∧ l.len - y.fst < l.len - x.fst ∧ (x.fst : Int) + 1 = (y.fst : Int) ∧ (x.fst : Int) = y.snd.fst ∧ (True ↔ y.snd.snd)) ∧
          (¬ tName (el l x.fst) = s → ∃ y : Nat × Int × Prop, (y.fst ≤ l.len ∧ ((y.snd.snd ∧ ∃ k : Nat, k < y.fst ∧ y.snd.fst = k ∧ tName (el l k) = s) ∨ ¬ y.snd.snd ∧ y.snd.fst = 0 ∧ ∀ k, k < y.fst → ¬ tName (el l k) = s)) ∧ l.len - y.fst < l.len - x.fst ∧ (x.fst : Int) + 1 = (y.fst : Int) ∧ x.snd.fst = y.snd.fst ∧ (x.snd.snd ↔ y.snd.snd)) := by
        rintro ⟨k, v, p⟩ hk ⟨_, hinv⟩
        dsimp only at hk hinv ⊢
        refine ⟨fun hn => ⟨(k + 1, (k : Int), True), ⟨by dsimp only; omega, .inl ⟨trivial, k, by dsimp only; omega, rfl, hn⟩⟩, by dsimp only; omega, by dsimp only; omega, rfl, Iff.rfl⟩, fun hn => ⟨(k + 1, v, p), ⟨by dsimp only; omega, ?_⟩, by dsimp only; omega, by dsimp only; omega, rfl, Iff.rfl⟩⟩
        rcases hinv with ⟨hp, j, hj, hv, hnj⟩ | ⟨hp, hv, hno⟩
        · exact .inl ⟨hp, j, by dsimp only; omega, hv, hnj⟩
        · refine .inr ⟨hp, hv, fun j hj => ?_⟩
          dsimp only at hj
          by_cases e : j = k
          · subst e; exact hn
          · exact hno j (by omega)
      have fin : (∃ x : Nat × Int × Prop, (x.fst ≤ l.len ∧ ((x.snd.snd ∧ ∃ k : Nat, k < x.fst ∧ x.snd.fst = k ∧ tName (el l k) = s) ∨ ¬ x.snd.snd ∧ x.snd.fst = 0 ∧ ∀ k, k < x.fst → ¬ tName (el l k) = s)) ∧ 0 = (x.fst : Int) ∧ 0 = x.snd.fst ∧ (false = true ↔ x.snd.snd)) ∧
          ∀ x : Nat × Int × Prop, (x.fst ≤ l.len ∧ ((x.snd.snd ∧ ∃ k : Nat, k < x.fst ∧ x.snd.fst = k ∧ tName (el l k) = s) ∨ ¬ x.snd.snd ∧ x.snd.fst = 0 ∧ ∀ k, k < x.fst → ¬ tName (el l k) = s)) →
            l.len - x.fst < LIM ∧
              ((x.fst : Int) < (l.len : Int) → 0 ≤ (x.fst : Int) ∧ (x.fst : Int) < (l.len : Int) ∧
                  (tName (el l x.fst) = s → (-9223372036854775808 ≤ (x.fst : Int) + 1 ∧ (x.fst : Int) + 1 < 9223372036854775808) ∧ ∃ y : Nat × Int × Prop, (y.fst ≤ l.len ∧ ((y.snd.snd ∧ ∃ k : Nat, k < y.fst ∧ y.snd.fst = k ∧ tName (el l k) = s) ∨ ¬ y.snd.snd ∧ y.snd.fst = 0 ∧ ∀ k, k < y.fst → ¬ tName (el l k) = s)) ∧ l.len - y.fst < l.len - x.fst ∧ (x.fst : Int) + 1 = (y.fst : Int) ∧ (x.fst : Int) = y.snd.fst ∧ (True ↔ y.snd.snd)) ∧
                  (¬ tName (el l x.fst) = s → (-9223372036854775808 ≤ (x.fst : Int) + 1 ∧ (x.fst : Int) + 1 < 9223372036854775808) ∧ ∃ y : Nat × Int × Prop, (y.fst ≤ l.len ∧ ((y.snd.snd ∧ ∃ k : Nat, k < y.fst ∧ y.snd.fst = k ∧ tName (el l k) = s) ∨ ¬ y.snd.snd ∧ y.snd.fst = 0 ∧ ∀ k, k < y.fst → ¬ tName (el l k) = s)) ∧ l.len - y.fst < l.len - x.fst ∧ (x.fst : Int) + 1 = (y.fst : Int) ∧ x.snd.fst = y.snd.fst ∧ (x.snd.snd ↔ y.snd.snd))) ∧
              (¬ (x.fst : Int) < (l.len : Int) → (0 ≤ idxZ l s l.len 0 → (idxZ l s l.len 0 = x.snd.fst → (True ↔ x.snd.snd)) ∧ idxZ l s l.len 0 = x.snd.fst) ∧ (¬ 0 ≤ idxZ l s l.len 0 → (0 = x.snd.fst → (false = true ↔ x.snd.snd)) ∧ 0 = x.snd.fst)) := by
        refine ⟨⟨(0, 0, False), ⟨by dsimp only; omega, .inr ⟨fun h => h, rfl, fun k hk => by dsimp only at hk; omega⟩⟩, rfl, rfl, ⟨fun h => by simp at h, fun h => h.elim⟩⟩, fun x hx => ⟨by unfold LIM; omega, fun hlt => ⟨by omega, hlt, fun hn => ⟨by omega, (walk x (by omega) hx).1 hn⟩, fun hn => ⟨by omega, (walk x (by omega) hx).2 hn⟩⟩, fun hge => ?_⟩⟩
        have hxl : x.fst = l.len := by have := hx.1; omega
        have f := found x.snd.fst x.snd.snd (by have := hx.2; rw [hxl] at this; exact this)
        exact ⟨fun h => ⟨fun _ => (f.1 h).2, (f.1 h).1⟩, fun h => ⟨fun _ => (f.2 h).2, (f.2 h).1⟩⟩
      have e4 : seatedD (copyD l) = True := eq_true hse
      have e5 : l.len ≤ 100 := hlen
      have e6 : (0 : Int) ≤ l.len := by omega
      by_cases h0 : 0 ≤ t
      · by_cases h1 : t < l.len
        · have h2 : t ≤ l.len := by omega
          simp only [hb, h0, h1, h2, e4, e5, e6, Int.le_refl, not_true_eq_false, not_false_eq_true, true_implies, false_implies, true_and, and_true]
          exact fin
        · simp only [hb, h0, h1, e4, e5, e6, Int.le_refl, not_true_eq_false, not_false_eq_true, true_implies, false_implies, true_and, and_true]
          exact fin
      · simp only [hb, h0, e4, e5, e6, Int.le_refl, not_true_eq_false, not_false_eq_true, true_implies, false_implies, true_and, and_true]
        exact fin
    · simp only [hb, not_true_eq_false, not_false_eq_true, true_implies, false_implies, true_and, and_true]
      exact fun _ _ => trivial
end Go.Ev
