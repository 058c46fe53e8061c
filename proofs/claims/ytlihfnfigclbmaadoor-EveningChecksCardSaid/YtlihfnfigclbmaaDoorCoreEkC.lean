/-
  Part of the engine that the claim is proved with: it states nothing of the document by itself.
-/
import Derived.Test.YtlihfnfigclbmaaDoorCoreEkB
open Go.Proofs
namespace Go.Ev
set_option maxRecDepth 100000
set_option maxHeartbeats 4000000
theorem vc21 : ∀ (s : D), symFun (ctx cc0 ekAnn) (4 : Nat) (21 : FuncId) [V.dat (33 : TypeId) s] (V.dat (33 : TypeId) (cpS s)) = (((∃ (x : Nat), x = (0 : Nat) ∧ ((0 : Int) = (0 : Int) ∧ True ∧ True) ∧
 True) ∨ ∃ (x : Nat), ((0 : Nat) < x ∧ x ≤ s.len) ∧ ((0 : Int) = (↑x : Int) ∧ False ∧ True) ∧ False ∧ True) ∧ (∀ (x : Nat), x = (0 : Nat) → s.len - x < LIM ∧ ((0 : Int) < (↑s.len : Int) → (0 : Int) ≤
 (0 : Int) ∧ (0 : Int) < (↑s.len : Int) ∧ ((∃ (x : Nat), x = (0 : Nat) ∧ ((0 : Int) = (0 : Int) ∧ True ∧ True) ∧ True) ∨ ∃ (x : Nat), ((0 : Nat) < x ∧ x ≤ (el s (0 : Nat)).len) ∧ ((0 : Int) = (↑x :
 Int) ∧ False ∧ True) ∧ False ∧ True) ∧ (∀ (x_1 : Nat), x_1 = (0 : Nat) → (el s (0 : Nat)).len - x_1 < LIM ∧ ((0 : Int) < (↑(el s (0 : Nat)).len : Int) → (0 : Int) ≤ (0 : Int) ∧ (0 : Int) < (↑(el s (0
 : Nat)).len : Int) ∧ ((el (el s (0 : Nat)) (0 : Nat)).isNil → (0 : Nat) + (1 : Nat) ≤ [D.int (-9 : Int)].length ∧ (1 : Nat) ≤ (16777216 : Nat) ∧ (0 : Int) ≤ (0 : Int) ∧ (0 : Int) ≤ (↑(el (el s (0 :
 Nat)) (0 : Nat)).len : Int) ∧ ((↑(1 : Nat) : Int) - (↑(el (el s (0 : Nat)) (0 : Nat)).len : Int)).NonNeg ∧ (0 : Nat) + (0 : Nat) + (el (el s (0 : Nat)) (0 : Nat)).len ≤ (List.take (1 : Nat) [D.int (-9
 : Int)]).length ∧ (0 : Nat) + (1 : Nat) ≤ [D.list (List.take (el (el s (0 : Nat)) (0 : Nat)).len (List.drop ((0 : Nat) + (0 : Nat)) (List.take (1 : Nat) [D.int (-9 : Int)])))].length ∧ (1 : Nat) ≤
 (16777216 : Nat) ∧ ((-9223372036854775808 : Int) ≤ (0 : Int) + (1 : Int) ∧ (0 : Int) + (1 : Int) < (9223372036854775808 : Int)) ∧ ((∃ (y : Nat), y = (0 : Nat) ∧ (el s (0 : Nat)).len - y < (el s (0 :
 Nat)).len - x_1 ∧ ((0 : Int) + (1 : Int) = (0 : Int) ∧ False ∧ True) ∧ True) ∨ ∃ (y : Nat), ((0 : Nat) < y ∧ y ≤ (el s (0 : Nat)).len) ∧ (el s (0 : Nat)).len - y < (el s (0 : Nat)).len - x_1 ∧ ((0 :
 Int) + (1 : Int) = (↑y : Int) ∧ ((0 : Nat) = (0 : Nat) ∧ (1 : Nat) = y ∧ True) ∧ True) ∧ List.take (1 : Nat) [D.list (List.take (el (el s (0 : Nat)) (0 : Nat)).len (List.drop ((0 : Nat) + (0 : Nat))
 (List.take (1 : Nat) [D.int (-9 : Int)])))] = cpEL (el s (0 : Nat)) y ∧ True)) ∧ (((el (el s (0 : Nat)) (0 : Nat)).isNil → False) → ((el (el s (0 : Nat)) (0 : Nat)).len = (0 : Nat) → (0 : Nat) + (1 :
 Nat) ≤ [D.int (-9 : Int)].length ∧ (0 : Nat) + (0 : Nat) ≤ ([] : List D).length ∧ (0 : Nat) + (1 : Nat) ≤ (16777216 : Nat) ∧ (0 : Int) ≤ (0 : Int) ∧ (0 : Int) ≤ (↑(el (el s (0 : Nat)) (0 : Nat)).len :
 Int) ∧ ((↑((0 : Nat) + (1 : Nat)) : Int) - (↑(el (el s (0 : Nat)) (0 : Nat)).len : Int)).NonNeg ∧ (0 : Nat) + (0 : Nat) + (el (el s (0 : Nat)) (0 : Nat)).len ≤ (List.take (0 : Nat) ([] : List D) ++ List.take (1
 : Nat) [D.int (-9 : Int)]).length ∧ (0 : Nat) + (1 : Nat) ≤ [D.list (List.take (el (el s (0 : Nat)) (0 : Nat)).len (List.drop ((0 : Nat) + (0 : Nat)) (List.take (0 : Nat) ([] : List D) ++ List.take (1 : Nat)
 [D.int (-9 : Int)])))].length ∧ (1 : Nat) ≤ (16777216 : Nat) ∧ ((-9223372036854775808 : Int) ≤ (0 : Int) + (1 : Int) ∧ (0 : Int) + (1 : Int) < (9223372036854775808 : Int)) ∧ ((∃ (y : Nat), y = (0 :
 Nat) ∧ (el s (0 : Nat)).len - y < (el s (0 : Nat)).len - x_1 ∧ ((0 : Int) + (1 : Int) = (0 : Int) ∧ False ∧ True) ∧ True) ∨ ∃ (y : Nat), ((0 : Nat) < y ∧ y ≤ (el s (0 : Nat)).len) ∧ (el s (0 :
 Nat)).len - y < (el s (0 : Nat)).len - x_1 ∧ ((0 : Int) + (1 : Int) = (↑y : Int) ∧ ((0 : Nat) = (0 : Nat) ∧ (1 : Nat) = y ∧ True) ∧ True) ∧ List.take (1 : Nat) [D.list (List.take (el (el s (0 : Nat))
 (0 : Nat)).len (List.drop ((0 : Nat) + (0 : Nat)) (List.take (0 : Nat) ([] : List D) ++ List.take (1 : Nat) [D.int (-9 : Int)])))] = cpEL (el s (0 : Nat)) y ∧ True)) ∧ ((0 : Nat) < (el (el s (0 : Nat)) (0 :
 Nat)).len → (0 : Nat) + (0 : Nat) ≤ ([] : List D).length ∧ (0 : Nat) + (el (el s (0 : Nat)) (0 : Nat)).len ≤ (16777216 : Nat) ∧ ((0 : Nat) + (el (el s (0 : Nat)) (0 : Nat)).len ≤ (0 : Nat) → (0 : Nat)
 + (0 : Nat) + (el (el s (0 : Nat)) (0 : Nat)).len ≤ ([] : List D).length ∧ (0 : Nat) + (1 : Nat) ≤ [D.int (-9 : Int)].length ∧ (0 : Nat) + (el (el s (0 : Nat)) (0 : Nat)).len ≤ (List.take ((0 : Nat) +
 (0 : Nat)) ([] : List D) ++ (el (el s (0 : Nat)) (0 : Nat)).asList ++ List.drop ((0 : Nat) + (0 : Nat) + (el (el s (0 : Nat)) (0 : Nat)).len) []).length ∧ (el (el s (0 : Nat)) (0 : Nat)).len + (1 : Nat) ≤
 (16777216 : Nat) ∧ ((el (el s (0 : Nat)) (0 : Nat)).len + (1 : Nat) ≤ (0 : Nat) → (0 : Nat) + (el (el s (0 : Nat)) (0 : Nat)).len + (1 : Nat) ≤ (List.take ((0 : Nat) + (0 : Nat)) ([] : List D) ++ (el (el s (0 :
 Nat)) (0 : Nat)).asList ++ List.drop ((0 : Nat) + (0 : Nat) + (el (el s (0 : Nat)) (0 : Nat)).len) []).length ∧ (0 : Int) ≤ (0 : Int) ∧ (0 : Int) ≤ (↑(el (el s (0 : Nat)) (0 : Nat)).len : Int) ∧ ((↑(0
 : Nat) : Int) - (↑(el (el s (0 : Nat)) (0 : Nat)).len : Int)).NonNeg ∧ (0 : Nat) + (0 : Nat) + (el (el s (0 : Nat)) (0 : Nat)).len ≤ (List.take ((0 : Nat) + (el (el s (0 : Nat)) (0 : Nat)).len)
 (List.take ((0 : Nat) + (0 : Nat)) ([] : List D) ++ (el (el s (0 : Nat)) (0 : Nat)).asList ++ List.drop ((0 : Nat) + (0 : Nat) + (el (el s (0 : Nat)) (0 : Nat)).len) []) ++ List.take (1 : Nat) [D.int (-9 : Int)]
 ++ List.drop ((0 : Nat) + (el (el s (0 : Nat)) (0 : Nat)).len + (1 : Nat)) (List.take ((0 : Nat) + (0 : Nat)) ([] : List D) ++ (el (el s (0 : Nat)) (0 : Nat)).asList ++ List.drop ((0 : Nat) + (0 : Nat) + (el (el
 s (0 : Nat)) (0 : Nat)).len) [])).length ∧ (0 : Nat) + (1 : Nat) ≤ [D.list (List.take (el (el s (0 : Nat)) (0 : Nat)).len (List.drop ((0 : Nat) + (0 : Nat)) (List.take ((0 : Nat) + (el (el s (0 :
 Nat)) (0 : Nat)).len) (List.take ((0 : Nat) + (0 : Nat)) ([] : List D) ++ (el (el s (0 : Nat)) (0 : Nat)).asList ++ List.drop ((0 : Nat) + (0 : Nat) + (el (el s (0 : Nat)) (0 : Nat)).len) []) ++ List.take (1 :
 Nat) [D.int (-9 : Int)] ++ List.drop ((0 : Nat) + (el (el s (0 : Nat)) (0 : Nat)).len + (1 : Nat)) (List.take ((0 : Nat) + (0 : Nat)) ([] : List D) ++ (el (el s (0 : Nat)) (0 : Nat)).asList ++ List.drop ((0 :
 Nat) + (0 : Nat) + (el (el s (0 : Nat)) (0 : Nat)).len) []))))].length ∧ (1 : Nat) ≤ (16777216 : Nat) ∧ ((-9223372036854775808 : Int) ≤ (0 : Int) + (1 : Int) ∧ (0 : Int) + (1 : Int) <
 (9223372036854775808 : Int)) ∧ ((∃ (y : Nat), y = (0 : Nat) ∧ (el s (0 : Nat)).len - y < (el s (0 : Nat)).len - x_1 ∧ ((0 : Int) + (1 : Int) = (0 : Int) ∧ False ∧ True) ∧ True) ∨ ∃ (y : Nat), ((0 :
 Nat) < y ∧ y ≤ (el s (0 : Nat)).len) ∧ (el s (0 : Nat)).len - y < (el s (0 : Nat)).len - x_1 ∧ ((0 : Int) + (1 : Int) = (↑y : Int) ∧ ((0 : Nat) = (0 : Nat) ∧ (1 : Nat) = y ∧ True) ∧ True) ∧ List.take
 (1 : Nat) [D.list (List.take (el (el s (0 : Nat)) (0 : Nat)).len (List.drop ((0 : Nat) + (0 : Nat)) (List.take ((0 : Nat) + (el (el s (0 : Nat)) (0 : Nat)).len) (List.take ((0 : Nat) + (0 : Nat)) ([] : List D)
 ++ (el (el s (0 : Nat)) (0 : Nat)).asList ++ List.drop ((0 : Nat) + (0 : Nat) + (el (el s (0 : Nat)) (0 : Nat)).len) []) ++ List.take (1 : Nat) [D.int (-9 : Int)] ++ List.drop ((0 : Nat) + (el (el s
 (0 : Nat)) (0 : Nat)).len + (1 : Nat)) (List.take ((0 : Nat) + (0 : Nat)) ([] : List D) ++ (el (el s (0 : Nat)) (0 : Nat)).asList ++ List.drop ((0 : Nat) + (0 : Nat) + (el (el s (0 : Nat)) (0 : Nat)).len)
 []))))] = cpEL (el s (0 : Nat)) y ∧ True)) ∧ ((0 : Nat) < (el (el s (0 : Nat)) (0 : Nat)).len + (1 : Nat) → (0 : Int) ≤ (0 : Int) ∧ (0 : Int) ≤ (↑(el (el s (0 : Nat)) (0 : Nat)).len : Int) ∧ ((↑((el
 (el s (0 : Nat)) (0 : Nat)).len + (1 : Nat)) : Int) - (↑(el (el s (0 : Nat)) (0 : Nat)).len : Int)).NonNeg ∧ (0 : Nat) + (0 : Nat) + (el (el s (0 : Nat)) (0 : Nat)).len ≤ (List.take (el (el s (0 :
 Nat)) (0 : Nat)).len (List.take ((0 : Nat) + (0 : Nat)) ([] : List D) ++ (el (el s (0 : Nat)) (0 : Nat)).asList ++ List.drop ((0 : Nat) + (0 : Nat) + (el (el s (0 : Nat)) (0 : Nat)).len) []) ++ List.take (1 :
 Nat) [D.int (-9 : Int)]).length ∧ (0 : Nat) + (1 : Nat) ≤ [D.list (List.take (el (el s (0 : Nat)) (0 : Nat)).len (List.drop ((0 : Nat) + (0 : Nat)) (List.take (el (el s (0 : Nat)) (0 : Nat)).len
 (List.take ((0 : Nat) + (0 : Nat)) ([] : List D) ++ (el (el s (0 : Nat)) (0 : Nat)).asList ++ List.drop ((0 : Nat) + (0 : Nat) + (el (el s (0 : Nat)) (0 : Nat)).len) []) ++ List.take (1 : Nat) [D.int (-9 :
 Int)])))].length ∧ (1 : Nat) ≤ (16777216 : Nat) ∧ ((-9223372036854775808 : Int) ≤ (0 : Int) + (1 : Int) ∧ (0 : Int) + (1 : Int) < (9223372036854775808 : Int)) ∧ ((∃ (y : Nat), y = (0 : Nat) ∧ (el s (0
 : Nat)).len - y < (el s (0 : Nat)).len - x_1 ∧ ((0 : Int) + (1 : Int) = (0 : Int) ∧ False ∧ True) ∧ True) ∨ ∃ (y : Nat), ((0 : Nat) < y ∧ y ≤ (el s (0 : Nat)).len) ∧ (el s (0 : Nat)).len - y < (el s
 (0 : Nat)).len - x_1 ∧ ((0 : Int) + (1 : Int) = (↑y : Int) ∧ ((0 : Nat) = (0 : Nat) ∧ (1 : Nat) = y ∧ True) ∧ True) ∧ List.take (1 : Nat) [D.list (List.take (el (el s (0 : Nat)) (0 : Nat)).len
 (List.drop ((0 : Nat) + (0 : Nat)) (List.take (el (el s (0 : Nat)) (0 : Nat)).len (List.take ((0 : Nat) + (0 : Nat)) ([] : List D) ++ (el (el s (0 : Nat)) (0 : Nat)).asList ++ List.drop ((0 : Nat) + (0 : Nat) +
 (el (el s (0 : Nat)) (0 : Nat)).len) []) ++ List.take (1 : Nat) [D.int (-9 : Int)])))] = cpEL (el s (0 : Nat)) y ∧ True))) ∧ ((0 : Nat) < (0 : Nat) + (el (el s (0 : Nat)) (0 : Nat)).len → (0 : Nat) +
 (1 : Nat) ≤ [D.int (-9 : Int)].length ∧ (0 : Nat) + (el (el s (0 : Nat)) (0 : Nat)).len ≤ (List.take (0 : Nat) ([] : List D) ++ (el (el s (0 : Nat)) (0 : Nat)).asList).length ∧ (el (el s (0 : Nat)) (0 :
 Nat)).len + (1 : Nat) ≤ (16777216 : Nat) ∧ (0 : Int) ≤ (0 : Int) ∧ (0 : Int) ≤ (↑(el (el s (0 : Nat)) (0 : Nat)).len : Int) ∧ ((↑((el (el s (0 : Nat)) (0 : Nat)).len + (1 : Nat)) : Int) - (↑(el (el s
 (0 : Nat)) (0 : Nat)).len : Int)).NonNeg ∧ (0 : Nat) + (0 : Nat) + (el (el s (0 : Nat)) (0 : Nat)).len ≤ (List.take (el (el s (0 : Nat)) (0 : Nat)).len (List.take (0 : Nat) ([] : List D) ++ (el (el s (0 : Nat))
 (0 : Nat)).asList) ++ List.take (1 : Nat) [D.int (-9 : Int)]).length ∧ (0 : Nat) + (1 : Nat) ≤ [D.list (List.take (el (el s (0 : Nat)) (0 : Nat)).len (List.drop ((0 : Nat) + (0 : Nat)) (List.take (el
 (el s (0 : Nat)) (0 : Nat)).len (List.take (0 : Nat) ([] : List D) ++ (el (el s (0 : Nat)) (0 : Nat)).asList) ++ List.take (1 : Nat) [D.int (-9 : Int)])))].length ∧ (1 : Nat) ≤ (16777216 : Nat) ∧
 ((-9223372036854775808 : Int) ≤ (0 : Int) + (1 : Int) ∧ (0 : Int) + (1 : Int) < (9223372036854775808 : Int)) ∧ ((∃ (y : Nat), y = (0 : Nat) ∧ (el s (0 : Nat)).len - y < (el s (0 : Nat)).len - x_1 ∧
 ((0 : Int) + (1 : Int) = (0 : Int) ∧ False ∧ True) ∧ True) ∨ ∃ (y : Nat), ((0 : Nat) < y ∧ y ≤ (el s (0 : Nat)).len) ∧ (el s (0 : Nat)).len - y < (el s (0 : Nat)).len - x_1 ∧ ((0 : Int) + (1 : Int) =
 (↑y : Int) ∧ ((0 : Nat) = (0 : Nat) ∧ (1 : Nat) = y ∧ True) ∧ True) ∧ List.take (1 : Nat) [D.list (List.take (el (el s (0 : Nat)) (0 : Nat)).len (List.drop ((0 : Nat) + (0 : Nat)) (List.take (el (el s
 (0 : Nat)) (0 : Nat)).len (List.take (0 : Nat) ([] : List D) ++ (el (el s (0 : Nat)) (0 : Nat)).asList) ++ List.take (1 : Nat) [D.int (-9 : Int)])))] = cpEL (el s (0 : Nat)) y ∧ True))))) ∧ (((0 : Int) < (↑(el s
 (0 : Nat)).len : Int) → False) → (0 : Nat) + (1 : Nat) ≤ [D.nil].length ∧ (1 : Nat) ≤ (16777216 : Nat) ∧ ((-9223372036854775808 : Int) ≤ (0 : Int) + (1 : Int) ∧ (0 : Int) + (1 : Int) <
 (9223372036854775808 : Int)) ∧ ((∃ (y : Nat), y = (0 : Nat) ∧ s.len - y < s.len - x ∧ ((0 : Int) + (1 : Int) = (0 : Int) ∧ False ∧ True) ∧ True) ∨ ∃ (y : Nat), ((0 : Nat) < y ∧ y ≤ s.len) ∧ s.len - y
 < s.len - x ∧ ((0 : Int) + (1 : Int) = (↑y : Int) ∧ ((0 : Nat) = (0 : Nat) ∧ (1 : Nat) = y ∧ True) ∧ True) ∧ List.take (1 : Nat) [D.nil] = cpSL s y ∧ True))) ∧ ∀ (x_1 : Nat), (0 : Nat) < x_1 ∧ x_1 ≤
 (el s (0 : Nat)).len → (el s (0 : Nat)).len - x_1 < LIM ∧ ((↑x_1 : Int) < (↑(el s (0 : Nat)).len : Int) → (0 : Int) ≤ (↑x_1 : Int) ∧ (↑x_1 : Int) < (↑(el s (0 : Nat)).len : Int) ∧ ((el (el s (0 :
 Nat)) x_1).isNil → (0 : Nat) + (1 : Nat) ≤ [D.int (-9 : Int)].length ∧ (1 : Nat) ≤ (16777216 : Nat) ∧ (0 : Int) ≤ (0 : Int) ∧ (0 : Int) ≤ (↑(el (el s (0 : Nat)) x_1).len : Int) ∧ ((↑(1 : Nat) : Int) -
 (↑(el (el s (0 : Nat)) x_1).len : Int)).NonNeg ∧ (0 : Nat) + (0 : Nat) + (el (el s (0 : Nat)) x_1).len ≤ (List.take (1 : Nat) [D.int (-9 : Int)]).length ∧ (0 : Nat) + (1 : Nat) ≤ [D.list (List.take
 (el (el s (0 : Nat)) x_1).len (List.drop ((0 : Nat) + (0 : Nat)) (List.take (1 : Nat) [D.int (-9 : Int)])))].length ∧ (0 : Nat) + x_1 ≤ (cpEL (el s (0 : Nat)) x_1).length ∧ x_1 + (1 : Nat) ≤ (16777216
 : Nat) ∧ ((-9223372036854775808 : Int) ≤ (↑x_1 : Int) + (1 : Int) ∧ (↑x_1 : Int) + (1 : Int) < (9223372036854775808 : Int)) ∧ ((∃ (y : Nat), y = (0 : Nat) ∧ (el s (0 : Nat)).len - y < (el s (0 :
 Nat)).len - x_1 ∧ ((↑x_1 : Int) + (1 : Int) = (0 : Int) ∧ False ∧ True) ∧ True) ∨ ∃ (y : Nat), ((0 : Nat) < y ∧ y ≤ (el s (0 : Nat)).len) ∧ (el s (0 : Nat)).len - y < (el s (0 : Nat)).len - x_1 ∧
 ((↑x_1 : Int) + (1 : Int) = (↑y : Int) ∧ ((0 : Nat) = (0 : Nat) ∧ x_1 + (1 : Nat) = y ∧ True) ∧ True) ∧ List.take x_1 (cpEL (el s (0 : Nat)) x_1) ++ List.take (1 : Nat) [D.list (List.take (el (el s (0
 : Nat)) x_1).len (List.drop ((0 : Nat) + (0 : Nat)) (List.take (1 : Nat) [D.int (-9 : Int)])))] = cpEL (el s (0 : Nat)) y ∧ True)) ∧ (((el (el s (0 : Nat)) x_1).isNil → False) → ((el (el s (0 : Nat))
 x_1).len = (0 : Nat) → (0 : Nat) + (1 : Nat) ≤ [D.int (-9 : Int)].length ∧ (0 : Nat) + (0 : Nat) ≤ ([] : List D).length ∧ (0 : Nat) + (1 : Nat) ≤ (16777216 : Nat) ∧ (0 : Int) ≤ (0 : Int) ∧ (0 : Int) ≤
 (↑(el (el s (0 : Nat)) x_1).len : Int) ∧ ((↑((0 : Nat) + (1 : Nat)) : Int) - (↑(el (el s (0 : Nat)) x_1).len : Int)).NonNeg ∧ (0 : Nat) + (0 : Nat) + (el (el s (0 : Nat)) x_1).len ≤ (List.take (0 :
 Nat) ([] : List D) ++ List.take (1 : Nat) [D.int (-9 : Int)]).length ∧ (0 : Nat) + (1 : Nat) ≤ [D.list (List.take (el (el s (0 : Nat)) x_1).len (List.drop ((0 : Nat) + (0 : Nat)) (List.take (0 : Nat) ([] : List D) ++
 List.take (1 : Nat) [D.int (-9 : Int)])))].length ∧ (0 : Nat) + x_1 ≤ (cpEL (el s (0 : Nat)) x_1).length ∧ x_1 + (1 : Nat) ≤ (16777216 : Nat) ∧ ((-9223372036854775808 : Int) ≤ (↑x_1 : Int) + (1 : Int)
 ∧ (↑x_1 : Int) + (1 : Int) < (9223372036854775808 : Int)) ∧ ((∃ (y : Nat), y = (0 : Nat) ∧ (el s (0 : Nat)).len - y < (el s (0 : Nat)).len - x_1 ∧ ((↑x_1 : Int) + (1 : Int) = (0 : Int) ∧ False ∧ True)
 ∧ True) ∨ ∃ (y : Nat), ((0 : Nat) < y ∧ y ≤ (el s (0 : Nat)).len) ∧ (el s (0 : Nat)).len - y < (el s (0 : Nat)).len - x_1 ∧ ((↑x_1 : Int) + (1 : Int) = (↑y : Int) ∧ ((0 : Nat) = (0 : Nat) ∧ x_1 + (1 :
 Nat) = y ∧ True) ∧ True) ∧ List.take x_1 (cpEL (el s (0 : Nat)) x_1) ++ List.take (1 : Nat) [D.list (List.take (el (el s (0 : Nat)) x_1).len (List.drop ((0 : Nat) + (0 : Nat)) (List.take (0 : Nat) ([] : List D)
 ++ List.take (1 : Nat) [D.int (-9 : Int)])))] = cpEL (el s (0 : Nat)) y ∧ True)) ∧ ((0 : Nat) < (el (el s (0 : Nat)) x_1).len → (0 : Nat) + (0 : Nat) ≤ ([] : List D).length ∧ (0 : Nat) + (el (el s (0
 : Nat)) x_1).len ≤ (16777216 : Nat) ∧ ((0 : Nat) + (el (el s (0 : Nat)) x_1).len ≤ (0 : Nat) → (0 : Nat) + (0 : Nat) + (el (el s (0 : Nat)) x_1).len ≤ ([] : List D).length ∧ (0 : Nat) + (1 : Nat) ≤
 [D.int (-9 : Int)].length ∧ (0 : Nat) + (el (el s (0 : Nat)) x_1).len ≤ (List.take ((0 : Nat) + (0 : Nat)) ([] : List D) ++ (el (el s (0 : Nat)) x_1).asList ++ List.drop ((0 : Nat) + (0 : Nat) + (el (el s (0 :
 Nat)) x_1).len) []).length ∧ (el (el s (0 : Nat)) x_1).len + (1 : Nat) ≤ (16777216 : Nat) ∧ ((el (el s (0 : Nat)) x_1).len + (1 : Nat) ≤ (0 : Nat) → (0 : Nat) + (el (el s (0 : Nat)) x_1).len + (1 :
 Nat) ≤ (List.take ((0 : Nat) + (0 : Nat)) ([] : List D) ++ (el (el s (0 : Nat)) x_1).asList ++ List.drop ((0 : Nat) + (0 : Nat) + (el (el s (0 : Nat)) x_1).len) []).length ∧ (0 : Int) ≤ (0 : Int) ∧ (0 : Int) ≤
 (↑(el (el s (0 : Nat)) x_1).len : Int) ∧ ((↑(0 : Nat) : Int) - (↑(el (el s (0 : Nat)) x_1).len : Int)).NonNeg ∧ (0 : Nat) + (0 : Nat) + (el (el s (0 : Nat)) x_1).len ≤ (List.take ((0 : Nat) + (el (el
 s (0 : Nat)) x_1).len) (List.take ((0 : Nat) + (0 : Nat)) ([] : List D) ++ (el (el s (0 : Nat)) x_1).asList ++ List.drop ((0 : Nat) + (0 : Nat) + (el (el s (0 : Nat)) x_1).len) []) ++ List.take (1 : Nat) [D.int
 (-9 : Int)] ++ List.drop ((0 : Nat) + (el (el s (0 : Nat)) x_1).len + (1 : Nat)) (List.take ((0 : Nat) + (0 : Nat)) ([] : List D) ++ (el (el s (0 : Nat)) x_1).asList ++ List.drop ((0 : Nat) + (0 : Nat) + (el (el
 s (0 : Nat)) x_1).len) [])).length ∧ (0 : Nat) + (1 : Nat) ≤ [D.list (List.take (el (el s (0 : Nat)) x_1).len (List.drop ((0 : Nat) + (0 : Nat)) (List.take ((0 : Nat) + (el (el s (0 : Nat)) x_1).len)
 (List.take ((0 : Nat) + (0 : Nat)) ([] : List D) ++ (el (el s (0 : Nat)) x_1).asList ++ List.drop ((0 : Nat) + (0 : Nat) + (el (el s (0 : Nat)) x_1).len) []) ++ List.take (1 : Nat) [D.int (-9 : Int)] ++
 List.drop ((0 : Nat) + (el (el s (0 : Nat)) x_1).len + (1 : Nat)) (List.take ((0 : Nat) + (0 : Nat)) ([] : List D) ++ (el (el s (0 : Nat)) x_1).asList ++ List.drop ((0 : Nat) + (0 : Nat) + (el (el s (0 : Nat))
 x_1).len) []))))].length ∧ (0 : Nat) + x_1 ≤ (cpEL (el s (0 : Nat)) x_1).length ∧ x_1 + (1 : Nat) ≤ (16777216 : Nat) ∧ ((-9223372036854775808 : Int) ≤ (↑x_1 : Int) + (1 : Int) ∧ (↑x_1 : Int) + (1 :
 Int) < (9223372036854775808 : Int)) ∧ ((∃ (y : Nat), y = (0 : Nat) ∧ (el s (0 : Nat)).len - y < (el s (0 : Nat)).len - x_1 ∧ ((↑x_1 : Int) + (1 : Int) = (0 : Int) ∧ False ∧ True) ∧ True) ∨ ∃ (y :
 Nat), ((0 : Nat) < y ∧ y ≤ (el s (0 : Nat)).len) ∧ (el s (0 : Nat)).len - y < (el s (0 : Nat)).len - x_1 ∧ ((↑x_1 : Int) + (1 : Int) = (↑y : Int) ∧ ((0 : Nat) = (0 : Nat) ∧ x_1 + (1 : Nat) = y ∧ True)
 ∧ True) ∧ List.take x_1 (cpEL (el s (0 : Nat)) x_1) ++ List.take (1 : Nat) [D.list (List.take (el (el s (0 : Nat)) x_1).len (List.drop ((0 : Nat) + (0 : Nat)) (List.take ((0 : Nat) + (el (el s (0 :
 Nat)) x_1).len) (List.take ((0 : Nat) + (0 : Nat)) ([] : List D) ++ (el (el s (0 : Nat)) x_1).asList ++ List.drop ((0 : Nat) + (0 : Nat) + (el (el s (0 : Nat)) x_1).len) []) ++ List.take (1 : Nat) [D.int (-9 :
 Int)] ++ List.drop ((0 : Nat) + (el (el s (0 : Nat)) x_1).len + (1 : Nat)) (List.take ((0 : Nat) + (0 : Nat)) ([] : List D) ++ (el (el s (0 : Nat)) x_1).asList ++ List.drop ((0 : Nat) + (0 : Nat) + (el (el s (0
 : Nat)) x_1).len) []))))] = cpEL (el s (0 : Nat)) y ∧ True)) ∧ ((0 : Nat) < (el (el s (0 : Nat)) x_1).len + (1 : Nat) → (0 : Int) ≤ (0 : Int) ∧ (0 : Int) ≤ (↑(el (el s (0 : Nat)) x_1).len : Int) ∧
 ((↑((el (el s (0 : Nat)) x_1).len + (1 : Nat)) : Int) - (↑(el (el s (0 : Nat)) x_1).len : Int)).NonNeg ∧ (0 : Nat) + (0 : Nat) + (el (el s (0 : Nat)) x_1).len ≤ (List.take (el (el s (0 : Nat))
 x_1).len (List.take ((0 : Nat) + (0 : Nat)) ([] : List D) ++ (el (el s (0 : Nat)) x_1).asList ++ List.drop ((0 : Nat) + (0 : Nat) + (el (el s (0 : Nat)) x_1).len) []) ++ List.take (1 : Nat) [D.int (-9 :
 Int)]).length ∧ (0 : Nat) + (1 : Nat) ≤ [D.list (List.take (el (el s (0 : Nat)) x_1).len (List.drop ((0 : Nat) + (0 : Nat)) (List.take (el (el s (0 : Nat)) x_1).len (List.take ((0 : Nat) + (0 : Nat))
 ([] : List D) ++ (el (el s (0 : Nat)) x_1).asList ++ List.drop ((0 : Nat) + (0 : Nat) + (el (el s (0 : Nat)) x_1).len) []) ++ List.take (1 : Nat) [D.int (-9 : Int)])))].length ∧ (0 : Nat) + x_1 ≤ (cpEL (el s (0
 : Nat)) x_1).length ∧ x_1 + (1 : Nat) ≤ (16777216 : Nat) ∧ ((-9223372036854775808 : Int) ≤ (↑x_1 : Int) + (1 : Int) ∧ (↑x_1 : Int) + (1 : Int) < (9223372036854775808 : Int)) ∧ ((∃ (y : Nat), y = (0 :
 Nat) ∧ (el s (0 : Nat)).len - y < (el s (0 : Nat)).len - x_1 ∧ ((↑x_1 : Int) + (1 : Int) = (0 : Int) ∧ False ∧ True) ∧ True) ∨ ∃ (y : Nat), ((0 : Nat) < y ∧ y ≤ (el s (0 : Nat)).len) ∧ (el s (0 :
 Nat)).len - y < (el s (0 : Nat)).len - x_1 ∧ ((↑x_1 : Int) + (1 : Int) = (↑y : Int) ∧ ((0 : Nat) = (0 : Nat) ∧ x_1 + (1 : Nat) = y ∧ True) ∧ True) ∧ List.take x_1 (cpEL (el s (0 : Nat)) x_1) ++
 List.take (1 : Nat) [D.list (List.take (el (el s (0 : Nat)) x_1).len (List.drop ((0 : Nat) + (0 : Nat)) (List.take (el (el s (0 : Nat)) x_1).len (List.take ((0 : Nat) + (0 : Nat)) ([] : List D) ++ (el (el s (0 :
 Nat)) x_1).asList ++ List.drop ((0 : Nat) + (0 : Nat) + (el (el s (0 : Nat)) x_1).len) []) ++ List.take (1 : Nat) [D.int (-9 : Int)])))] = cpEL (el s (0 : Nat)) y ∧ True))) ∧ ((0 : Nat) < (0 : Nat) +
 (el (el s (0 : Nat)) x_1).len → (0 : Nat) + (1 : Nat) ≤ [D.int (-9 : Int)].length ∧ (0 : Nat) + (el (el s (0 : Nat)) x_1).len ≤ (List.take (0 : Nat) ([] : List D) ++ (el (el s (0 : Nat)) x_1).asList).length ∧
 (el (el s (0 : Nat)) x_1).len + (1 : Nat) ≤ (16777216 : Nat) ∧ (0 : Int) ≤ (0 : Int) ∧ (0 : Int) ≤ (↑(el (el s (0 : Nat)) x_1).len : Int) ∧ ((↑((el (el s (0 : Nat)) x_1).len + (1 : Nat)) : Int) -
 (↑(el (el s (0 : Nat)) x_1).len : Int)).NonNeg ∧ (0 : Nat) + (0 : Nat) + (el (el s (0 : Nat)) x_1).len ≤ (List.take (el (el s (0 : Nat)) x_1).len (List.take (0 : Nat) ([] : List D) ++ (el (el s (0 : Nat))
 x_1).asList) ++ List.take (1 : Nat) [D.int (-9 : Int)]).length ∧ (0 : Nat) + (1 : Nat) ≤ [D.list (List.take (el (el s (0 : Nat)) x_1).len (List.drop ((0 : Nat) + (0 : Nat)) (List.take (el (el s (0 :
 Nat)) x_1).len (List.take (0 : Nat) ([] : List D) ++ (el (el s (0 : Nat)) x_1).asList) ++ List.take (1 : Nat) [D.int (-9 : Int)])))].length ∧ (0 : Nat) + x_1 ≤ (cpEL (el s (0 : Nat)) x_1).length ∧ x_1 + (1 :
 Nat) ≤ (16777216 : Nat) ∧ ((-9223372036854775808 : Int) ≤ (↑x_1 : Int) + (1 : Int) ∧ (↑x_1 : Int) + (1 : Int) < (9223372036854775808 : Int)) ∧ ((∃ (y : Nat), y = (0 : Nat) ∧ (el s (0 : Nat)).len - y <
 (el s (0 : Nat)).len - x_1 ∧ ((↑x_1 : Int) + (1 : Int) = (0 : Int) ∧ False ∧ True) ∧ True) ∨ ∃ (y : Nat), ((0 : Nat) < y ∧ y ≤ (el s (0 : Nat)).len) ∧ (el s (0 : Nat)).len - y < (el s (0 : Nat)).len -
 x_1 ∧ ((↑x_1 : Int) + (1 : Int) = (↑y : Int) ∧ ((0 : Nat) = (0 : Nat) ∧ x_1 + (1 : Nat) = y ∧ True) ∧ True) ∧ List.take x_1 (cpEL (el s (0 : Nat)) x_1) ++ List.take (1 : Nat) [D.list (List.take (el
 (el s (0 : Nat)) x_1).len (List.drop ((0 : Nat) + (0 : Nat)) (List.take (el (el s (0 : Nat)) x_1).len (List.take (0 : Nat) ([] : List D) ++ (el (el s (0 : Nat)) x_1).asList) ++ List.take (1 : Nat) [D.int (-9 :
 Int)])))] = cpEL (el s (0 : Nat)) y ∧ True))))) ∧ (((↑x_1 : Int) < (↑(el s (0 : Nat)).len : Int) → False) → (0 : Nat) + x_1 ≤ (cpEL (el s (0 : Nat)) x_1).length ∧ (0 : Nat) + (1 : Nat) ≤ [D.list
 (List.take x_1 (cpEL (el s (0 : Nat)) x_1))].length ∧ (1 : Nat) ≤ (16777216 : Nat) ∧ ((-9223372036854775808 : Int) ≤ (0 : Int) + (1 : Int) ∧ (0 : Int) + (1 : Int) < (9223372036854775808 : Int)) ∧ ((∃
 (y : Nat), y = (0 : Nat) ∧ s.len - y < s.len - x ∧ ((0 : Int) + (1 : Int) = (0 : Int) ∧ False ∧ True) ∧ True) ∨ ∃ (y : Nat), ((0 : Nat) < y ∧ y ≤ s.len) ∧ s.len - y < s.len - x ∧ ((0 : Int) + (1 :
 Int) = (↑y : Int) ∧ ((0 : Nat) = (0 : Nat) ∧ (1 : Nat) = y ∧ True) ∧ True) ∧ List.take (1 : Nat) [D.list (List.take x_1 (cpEL (el s (0 : Nat)) x_1))] = cpSL s y ∧ True))) ∧ (((0 : Int) < (↑s.len :
 Int) → False) → D.nil = cpS s)) ∧ ∀ (x : Nat), (0 : Nat) < x ∧ x ≤ s.len → s.len - x < LIM ∧ ((↑x : Int) < (↑s.len : Int) → (0 : Int) ≤ (↑x : Int) ∧ (↑x : Int) < (↑s.len : Int) ∧ ((∃ (x : Nat), x = (0
 : Nat) ∧ ((0 : Int) = (0 : Int) ∧ True ∧ True) ∧ True) ∨ ∃ (x_1 : Nat), ((0 : Nat) < x_1 ∧ x_1 ≤ (el s x).len) ∧ ((0 : Int) = (↑x_1 : Int) ∧ False ∧ True) ∧ False ∧ True) ∧ (∀ (x_1 : Nat), x_1 = (0 :
 Nat) → (el s x).len - x_1 < LIM ∧ ((0 : Int) < (↑(el s x).len : Int) → (0 : Int) ≤ (0 : Int) ∧ (0 : Int) < (↑(el s x).len : Int) ∧ ((el (el s x) (0 : Nat)).isNil → (0 : Nat) + (1 : Nat) ≤ [D.int (-9 :
 Int)].length ∧ (1 : Nat) ≤ (16777216 : Nat) ∧ (0 : Int) ≤ (0 : Int) ∧ (0 : Int) ≤ (↑(el (el s x) (0 : Nat)).len : Int) ∧ ((↑(1 : Nat) : Int) - (↑(el (el s x) (0 : Nat)).len : Int)).NonNeg ∧ (0 : Nat)
 + (0 : Nat) + (el (el s x) (0 : Nat)).len ≤ (List.take (1 : Nat) [D.int (-9 : Int)]).length ∧ (0 : Nat) + (1 : Nat) ≤ [D.list (List.take (el (el s x) (0 : Nat)).len (List.drop ((0 : Nat) + (0 : Nat))
 (List.take (1 : Nat) [D.int (-9 : Int)])))].length ∧ (1 : Nat) ≤ (16777216 : Nat) ∧ ((-9223372036854775808 : Int) ≤ (0 : Int) + (1 : Int) ∧ (0 : Int) + (1 : Int) < (9223372036854775808 : Int)) ∧ ((∃
 (y : Nat), y = (0 : Nat) ∧ (el s x).len - y < (el s x).len - x_1 ∧ ((0 : Int) + (1 : Int) = (0 : Int) ∧ False ∧ True) ∧ True) ∨ ∃ (y : Nat), ((0 : Nat) < y ∧ y ≤ (el s x).len) ∧ (el s x).len - y < (el
 s x).len - x_1 ∧ ((0 : Int) + (1 : Int) = (↑y : Int) ∧ ((0 : Nat) = (0 : Nat) ∧ (1 : Nat) = y ∧ True) ∧ True) ∧ List.take (1 : Nat) [D.list (List.take (el (el s x) (0 : Nat)).len (List.drop ((0 : Nat)
 + (0 : Nat)) (List.take (1 : Nat) [D.int (-9 : Int)])))] = cpEL (el s x) y ∧ True)) ∧ (((el (el s x) (0 : Nat)).isNil → False) → ((el (el s x) (0 : Nat)).len = (0 : Nat) → (0 : Nat) + (1 : Nat) ≤
 [D.int (-9 : Int)].length ∧ (0 : Nat) + (0 : Nat) ≤ ([] : List D).length ∧ (0 : Nat) + (1 : Nat) ≤ (16777216 : Nat) ∧ (0 : Int) ≤ (0 : Int) ∧ (0 : Int) ≤ (↑(el (el s x) (0 : Nat)).len : Int) ∧ ((↑((0
 : Nat) + (1 : Nat)) : Int) - (↑(el (el s x) (0 : Nat)).len : Int)).NonNeg ∧ (0 : Nat) + (0 : Nat) + (el (el s x) (0 : Nat)).len ≤ (List.take (0 : Nat) ([] : List D) ++ List.take (1 : Nat) [D.int (-9 :
 Int)]).length ∧ (0 : Nat) + (1 : Nat) ≤ [D.list (List.take (el (el s x) (0 : Nat)).len (List.drop ((0 : Nat) + (0 : Nat)) (List.take (0 : Nat) ([] : List D) ++ List.take (1 : Nat) [D.int (-9 : Int)])))].length ∧
 (1 : Nat) ≤ (16777216 : Nat) ∧ ((-9223372036854775808 : Int) ≤ (0 : Int) + (1 : Int) ∧ (0 : Int) + (1 : Int) < (9223372036854775808 : Int)) ∧ ((∃ (y : Nat), y = (0 : Nat) ∧ (el s x).len - y < (el s
 x).len - x_1 ∧ ((0 : Int) + (1 : Int) = (0 : Int) ∧ False ∧ True) ∧ True) ∨ ∃ (y : Nat), ((0 : Nat) < y ∧ y ≤ (el s x).len) ∧ (el s x).len - y < (el s x).len - x_1 ∧ ((0 : Int) + (1 : Int) = (↑y :
 Int) ∧ ((0 : Nat) = (0 : Nat) ∧ (1 : Nat) = y ∧ True) ∧ True) ∧ List.take (1 : Nat) [D.list (List.take (el (el s x) (0 : Nat)).len (List.drop ((0 : Nat) + (0 : Nat)) (List.take (0 : Nat) ([] : List D) ++
 List.take (1 : Nat) [D.int (-9 : Int)])))] = cpEL (el s x) y ∧ True)) ∧ ((0 : Nat) < (el (el s x) (0 : Nat)).len → (0 : Nat) + (0 : Nat) ≤ ([] : List D).length ∧ (0 : Nat) + (el (el s x) (0 :
 Nat)).len ≤ (16777216 : Nat) ∧ ((0 : Nat) + (el (el s x) (0 : Nat)).len ≤ (0 : Nat) → (0 : Nat) + (0 : Nat) + (el (el s x) (0 : Nat)).len ≤ ([] : List D).length ∧ (0 : Nat) + (1 : Nat) ≤ [D.int (-9 :
 Int)].length ∧ (0 : Nat) + (el (el s x) (0 : Nat)).len ≤ (List.take ((0 : Nat) + (0 : Nat)) ([] : List D) ++ (el (el s x) (0 : Nat)).asList ++ List.drop ((0 : Nat) + (0 : Nat) + (el (el s x) (0 : Nat)).len)
 []).length ∧ (el (el s x) (0 : Nat)).len + (1 : Nat) ≤ (16777216 : Nat) ∧ ((el (el s x) (0 : Nat)).len + (1 : Nat) ≤ (0 : Nat) → (0 : Nat) + (el (el s x) (0 : Nat)).len + (1 : Nat) ≤ (List.take ((0 :
 Nat) + (0 : Nat)) ([] : List D) ++ (el (el s x) (0 : Nat)).asList ++ List.drop ((0 : Nat) + (0 : Nat) + (el (el s x) (0 : Nat)).len) []).length ∧ (0 : Int) ≤ (0 : Int) ∧ (0 : Int) ≤ (↑(el (el s x) (0 : Nat)).len
 : Int) ∧ ((↑(0 : Nat) : Int) - (↑(el (el s x) (0 : Nat)).len : Int)).NonNeg ∧ (0 : Nat) + (0 : Nat) + (el (el s x) (0 : Nat)).len ≤ (List.take ((0 : Nat) + (el (el s x) (0 : Nat)).len) (List.take ((0
 : Nat) + (0 : Nat)) ([] : List D) ++ (el (el s x) (0 : Nat)).asList ++ List.drop ((0 : Nat) + (0 : Nat) + (el (el s x) (0 : Nat)).len) []) ++ List.take (1 : Nat) [D.int (-9 : Int)] ++ List.drop ((0 : Nat) + (el
 (el s x) (0 : Nat)).len + (1 : Nat)) (List.take ((0 : Nat) + (0 : Nat)) ([] : List D) ++ (el (el s x) (0 : Nat)).asList ++ List.drop ((0 : Nat) + (0 : Nat) + (el (el s x) (0 : Nat)).len) [])).length ∧ (0 : Nat)
 + (1 : Nat) ≤ [D.list (List.take (el (el s x) (0 : Nat)).len (List.drop ((0 : Nat) + (0 : Nat)) (List.take ((0 : Nat) + (el (el s x) (0 : Nat)).len) (List.take ((0 : Nat) + (0 : Nat)) ([] : List D) ++ (el (el s
 x) (0 : Nat)).asList ++ List.drop ((0 : Nat) + (0 : Nat) + (el (el s x) (0 : Nat)).len) []) ++ List.take (1 : Nat) [D.int (-9 : Int)] ++ List.drop ((0 : Nat) + (el (el s x) (0 : Nat)).len + (1 : Nat))
 (List.take ((0 : Nat) + (0 : Nat)) ([] : List D) ++ (el (el s x) (0 : Nat)).asList ++ List.drop ((0 : Nat) + (0 : Nat) + (el (el s x) (0 : Nat)).len) []))))].length ∧ (1 : Nat) ≤ (16777216 : Nat) ∧
 ((-9223372036854775808 : Int) ≤ (0 : Int) + (1 : Int) ∧ (0 : Int) + (1 : Int) < (9223372036854775808 : Int)) ∧ ((∃ (y : Nat), y = (0 : Nat) ∧ (el s x).len - y < (el s x).len - x_1 ∧ ((0 : Int) + (1 :
 Int) = (0 : Int) ∧ False ∧ True) ∧ True) ∨ ∃ (y : Nat), ((0 : Nat) < y ∧ y ≤ (el s x).len) ∧ (el s x).len - y < (el s x).len - x_1 ∧ ((0 : Int) + (1 : Int) = (↑y : Int) ∧ ((0 : Nat) = (0 : Nat) ∧ (1 :
 Nat) = y ∧ True) ∧ True) ∧ List.take (1 : Nat) [D.list (List.take (el (el s x) (0 : Nat)).len (List.drop ((0 : Nat) + (0 : Nat)) (List.take ((0 : Nat) + (el (el s x) (0 : Nat)).len) (List.take ((0 :
 Nat) + (0 : Nat)) ([] : List D) ++ (el (el s x) (0 : Nat)).asList ++ List.drop ((0 : Nat) + (0 : Nat) + (el (el s x) (0 : Nat)).len) []) ++ List.take (1 : Nat) [D.int (-9 : Int)] ++ List.drop ((0 : Nat) + (el
 (el s x) (0 : Nat)).len + (1 : Nat)) (List.take ((0 : Nat) + (0 : Nat)) ([] : List D) ++ (el (el s x) (0 : Nat)).asList ++ List.drop ((0 : Nat) + (0 : Nat) + (el (el s x) (0 : Nat)).len) []))))] = cpEL (el s x)
 y ∧ True)) ∧ ((0 : Nat) < (el (el s x) (0 : Nat)).len + (1 : Nat) → (0 : Int) ≤ (0 : Int) ∧ (0 : Int) ≤ (↑(el (el s x) (0 : Nat)).len : Int) ∧ ((↑((el (el s x) (0 : Nat)).len + (1 : Nat)) : Int) -
 (↑(el (el s x) (0 : Nat)).len : Int)).NonNeg ∧ (0 : Nat) + (0 : Nat) + (el (el s x) (0 : Nat)).len ≤ (List.take (el (el s x) (0 : Nat)).len (List.take ((0 : Nat) + (0 : Nat)) ([] : List D) ++ (el (el s x) (0 :
 Nat)).asList ++ List.drop ((0 : Nat) + (0 : Nat) + (el (el s x) (0 : Nat)).len) []) ++ List.take (1 : Nat) [D.int (-9 : Int)]).length ∧ (0 : Nat) + (1 : Nat) ≤ [D.list (List.take (el (el s x) (0 :
 Nat)).len (List.drop ((0 : Nat) + (0 : Nat)) (List.take (el (el s x) (0 : Nat)).len (List.take ((0 : Nat) + (0 : Nat)) ([] : List D) ++ (el (el s x) (0 : Nat)).asList ++ List.drop ((0 : Nat) + (0 : Nat) + (el
 (el s x) (0 : Nat)).len) []) ++ List.take (1 : Nat) [D.int (-9 : Int)])))].length ∧ (1 : Nat) ≤ (16777216 : Nat) ∧ ((-9223372036854775808 : Int) ≤ (0 : Int) + (1 : Int) ∧ (0 : Int) + (1 : Int) <
 (9223372036854775808 : Int)) ∧ ((∃ (y : Nat), y = (0 : Nat) ∧ (el s x).len - y < (el s x).len - x_1 ∧ ((0 : Int) + (1 : Int) = (0 : Int) ∧ False ∧ True) ∧ True) ∨ ∃ (y : Nat), ((0 : Nat) < y ∧ y ≤ (el
 s x).len) ∧ (el s x).len - y < (el s x).len - x_1 ∧ ((0 : Int) + (1 : Int) = (↑y : Int) ∧ ((0 : Nat) = (0 : Nat) ∧ (1 : Nat) = y ∧ True) ∧ True) ∧ List.take (1 : Nat) [D.list (List.take (el (el s x)
 (0 : Nat)).len (List.drop ((0 : Nat) + (0 : Nat)) (List.take (el (el s x) (0 : Nat)).len (List.take ((0 : Nat) + (0 : Nat)) ([] : List D) ++ (el (el s x) (0 : Nat)).asList ++ List.drop ((0 : Nat) + (0 : Nat) +
 (el (el s x) (0 : Nat)).len) []) ++ List.take (1 : Nat) [D.int (-9 : Int)])))] = cpEL (el s x) y ∧ True))) ∧ ((0 : Nat) < (0 : Nat) + (el (el s x) (0 : Nat)).len → (0 : Nat) + (1 : Nat) ≤ [D.int (-9 :
 Int)].length ∧ (0 : Nat) + (el (el s x) (0 : Nat)).len ≤ (List.take (0 : Nat) ([] : List D) ++ (el (el s x) (0 : Nat)).asList).length ∧ (el (el s x) (0 : Nat)).len + (1 : Nat) ≤ (16777216 : Nat) ∧ (0 : Int) ≤ (0
 : Int) ∧ (0 : Int) ≤ (↑(el (el s x) (0 : Nat)).len : Int) ∧ ((↑((el (el s x) (0 : Nat)).len + (1 : Nat)) : Int) - (↑(el (el s x) (0 : Nat)).len : Int)).NonNeg ∧ (0 : Nat) + (0 : Nat) + (el (el s x) (0
 : Nat)).len ≤ (List.take (el (el s x) (0 : Nat)).len (List.take (0 : Nat) ([] : List D) ++ (el (el s x) (0 : Nat)).asList) ++ List.take (1 : Nat) [D.int (-9 : Int)]).length ∧ (0 : Nat) + (1 : Nat) ≤ [D.list
 (List.take (el (el s x) (0 : Nat)).len (List.drop ((0 : Nat) + (0 : Nat)) (List.take (el (el s x) (0 : Nat)).len (List.take (0 : Nat) ([] : List D) ++ (el (el s x) (0 : Nat)).asList) ++ List.take (1 : Nat)
 [D.int (-9 : Int)])))].length ∧ (1 : Nat) ≤ (16777216 : Nat) ∧ ((-9223372036854775808 : Int) ≤ (0 : Int) + (1 : Int) ∧ (0 : Int) + (1 : Int) < (9223372036854775808 : Int)) ∧ ((∃ (y : Nat), y = (0 :
 Nat) ∧ (el s x).len - y < (el s x).len - x_1 ∧ ((0 : Int) + (1 : Int) = (0 : Int) ∧ False ∧ True) ∧ True) ∨ ∃ (y : Nat), ((0 : Nat) < y ∧ y ≤ (el s x).len) ∧ (el s x).len - y < (el s x).len - x_1 ∧
 ((0 : Int) + (1 : Int) = (↑y : Int) ∧ ((0 : Nat) = (0 : Nat) ∧ (1 : Nat) = y ∧ True) ∧ True) ∧ List.take (1 : Nat) [D.list (List.take (el (el s x) (0 : Nat)).len (List.drop ((0 : Nat) + (0 : Nat))
 (List.take (el (el s x) (0 : Nat)).len (List.take (0 : Nat) ([] : List D) ++ (el (el s x) (0 : Nat)).asList) ++ List.take (1 : Nat) [D.int (-9 : Int)])))] = cpEL (el s x) y ∧ True))))) ∧ (((0 : Int) < (↑(el s
 x).len : Int) → False) → (0 : Nat) + (1 : Nat) ≤ [D.nil].length ∧ (0 : Nat) + x ≤ (cpSL s x).length ∧ x + (1 : Nat) ≤ (16777216 : Nat) ∧ ((-9223372036854775808 : Int) ≤ (↑x : Int) + (1 : Int) ∧ (↑x :
 Int) + (1 : Int) < (9223372036854775808 : Int)) ∧ ((∃ (y : Nat), y = (0 : Nat) ∧ s.len - y < s.len - x ∧ ((↑x : Int) + (1 : Int) = (0 : Int) ∧ False ∧ True) ∧ True) ∨ ∃ (y : Nat), ((0 : Nat) < y ∧ y ≤
 s.len) ∧ s.len - y < s.len - x ∧ ((↑x : Int) + (1 : Int) = (↑y : Int) ∧ ((0 : Nat) = (0 : Nat) ∧ x + (1 : Nat) = y ∧ True) ∧ True) ∧ List.take x (cpSL s x) ++ List.take (1 : Nat) [D.nil] = cpSL s y ∧
 True))) ∧ ∀ (x_1 : Nat), (0 : Nat) < x_1 ∧ x_1 ≤ (el s x).len → (el s x).len - x_1 < LIM ∧ ((↑x_1 : Int) < (↑(el s x).len : Int) → (0 : Int) ≤ (↑x_1 : Int) ∧ (↑x_1 : Int) < (↑(el s x).len : Int) ∧
 ((el (el s x) x_1).isNil → (0 : Nat) + (1 : Nat) ≤ [D.int (-9 : Int)].length ∧ (1 : Nat) ≤ (16777216 : Nat) ∧ (0 : Int) ≤ (0 : Int) ∧ (0 : Int) ≤ (↑(el (el s x) x_1).len : Int) ∧ ((↑(1 : Nat) : Int) -
 (↑(el (el s x) x_1).len : Int)).NonNeg ∧ (0 : Nat) + (0 : Nat) + (el (el s x) x_1).len ≤ (List.take (1 : Nat) [D.int (-9 : Int)]).length ∧ (0 : Nat) + (1 : Nat) ≤ [D.list (List.take (el (el s x)
 x_1).len (List.drop ((0 : Nat) + (0 : Nat)) (List.take (1 : Nat) [D.int (-9 : Int)])))].length ∧ (0 : Nat) + x_1 ≤ (cpEL (el s x) x_1).length ∧ x_1 + (1 : Nat) ≤ (16777216 : Nat) ∧
 ((-9223372036854775808 : Int) ≤ (↑x_1 : Int) + (1 : Int) ∧ (↑x_1 : Int) + (1 : Int) < (9223372036854775808 : Int)) ∧ ((∃ (y : Nat), y = (0 : Nat) ∧ (el s x).len - y < (el s x).len - x_1 ∧ ((↑x_1 :
 Int) + (1 : Int) = (0 : Int) ∧ False ∧ True) ∧ True) ∨ ∃ (y : Nat), ((0 : Nat) < y ∧ y ≤ (el s x).len) ∧ (el s x).len - y < (el s x).len - x_1 ∧ ((↑x_1 : Int) + (1 : Int) = (↑y : Int) ∧ ((0 : Nat) =
 (0 : Nat) ∧ x_1 + (1 : Nat) = y ∧ True) ∧ True) ∧ List.take x_1 (cpEL (el s x) x_1) ++ List.take (1 : Nat) [D.list (List.take (el (el s x) x_1).len (List.drop ((0 : Nat) + (0 : Nat)) (List.take (1 :
 Nat) [D.int (-9 : Int)])))] = cpEL (el s x) y ∧ True)) ∧ (((el (el s x) x_1).isNil → False) → ((el (el s x) x_1).len = (0 : Nat) → (0 : Nat) + (1 : Nat) ≤ [D.int (-9 : Int)].length ∧ (0 : Nat) + (0 :
 Nat) ≤ ([] : List D).length ∧ (0 : Nat) + (1 : Nat) ≤ (16777216 : Nat) ∧ (0 : Int) ≤ (0 : Int) ∧ (0 : Int) ≤ (↑(el (el s x) x_1).len : Int) ∧ ((↑((0 : Nat) + (1 : Nat)) : Int) - (↑(el (el s x)
 x_1).len : Int)).NonNeg ∧ (0 : Nat) + (0 : Nat) + (el (el s x) x_1).len ≤ (List.take (0 : Nat) ([] : List D) ++ List.take (1 : Nat) [D.int (-9 : Int)]).length ∧ (0 : Nat) + (1 : Nat) ≤ [D.list (List.take (el (el
 s x) x_1).len (List.drop ((0 : Nat) + (0 : Nat)) (List.take (0 : Nat) ([] : List D) ++ List.take (1 : Nat) [D.int (-9 : Int)])))].length ∧ (0 : Nat) + x_1 ≤ (cpEL (el s x) x_1).length ∧ x_1 + (1 : Nat) ≤
 (16777216 : Nat) ∧ ((-9223372036854775808 : Int) ≤ (↑x_1 : Int) + (1 : Int) ∧ (↑x_1 : Int) + (1 : Int) < (9223372036854775808 : Int)) ∧ ((∃ (y : Nat), y = (0 : Nat) ∧ (el s x).len - y < (el s x).len -
 x_1 ∧ ((↑x_1 : Int) + (1 : Int) = (0 : Int) ∧ False ∧ True) ∧ True) ∨ ∃ (y : Nat), ((0 : Nat) < y ∧ y ≤ (el s x).len) ∧ (el s x).len - y < (el s x).len - x_1 ∧ ((↑x_1 : Int) + (1 : Int) = (↑y : Int) ∧
 ((0 : Nat) = (0 : Nat) ∧ x_1 + (1 : Nat) = y ∧ True) ∧ True) ∧ List.take x_1 (cpEL (el s x) x_1) ++ List.take (1 : Nat) [D.list (List.take (el (el s x) x_1).len (List.drop ((0 : Nat) + (0 : Nat))
 (List.take (0 : Nat) ([] : List D) ++ List.take (1 : Nat) [D.int (-9 : Int)])))] = cpEL (el s x) y ∧ True)) ∧ ((0 : Nat) < (el (el s x) x_1).len → (0 : Nat) + (0 : Nat) ≤ ([] : List D).length ∧ (0 : Nat) + (el
 (el s x) x_1).len ≤ (16777216 : Nat) ∧ ((0 : Nat) + (el (el s x) x_1).len ≤ (0 : Nat) → (0 : Nat) + (0 : Nat) + (el (el s x) x_1).len ≤ ([] : List D).length ∧ (0 : Nat) + (1 : Nat) ≤ [D.int (-9 :
 Int)].length ∧ (0 : Nat) + (el (el s x) x_1).len ≤ (List.take ((0 : Nat) + (0 : Nat)) ([] : List D) ++ (el (el s x) x_1).asList ++ List.drop ((0 : Nat) + (0 : Nat) + (el (el s x) x_1).len) []).length ∧ (el (el s
 x) x_1).len + (1 : Nat) ≤ (16777216 : Nat) ∧ ((el (el s x) x_1).len + (1 : Nat) ≤ (0 : Nat) → (0 : Nat) + (el (el s x) x_1).len + (1 : Nat) ≤ (List.take ((0 : Nat) + (0 : Nat)) ([] : List D) ++ (el (el s x)
 x_1).asList ++ List.drop ((0 : Nat) + (0 : Nat) + (el (el s x) x_1).len) []).length ∧ (0 : Int) ≤ (0 : Int) ∧ (0 : Int) ≤ (↑(el (el s x) x_1).len : Int) ∧ ((↑(0 : Nat) : Int) - (↑(el (el s x) x_1).len
 : Int)).NonNeg ∧ (0 : Nat) + (0 : Nat) + (el (el s x) x_1).len ≤ (List.take ((0 : Nat) + (el (el s x) x_1).len) (List.take ((0 : Nat) + (0 : Nat)) ([] : List D) ++ (el (el s x) x_1).asList ++ List.drop ((0 :
 Nat) + (0 : Nat) + (el (el s x) x_1).len) []) ++ List.take (1 : Nat) [D.int (-9 : Int)] ++ List.drop ((0 : Nat) + (el (el s x) x_1).len + (1 : Nat)) (List.take ((0 : Nat) + (0 : Nat)) ([] : List D) ++ (el (el s
 x) x_1).asList ++ List.drop ((0 : Nat) + (0 : Nat) + (el (el s x) x_1).len) [])).length ∧ (0 : Nat) + (1 : Nat) ≤ [D.list (List.take (el (el s x) x_1).len (List.drop ((0 : Nat) + (0 : Nat)) (List.take
 ((0 : Nat) + (el (el s x) x_1).len) (List.take ((0 : Nat) + (0 : Nat)) ([] : List D) ++ (el (el s x) x_1).asList ++ List.drop ((0 : Nat) + (0 : Nat) + (el (el s x) x_1).len) []) ++ List.take (1 : Nat) [D.int (-9
 : Int)] ++ List.drop ((0 : Nat) + (el (el s x) x_1).len + (1 : Nat)) (List.take ((0 : Nat) + (0 : Nat)) ([] : List D) ++ (el (el s x) x_1).asList ++ List.drop ((0 : Nat) + (0 : Nat) + (el (el s x) x_1).len)
 []))))].length ∧ (0 : Nat) + x_1 ≤ (cpEL (el s x) x_1).length ∧ x_1 + (1 : Nat) ≤ (16777216 : Nat) ∧ ((-9223372036854775808 : Int) ≤ (↑x_1 : Int) + (1 : Int) ∧ (↑x_1 : Int) + (1 : Int) <
 (9223372036854775808 : Int)) ∧ ((∃ (y : Nat), y = (0 : Nat) ∧ (el s x).len - y < (el s x).len - x_1 ∧ ((↑x_1 : Int) + (1 : Int) = (0 : Int) ∧ False ∧ True) ∧ True) ∨ ∃ (y : Nat), ((0 : Nat) < y ∧ y ≤
 (el s x).len) ∧ (el s x).len - y < (el s x).len - x_1 ∧ ((↑x_1 : Int) + (1 : Int) = (↑y : Int) ∧ ((0 : Nat) = (0 : Nat) ∧ x_1 + (1 : Nat) = y ∧ True) ∧ True) ∧ List.take x_1 (cpEL (el s x) x_1) ++
 List.take (1 : Nat) [D.list (List.take (el (el s x) x_1).len (List.drop ((0 : Nat) + (0 : Nat)) (List.take ((0 : Nat) + (el (el s x) x_1).len) (List.take ((0 : Nat) + (0 : Nat)) ([] : List D) ++ (el (el s x)
 x_1).asList ++ List.drop ((0 : Nat) + (0 : Nat) + (el (el s x) x_1).len) []) ++ List.take (1 : Nat) [D.int (-9 : Int)] ++ List.drop ((0 : Nat) + (el (el s x) x_1).len + (1 : Nat)) (List.take ((0 :
 Nat) + (0 : Nat)) ([] : List D) ++ (el (el s x) x_1).asList ++ List.drop ((0 : Nat) + (0 : Nat) + (el (el s x) x_1).len) []))))] = cpEL (el s x) y ∧ True)) ∧ ((0 : Nat) < (el (el s x) x_1).len + (1 : Nat) → (0 :
 Int) ≤ (0 : Int) ∧ (0 : Int) ≤ (↑(el (el s x) x_1).len : Int) ∧ ((↑((el (el s x) x_1).len + (1 : Nat)) : Int) - (↑(el (el s x) x_1).len : Int)).NonNeg ∧ (0 : Nat) + (0 : Nat) + (el (el s x) x_1).len ≤
 (List.take (el (el s x) x_1).len (List.take ((0 : Nat) + (0 : Nat)) ([] : List D) ++ (el (el s x) x_1).asList ++ List.drop ((0 : Nat) + (0 : Nat) + (el (el s x) x_1).len) []) ++ List.take (1 : Nat) [D.int (-9 :
 Int)]).length ∧ (0 : Nat) + (1 : Nat) ≤ [D.list (List.take (el (el s x) x_1).len (List.drop ((0 : Nat) + (0 : Nat)) (List.take (el (el s x) x_1).len (List.take ((0 : Nat) + (0 : Nat)) ([] : List D) ++ (el (el s
 x) x_1).asList ++ List.drop ((0 : Nat) + (0 : Nat) + (el (el s x) x_1).len) []) ++ List.take (1 : Nat) [D.int (-9 : Int)])))].length ∧ (0 : Nat) + x_1 ≤ (cpEL (el s x) x_1).length ∧ x_1 + (1 : Nat) ≤
 (16777216 : Nat) ∧ ((-9223372036854775808 : Int) ≤ (↑x_1 : Int) + (1 : Int) ∧ (↑x_1 : Int) + (1 : Int) < (9223372036854775808 : Int)) ∧ ((∃ (y : Nat), y = (0 : Nat) ∧ (el s x).len - y < (el s x).len -
 x_1 ∧ ((↑x_1 : Int) + (1 : Int) = (0 : Int) ∧ False ∧ True) ∧ True) ∨ ∃ (y : Nat), ((0 : Nat) < y ∧ y ≤ (el s x).len) ∧ (el s x).len - y < (el s x).len - x_1 ∧ ((↑x_1 : Int) + (1 : Int) = (↑y : Int) ∧
 ((0 : Nat) = (0 : Nat) ∧ x_1 + (1 : Nat) = y ∧ True) ∧ True) ∧ List.take x_1 (cpEL (el s x) x_1) ++ List.take (1 : Nat) [D.list (List.take (el (el s x) x_1).len (List.drop ((0 : Nat) + (0 : Nat))
 (List.take (el (el s x) x_1).len (List.take ((0 : Nat) + (0 : Nat)) ([] : List D) ++ (el (el s x) x_1).asList ++ List.drop ((0 : Nat) + (0 : Nat) + (el (el s x) x_1).len) []) ++ List.take (1 : Nat) [D.int (-9 :
 Int)])))] = cpEL (el s x) y ∧ True))) ∧ ((0 : Nat) < (0 : Nat) + (el (el s x) x_1).len → (0 : Nat) + (1 : Nat) ≤ [D.int (-9 : Int)].length ∧ (0 : Nat) + (el (el s x) x_1).len ≤ (List.take (0 : Nat) ([] : List D)
 ++ (el (el s x) x_1).asList).length ∧ (el (el s x) x_1).len + (1 : Nat) ≤ (16777216 : Nat) ∧ (0 : Int) ≤ (0 : Int) ∧ (0 : Int) ≤ (↑(el (el s x) x_1).len : Int) ∧ ((↑((el (el s x) x_1).len + (1 : Nat))
 : Int) - (↑(el (el s x) x_1).len : Int)).NonNeg ∧ (0 : Nat) + (0 : Nat) + (el (el s x) x_1).len ≤ (List.take (el (el s x) x_1).len (List.take (0 : Nat) ([] : List D) ++ (el (el s x) x_1).asList) ++ List.take (1
 : Nat) [D.int (-9 : Int)]).length ∧ (0 : Nat) + (1 : Nat) ≤ [D.list (List.take (el (el s x) x_1).len (List.drop ((0 : Nat) + (0 : Nat)) (List.take (el (el s x) x_1).len (List.take (0 : Nat) ([] : List D) ++ (el
 (el s x) x_1).asList) ++ List.take (1 : Nat) [D.int (-9 : Int)])))].length ∧ (0 : Nat) + x_1 ≤ (cpEL (el s x) x_1).length ∧ x_1 + (1 : Nat) ≤ (16777216 : Nat) ∧ ((-9223372036854775808 : Int) ≤ (↑x_1 :
 Int) + (1 : Int) ∧ (↑x_1 : Int) + (1 : Int) < (9223372036854775808 : Int)) ∧ ((∃ (y : Nat), y = (0 : Nat) ∧ (el s x).len - y < (el s x).len - x_1 ∧ ((↑x_1 : Int) + (1 : Int) = (0 : Int) ∧ False ∧
 True) ∧ True) ∨ ∃ (y : Nat), ((0 : Nat) < y ∧ y ≤ (el s x).len) ∧ (el s x).len - y < (el s x).len - x_1 ∧ ((↑x_1 : Int) + (1 : Int) = (↑y : Int) ∧ ((0 : Nat) = (0 : Nat) ∧ x_1 + (1 : Nat) = y ∧ True)
 ∧ True) ∧ List.take x_1 (cpEL (el s x) x_1) ++ List.take (1 : Nat) [D.list (List.take (el (el s x) x_1).len (List.drop ((0 : Nat) + (0 : Nat)) (List.take (el (el s x) x_1).len (List.take (0 : Nat) ([] : List D)
 ++ (el (el s x) x_1).asList) ++ List.take (1 : Nat) [D.int (-9 : Int)])))] = cpEL (el s x) y ∧ True))))) ∧ (((↑x_1 : Int) < (↑(el s x).len : Int) → False) → (0 : Nat) + x_1 ≤ (cpEL (el s x)
 x_1).length ∧ (0 : Nat) + (1 : Nat) ≤ [D.list (List.take x_1 (cpEL (el s x) x_1))].length ∧ (0 : Nat) + x ≤ (cpSL s x).length ∧ x + (1 : Nat) ≤ (16777216 : Nat) ∧ ((-9223372036854775808 : Int) ≤ (↑x :
 Int) + (1 : Int) ∧ (↑x : Int) + (1 : Int) < (9223372036854775808 : Int)) ∧ ((∃ (y : Nat), y = (0 : Nat) ∧ s.len - y < s.len - x ∧ ((↑x : Int) + (1 : Int) = (0 : Int) ∧ False ∧ True) ∧ True) ∨ ∃ (y :
 Nat), ((0 : Nat) < y ∧ y ≤ s.len) ∧ s.len - y < s.len - x ∧ ((↑x : Int) + (1 : Int) = (↑y : Int) ∧ ((0 : Nat) = (0 : Nat) ∧ x + (1 : Nat) = y ∧ True) ∧ True) ∧ List.take x (cpSL s x) ++ List.take (1 :
 Nat) [D.list (List.take x_1 (cpEL (el s x) x_1))] = cpSL s y ∧ True))) ∧ (((↑x : Int) < (↑s.len : Int) → False) → (0 : Nat) + x ≤ (cpSL s x).length ∧ D.list (List.take x (cpSL s x)) = cpS s)) := by intros; kernel_rfl
theorem vc6 : ∀ (n : Int) (sz s : D), symFun (ctx ck5 ekAnn) (3 : Nat) (6 : FuncId) [V.int IntKind.i64 n, V.dat (24 : TypeId) sz, V.dat (33 : TypeId) s] (V.prop True) = ((((20 : Int) < (↑sz.len : Int)
 → False) → (((0 : Int) ≤ (400 : Int) ∧ (400 : Int) ≤ (100000 : Int)) ∧ lensP s) ∧ ((fewP s (400 : Int) → False) → (true = true ↔ True)) ∧ (((fewP s (400 : Int) → False) → False) → bigP s ∧ sz.len ≤
 (16777216 : Nat) ∧ (sz.len ≤ (1000 : Nat) ∧ bigP (cpS s)) ∧ (sz.len ≤ (1000 : Nat) ∧ bigP s) ∧ ((chk n sz (cpS s)).fst = (chk n sz s).fst → ((chk n sz (cpS s)).snd = (chk n sz s).snd → bigP (cpS s) ∧
 (eqS3 (cpS s) s → sz.len ≤ (16777216 : Nat) ∧ (eqN sz sz → (true = true ↔ True)) ∧ ((eqN sz sz → False) → (false = true ↔ True))) ∧ ((eqS3 (cpS s) s → False) → (false = true ↔ True))) ∧ (((chk n sz
 (cpS s)).snd = (chk n sz s).snd → False) → (false = true ↔ True))) ∧ (((chk n sz (cpS s)).fst = (chk n sz s).fst → False) → (false = true ↔ True)))) ∧ ((20 : Int) < (↑sz.len : Int) → (true = true ↔
 True))) := by intros; kernel_rfl
theorem s21 (s : D) (hs : bigP s) : symFun (ctx cc0 ekAnn) 4 21 [.dat 33 s] (.dat 33 (cpS s)) := by
 rw [vc21]
 have hl := hs.out.1
 have he := hs.out.2
 have t0 : ∀ i, i < s.len → (el s i).len ≤ 100 := fun i hi => (he i hi).out.1
 have t1 : ∀ i j, i < s.len → j < (el s i).len → (el (el s i) j).len ≤ 1000 := fun i j hi hj => (he i hi).out.2 j hj
 have sc : ∀ {x : Nat}, x < s.len → 0 < (el s x).len → True := fun _ _ => trivial
 refine ⟨Or.inl ⟨0, rfl, ⟨rfl, trivial, trivial⟩, trivial⟩, fun x hx => ⟨lim_of (by omega), fun hlt => ?_, fun hge => ?_⟩, fun x hx => ⟨lim_of (by omega), fun hlt => ?_, fun hge => ?_⟩⟩
 ·have k0 := t0 0 (by omega)
  refine ⟨by omega, by omega, Or.inl ⟨0, rfl, ⟨rfl, trivial, trivial⟩, trivial⟩, fun y hy => ⟨lim_of (by omega), fun hlt2 => ?_, fun hge => ?_⟩, fun y hy => ⟨lim_of (by omega), fun hlt2 => ?_, fun hge => ?_⟩⟩
  ·have k1 := t1 0 0 (by omega) (by omega)
   have e1 := @cp_e1 (el (el s 0) 0)
   have la : (el (el s 0) 0).asList.length = (el (el s 0) 0).len := rfl
   have e2 := cp_e2 (el (el s 0) 0) (.int (-9))
   repeat' (first | apply And.intro | intro _)
   all_goals first | exact trivial | exact Nat.le_refl _ | omega | exact nn_of (by omega) | (exfalso; omega) | (simp only [List.length_append, List.length_take, List.length_drop, List.length_cons, List.length_nil, la]; omega) | (rename_i hnil; have := isNil_len0 hnil; first | omega | exact nn_of (by omega) | (simp only [List.length_append, List.length_take, List.length_drop, List.length_cons, List.length_nil, la]; omega) | (exact Or.inr ⟨1, ⟨by omega, by omega⟩, by omega, ⟨by omega, ⟨rfl, rfl, trivial⟩, trivial⟩, (by rw [e1 (by omega)]; rfl), trivial⟩)) | (exact Or.inr ⟨1, ⟨by omega, by omega⟩, by omega, ⟨by omega, ⟨rfl, rfl, trivial⟩, trivial⟩, (by rw [e1 (by omega)]; rfl), trivial⟩) | (exact Or.inr ⟨1, ⟨by omega, by omega⟩, by omega, ⟨by omega, ⟨rfl, rfl, trivial⟩, trivial⟩, (by rw [e2]; rfl), trivial⟩) | fail
  ·have hge := not_of hge
   refine ⟨Nat.le_refl _, by omega, ⟨by omega, by omega⟩, Or.inr ⟨1, ⟨by omega, by omega⟩, by omega, ⟨by omega, ⟨rfl, rfl, trivial⟩, trivial⟩, ?_, trivial⟩⟩
   show [D.nil] = [cpE (el s 0)]
   rw [cpE_nil (by omega)]
  ·have k1 := t1 0 y (by omega) (by omega)
   have e1 := @cp_e1 (el (el s 0) y)
   have la : (el (el s 0) y).asList.length = (el (el s 0) y).len := rfl
   have e2 := cp_e2 (el (el s 0) y) (.int (-9))
   have cl := cpEL_len (el s 0) y
   repeat' (first | apply And.intro | intro _)
   all_goals first | exact trivial | exact Nat.le_refl _ | omega | exact nn_of (by omega) | (exfalso; omega) | (simp only [List.length_append, List.length_take, List.length_drop, List.length_cons, List.length_nil, la]; omega) | (rename_i hnil; have := isNil_len0 hnil; first | omega | exact nn_of (by omega) | (simp only [List.length_append, List.length_take, List.length_drop, List.length_cons, List.length_nil, la]; omega) | (exact Or.inr ⟨y + 1, ⟨by omega, by omega⟩, by omega, ⟨by omega, ⟨rfl, rfl, trivial⟩, trivial⟩, (by rw [e1 (by omega)]; exact cpEL_succ _ _), trivial⟩)) | (exact Or.inr ⟨y + 1, ⟨by omega, by omega⟩, by omega, ⟨by omega, ⟨rfl, rfl, trivial⟩, trivial⟩, (by rw [e1 (by omega)]; exact cpEL_succ _ _), trivial⟩) | (exact Or.inr ⟨y + 1, ⟨by omega, by omega⟩, by omega, ⟨by omega, ⟨rfl, rfl, trivial⟩, trivial⟩, (by rw [e2]; exact cpEL_succ _ _), trivial⟩) | fail
  ·have hge := not_of hge
   have hy' : y = (el s 0).len := by omega
   subst hy'
   have cl := cpEL_len (el s 0) (el s 0).len
   refine ⟨by omega, Nat.le_refl _, by omega, ⟨by omega, by omega⟩, Or.inr ⟨1, ⟨by omega, by omega⟩, by omega, ⟨by omega, ⟨rfl, rfl, trivial⟩, trivial⟩, ?_, trivial⟩⟩
   show [D.list (List.take (el s 0).len (cpEL (el s 0) (el s 0).len))] = [cpE (el s 0)]
   rw [cpE_list (by omega)]
 ·have hge := not_of hge
  exact (cpS_nil (by omega)).symm
 ·have k0 := t0 x (by omega)
  have sl := cpSL_len s x
  refine ⟨by omega, by omega, Or.inl ⟨0, rfl, ⟨rfl, trivial, trivial⟩, trivial⟩, fun y hy => ⟨lim_of (by omega), fun hlt2 => ?_, fun hge => ?_⟩, fun y hy => ⟨lim_of (by omega), fun hlt2 => ?_, fun hge => ?_⟩⟩
  ·have k1 := t1 x 0 (by omega) (by omega)
   have e1 := @cp_e1 (el (el s x) 0)
   have la : (el (el s x) 0).asList.length = (el (el s x) 0).len := rfl
   have e2 := cp_e2 (el (el s x) 0) (.int (-9))
   repeat' (first | apply And.intro | intro _)
   all_goals first | exact trivial | exact Nat.le_refl _ | omega | exact nn_of (by omega) | (exfalso; omega) | (simp only [List.length_append, List.length_take, List.length_drop, List.length_cons, List.length_nil, la]; omega) | (rename_i hnil; have := isNil_len0 hnil; first | omega | exact nn_of (by omega) | (simp only [List.length_append, List.length_take, List.length_drop, List.length_cons, List.length_nil, la]; omega) | (exact Or.inr ⟨1, ⟨by omega, by omega⟩, by omega, ⟨by omega, ⟨rfl, rfl, trivial⟩, trivial⟩, (by rw [e1 (by omega)]; rfl), trivial⟩)) | (exact Or.inr ⟨1, ⟨by omega, by omega⟩, by omega, ⟨by omega, ⟨rfl, rfl, trivial⟩, trivial⟩, (by rw [e1 (by omega)]; rfl), trivial⟩) | (exact Or.inr ⟨1, ⟨by omega, by omega⟩, by omega, ⟨by omega, ⟨rfl, rfl, trivial⟩, trivial⟩, (by rw [e2]; rfl), trivial⟩) | fail
  ·have hge := not_of hge
   refine ⟨Nat.le_refl _, by omega, by omega, ⟨by omega, by omega⟩, Or.inr ⟨x + 1, ⟨by omega, by omega⟩, by omega, ⟨by omega, ⟨rfl, rfl, trivial⟩, trivial⟩, ?_, trivial⟩⟩
   show List.take x (cpSL s x) ++ [D.nil] = _
   rw [← cpSL_succ, cpE_nil (by omega)]
  ·have k1 := t1 x y (by omega) (by omega)
   have e1 := @cp_e1 (el (el s x) y)
   have la : (el (el s x) y).asList.length = (el (el s x) y).len := rfl
   have e2 := cp_e2 (el (el s x) y) (.int (-9))
   have cl := cpEL_len (el s x) y
   repeat' (first | apply And.intro | intro _)
   all_goals first | exact trivial | exact Nat.le_refl _ | omega | exact nn_of (by omega) | (exfalso; omega) | (simp only [List.length_append, List.length_take, List.length_drop, List.length_cons, List.length_nil, la]; omega) | (rename_i hnil; have := isNil_len0 hnil; first | omega | exact nn_of (by omega) | (simp only [List.length_append, List.length_take, List.length_drop, List.length_cons, List.length_nil, la]; omega) | (exact Or.inr ⟨y + 1, ⟨by omega, by omega⟩, by omega, ⟨by omega, ⟨rfl, rfl, trivial⟩, trivial⟩, (by rw [e1 (by omega)]; exact cpEL_succ _ _), trivial⟩)) | (exact Or.inr ⟨y + 1, ⟨by omega, by omega⟩, by omega, ⟨by omega, ⟨rfl, rfl, trivial⟩, trivial⟩, (by rw [e1 (by omega)]; exact cpEL_succ _ _), trivial⟩) | (exact Or.inr ⟨y + 1, ⟨by omega, by omega⟩, by omega, ⟨by omega, ⟨rfl, rfl, trivial⟩, trivial⟩, (by rw [e2]; exact cpEL_succ _ _), trivial⟩) | fail
  ·have hge := not_of hge
   have hy' : y = (el s x).len := by omega
   subst hy'
   have cl := cpEL_len (el s x) (el s x).len
   refine ⟨by omega, Nat.le_refl _, by omega, by omega, ⟨by omega, by omega⟩, Or.inr ⟨x + 1, ⟨by omega, by omega⟩, by omega, ⟨by omega, ⟨rfl, rfl, trivial⟩, trivial⟩, ?_, trivial⟩⟩
   show List.take x (cpSL s x) ++ [D.list (List.take (el s x).len (cpEL (el s x) (el s x).len))] = _
   rw [← cpSL_succ, cpE_list (by omega)]
 ·have hge := not_of hge
  have e : x = s.len := by omega
  subst e
  exact ⟨by have := cpSL_len s s.len; omega, cpS_list (by omega)⟩
theorem el_map {α : Type} (f : Nat → D) (n i : Nat) (hi : i < n) : nthD ((List.range n).map f) i = f i := by
 unfold nthD
 rw [List.getElem?_map, List.getElem?_range hi]; rfl
theorem cpE_len (e : D) : (cpE e).len = e.len := by unfold cpE; rw [listD_len, cpEL_len]
theorem cpS_len (s : D) : (cpS s).len = s.len := by unfold cpS; rw [listD_len, cpSL_len]
theorem cpE_el {e : D} {i : Nat} (hi : i < e.len) : el (cpE e) i = cpT (el e i) := by
 unfold el cpE
 rw [listD_list]
 exact el_map (α := D) (fun i => cpT (el e i)) _ _ hi
theorem cpS_el {s : D} {i : Nat} (hi : i < s.len) : el (cpS s) i = cpE (el s i) := by
 unfold el cpS
 rw [listD_list]
 exact el_map (α := D) (fun i => cpE (el s i)) _ _ hi
theorem cpE_flat (e : D) : ∀ n, n ≤ e.len → flatL (cpE e) n = flatL e n
 | 0, _ => rfl
 | n + 1, hn => by
  show flatL (cpE e) n ++ (el (cpE e) n).asList = flatL e n ++ (el e n).asList
  rw [cpE_flat e n (by omega), cpE_el (by omega)]; rfl
theorem cpE_err (n : Int) (sz e : D) : errE n sz (cpE e) = errE n sz e := by
 have h1 : emptyP (cpE e) ↔ emptyP e := ⟨fun ⟨i, hi, h⟩ => ⟨i, by rw [cpE_len] at hi; exact hi, by rw [cpE_len] at hi; rw [cpE_el hi] at h; exact h⟩, fun ⟨i, hi, h⟩ => ⟨i, by rw [cpE_len]; exact hi, by rw [cpE_el hi]; exact h⟩⟩
 have h2 : sameSz (cpE e) sz ↔ sameSz e sz := ⟨fun h => ⟨by rw [← cpE_len]; exact h.out.1, fun i hi => by have := h.out.2 i (by rw [cpE_len]; exact hi); rw [cpE_el hi] at this; exact this⟩, fun h => ⟨by rw [cpE_len]; exact h.out.1, fun i hi => by rw [cpE_len] at hi; rw [cpE_el hi]; exact h.out.2 i hi⟩⟩
 unfold errE
 rw [cpE_len, cpE_flat e e.len (Nat.le_refl _)]
 by_cases h : emptyP e ∨ (0 < sz.len ∧ ¬ sameSz e sz)
 ·rw [if_pos h, if_pos (h.imp h1.2 fun k => ⟨k.1, fun k' => k.2 (h2.1 k')⟩)]
 ·rw [if_neg h, if_neg fun h' => h (h'.imp h1.1 fun k => ⟨k.1, fun k' => k.2 (h2.2 k')⟩)]
theorem cpS_scan (n : Int) (sz s : D) : ∀ f i, i + f ≤ s.len → scanK n sz (cpS s) f i = scanK n sz s f i
 | 0, _, _ => rfl
 | f + 1, i, h => by
  unfold scanK
  rw [cpS_el (by omega), cpE_err, cpS_scan n sz s f (i + 1) (by omega)]
theorem cpS_chk (n : Int) (sz s : D) : chk n sz (cpS s) = chk n sz s := by
 unfold chk
 rw [cpS_len, cpS_scan n sz s s.len 0 (by omega)]
theorem cpS_big {s : D} (h : bigP s) : bigP (cpS s) := ⟨by rw [cpS_len]; exact h.out.1, fun i hi => by
 rw [cpS_len] at hi
 rw [cpS_el hi]
 have := (h.out.2 i hi).out
 exact ⟨by rw [cpE_len]; exact this.1, fun j hj => by rw [cpE_len] at hj; rw [cpE_el hj]; exact this.2 j hj⟩⟩
theorem cpS_same (s : D) : eqS3 (cpS s) s := ⟨cpS_len s, fun i hi => by
 rw [cpS_len] at hi
 rw [cpS_el hi]
 exact ⟨cpE_len _, fun j hj => by rw [cpE_len] at hj; rw [cpE_el hj]; exact ⟨rfl, fun _ _ => rfl⟩⟩⟩
theorem tot_at (ev : D) {j n : Nat} (h : j < n) : (el ev j).len ≤ totE ev n := by
 have := tot_mono' ev (show j + 1 ≤ n by omega)
 have e : totE ev (j + 1) = totE ev j + (el ev j).len := rfl
 omega
theorem totS_at (s : D) {i n : Nat} (h : i < n) : totE (el s i) (el s i).len ≤ totS s n := by
 have := totS_mono' s (show i + 1 ≤ n by omega)
 have e : totS s (i + 1) = totS s i + totE (el s i) (el s i).len := rfl
 omega
theorem few_big {s : D} {m : Int} (hm : m ≤ 1000) (h : fewP s m) : bigP s := ⟨by have := h.out.1; omega, fun i hi => ⟨by have := h.out.2.1 i hi; omega, fun j hj => by
 have h1 := tot_at (el s i) hj
 have h2 := totS_at s hi
 have := h.out.2.2
 omega⟩⟩
theorem sl6 (n : Int) (sz s : D) (hs : lensP s) : symFun (ctx ck5 ekAnn) 3 6 [.int .i64 n, .dat 24 sz, .dat 33 s] (.prop True) := by
 rw [vc6]
 have yes : (true = true ↔ True) := iff_of_true rfl trivial
 refine ⟨fun h => ⟨⟨⟨by omega, by omega⟩, hs⟩, fun _ => yes, fun hf => ?_⟩, fun _ => yes⟩
 have hf := Classical.not_not.1 hf
 have h := not_of h
 have hb := few_big (by decide) hf
 rw [cpS_chk]
 exact ⟨hb, by omega, ⟨by omega, cpS_big hb⟩, ⟨by omega, hb⟩, fun _ => ⟨fun _ => ⟨cpS_big hb, fun _ => ⟨by omega, fun _ => yes, fun h => absurd ⟨rfl, fun _ _ => rfl⟩ h⟩, fun h => absurd (cpS_same s) h⟩, fun h => absurd rfl h⟩, fun h => absurd rfl h⟩
end Go.Ev
