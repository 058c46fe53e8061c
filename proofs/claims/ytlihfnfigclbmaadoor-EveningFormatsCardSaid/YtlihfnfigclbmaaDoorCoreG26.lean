/-
  Part of the engine that the claim is proved with: it states nothing of the document by itself.
-/
import Derived.Test.YtlihfnfigclbmaaDoorCoreEkB
import Derived.Test.YtlihfnfigclbmaaDoorCoreG23

section
open Go.Proofs
namespace Go.Ev
set_option maxRecDepth 100000
set_option maxHeartbeats 4000000
theorem vc21 : ∀ (s : D), symFun (ctx cc0 ekAnn) (4 : Nat) (21 : FuncId) [V.dat (33 : TypeId) s] (V.dat (33 : TypeId) (cpS s)) = (((∃ (x : Nat), x = (0 : Nat) ∧ ((0 : Int) = (0 : Int) ∧ True ∧ True) ∧
 True) ∨ ∃ (x : Nat), ((0 : Nat) < x ∧ x ≤ s.len) ∧ ((0 : Int) = (↑x : Int) ∧ False ∧ True) ∧ False ∧ True) ∧ (∀ (x : Nat), x = (0 : Nat) → s.len - x < LIM ∧ ((0 : Int) < (↑s.len : Int) → (0 : Int) ≤
 (0 : Int) ∧ (0 : Int) < (↑s.len : Int) ∧ ((∃ (x : Nat), x = (0 : Nat) ∧ ((0 : Int) = (0 : Int) ∧ True ∧ True) ∧ True) ∨ ∃ (x : Nat), ((0 : Nat) < x ∧ x ≤ (el s (0 : Nat)).len) ∧ ((0 : Int) = (↑x :
 Int) ∧ False ∧ True) ∧ False ∧ True) ∧ (∀ (x_1 : Nat), x_1 = (0 : Nat) → (el s (0 : Nat)).len - x_1 < LIM ∧ ((0 : Int) < (↑(el s (0 : Nat)).len : Int) → (0 : Int) ≤ (0 : Int) ∧ (0 : Int) < (↑(el s (0
 : Nat)).len : Int) ∧ ((el (el s (0 : Nat)) (0 : Nat)).isNil → (0 : Nat) + (1 : Nat) ≤ [D.int (-9 : Int)].length ∧ (1 : Nat) ≤ (16777216 : Nat) ∧ (0 : Int) ≤ (0 : Int) ∧ (0 : Int) ≤ (↑(el (el s (0 :
 Nat)) (0 : Nat)).len : Int) ∧ ((↑(1 : Nat) : Int) - (↑(el (el s (0 : Nat)) (0 : Nat)).len : Int)).NonNeg ∧ (0 : Nat) + (0 : Nat) + (el (el s (0 : Nat)) (0 : Nat)).len ≤ (List.take (1 : Nat) [D.int (-9
 : Int)]).length ∧ (0 : Nat) + (1 : Nat) ≤ [D.list (List.take (el (el s (0 : Nat)) (0 : Nat)).len (List.drop ((0 : Nat) + (0 : Nat)) (List.take (1 : Nat) [D.int (-9 : Int)])))].length ∧ (1 : Nat) ≤
 (16777216 : Nat) ∧ ((-9223372036854775808 : Int) ≤ (0 : Int) + (1 : Int) ∧ (0 : Int) + (1 : Int) < (9223372036854775808 : Int)) ∧ ((∃ (y : Nat), y = (0 : Nat) ∧ (el s (0 : Nat)).len - y < (el s (0 :
 Nat)).len - x_1 ∧ ((0 : Int) + (1 : Int) = (0 : Int) ∧ False ∧ True) ∧ True) ∨ ∃ (y : Nat), ((0 : Nat) < y ∧ y ≤ (el s (0 : Nat)).len) ∧ (el s (0 : Nat)).len - y < (el s (0 : Nat)).len - x_1 ∧ ((0 :
 Int) + (1 : Int) = (↑y : Int) ∧ ((0 : Nat) = (0 : Nat) ∧ (1 : Nat) = y ∧ True) ∧ True) ∧ List.take (1 : Nat) [D.list (List.take (el (el s (0 : Nat)) (0 : Nat)).len (List.drop ((0 : Nat) + (0 : Nat))
 (List.take (1 : Nat) [D.int (-9 : Int)])))] = cpEL (el s (0 : Nat)) y ∧ True)) ∧ (((el (el s (0 : Nat)) (0 : Nat)).isNil → False) → ((el (el s (0 : Nat)) (0 : Nat)).len = (0 : Nat) → (0 : Nat) + (1 :
 Nat) ≤ [D.int (-9 : Int)].length ∧ (0 : Nat) + (0 : Nat) ≤ ([] : List D).length ∧ (0 : Nat) + (1 : Nat) ≤ (16777216 : Nat) ∧ (0 : Int) ≤ (0 : Int) ∧ (0 : Int) ≤ (↑(el (el s (0 : Nat)) (0 : Nat)).len :
 Int) ∧ ((↑((0 : Nat) + (1 : Nat)) : Int) - (↑(el (el s (0 : Nat)) (0 : Nat)).len : Int)).NonNeg ∧ (0 : Nat) + (0 : Nat) + (el (el s (0 : Nat)) (0 : Nat)).len ≤ (List.take (0 : Nat) ([] : List D) ++ List.take (1
 : Nat) [D.int (-9 : Int)]).length ∧ (0 : Nat) + (1 : Nat) ≤ [D.list (List.take (el (el s (0 : Nat)) (0 : Nat)).len (List.drop ((0 : Nat) + (0 : Nat)) (List.take (0 : Nat) ([] : List D) ++ List.take (1 : Nat)
 [D.int (-9 : Int)])))].length ∧ (1 : Nat) ≤ (16777216 : Nat) ∧ ((-9223372036854775808 : Int) ≤ (0 : Int) + (1 : Int) ∧ (0 : Int) + (1 : Int) < (9223372036854775808 : Int)) ∧ ((∃ (y : Nat), y = (0 :
 Nat) ∧ (el s (0 : Nat)).len - y < (el s (0 : Nat)).len - x_1 ∧ ((0 : Int) + (1 : Int) = (0 : Int) ∧ False ∧ True) ∧ True) ∨ ∃ (y : Nat), ((0 : Nat) < y ∧ y ≤ (el s (0 : Nat)).len) ∧ (el s (0 :
 Nat)).len - y < (el s (0 : Nat)).len - x_1 ∧ ((0 : Int) + (1 : Int) = (↑y : Int) ∧ ((0 : Nat) = (0 : Nat) ∧ (1 : Nat) = y ∧ True) ∧ True) ∧ List.take (1 : Nat) [D.list (List.take (el (el s (0 : Nat))
 (0 : Nat)).len (List.drop ((0 : Nat) + (0 : Nat)) (List.take (0 : Nat) ([] : List D) ++ List.take (1 : Nat) [D.int (-9 : Int)])))] = cpEL (el s (0 : Nat)) y ∧ True)) ∧ ((0 : Nat) < (el (el s (0 : Nat)) (0 :
 Nat)).len → (0 : Nat) + (0 : Nat) ≤ ([] : List D).length ∧ (0 : Nat) + (el (el s (0 : Nat)) (0 : Nat)).len ≤ (16777216 : Nat) ∧ ((0 : Nat) + (el (el s (0 : Nat)) (0 : Nat)).len ≤ (0 : Nat) → (0 : Nat)
 + (0 : Nat) + (el (el s (0 : Nat)) (0 : Nat)).len ≤ ([] : List D).length ∧ (0 : Nat) + (1 : Nat) ≤ [D.int (-9 : Int)].length ∧ (0 : Nat) + (el (el s (0 : Nat)) (0 : Nat)).len ≤ (List.take ((0 : Nat) +
 (0 : Nat)) ([] : List D) ++ (el (el s (0 : Nat)) (0 : Nat)).asList ++ List.drop ((0 : Nat) + (0 : Nat) + (el (el s (0 : Nat)) (0 : Nat)).len) []).length ∧ (el (el s (0 : Nat)) (0 : Nat)).len + (1 : Nat) ≤
 (16777216 : Nat) ∧ ((el (el s (0 : Nat)) (0 : Nat)).len + (1 : Nat) ≤ (0 : Nat) → (0 : Nat) + (el (el s (0 : Nat)) (0 : Nat)).len + (1 : Nat) ≤ (List.take ((0 : Nat) + (0 : Nat)) ([] : List D) ++ (el (el s (0 :
 Nat)) (0 : Nat)).asList ++ List.drop ((0 : Nat) + (0 : Nat) + (el (el s (0 : Nat)) (0 : Nat)).len) []).length ∧ (0 : Int) ≤ (0 : Int) ∧ (0 : Int) ≤ (↑(el (el s (0 : Nat)) (0 : Nat)).len : Int) ∧ ((↑(0
 : Nat) : Int) - (↑(el (el s (0 : Nat)) (0 : Nat)).len : Int)).NonNeg ∧ (0 : Nat) + (0 : Nat) + (el (el s (0 : Nat)) (0 : Nat)).len ≤ (List.take ((0 : Nat) + (el (el s (0 : Nat)) (0 : Nat)).len)
 (List.take ((0 : Nat) + (0 : Nat)) ([] : List D) ++ (el (el s (0 : Nat)) (0 : Nat)).asList ++ List.drop ((0 : Nat) + (0 : Nat) + (el (el s (0 : Nat)) (0 : Nat)).len) []) ++ List.take (1 : Nat) [D.int (-9 : Int)]
 ++ List.drop ((0 : Nat) + (el (el s (0 : Nat)) (0 : Nat)).len + (1 : Nat)) (List.take ((0 : Nat) + (0 : Nat)) ([] : List D) ++ (el (el s (0 : Nat)) (0 : Nat)).asList ++ List.drop ((0 : Nat) + (0 : Nat) + (el (el
 s (0 : Nat)) (0 : Nat)).len) [])).length ∧ (0 : Nat) + (1 : Nat) ≤ [D.list (List.take (el (el s (0 : Nat)) (0 : Nat)).len (List.drop ((0 : Nat) + (0 : Nat)) (List.take ((0 : Nat) + (el (el s (0 :
 Nat)) (0 : Nat)).len) (List.take ((0 : Nat) + (0 : Nat)) ([] : List D) ++ (el (el s (0 : Nat)) (0 : Nat)).asList ++ List.drop ((0 : Nat) + (0 : Nat) + (el (el s (0 : Nat)) (0 : Nat)).len) []) ++ List.take (1 :
 Nat) [D.int (-9 : Int)] ++ List.drop ((0 : Nat) + (el (el s (0 : Nat)) (0 : Nat)).len + (1 : Nat)) (List.take ((0 : Nat) + (0 : Nat)) ([] : List D) ++ (el (el s (0 : Nat)) (0 : Nat)).asList ++ List.drop ((0 :
 Nat) + (0 : Nat) + (el (el s (0 : Nat)) (0 : Nat)).len) []))))].length ∧ (1 : Nat) ≤ (16777216 : Nat) ∧ ((-9223372036854775808 : Int) ≤ (0 : Int) + (1 : Int) ∧ (0 : Int) + (1 : Int) <
 (9223372036854775808 : Int)) ∧ ((∃ (y : Nat), y = (0 : Nat) ∧ (el s (0 : Nat)).len - y < (el s (0 : Nat)).len - x_1 ∧ ((0 : Int) + (1 : Int) = (0 : Int) ∧ False ∧ True) ∧ True) ∨ ∃ (y : Nat), ((0 :
 Nat) < y ∧ y ≤ (el s (0 : Nat)).len) ∧ (el s (0 : Nat)).len - y < (el s (0 : Nat)).len - x_1 ∧ ((0 : Int) + (1 : Int) = (↑y : Int) ∧ ((0 : Nat) = (0 : Nat) ∧ (1 : Nat) = y ∧ True) ∧ True) ∧ List.take
 (1 : Nat) [D.list (List.take (el (el s (0 : Nat)) (0 : Nat)).len (List.drop ((0 : Nat) + (0 : Nat)) (List.take ((0 : Nat) + (el (el s (0 : Nat)) (0 : Nat)).len) (List.take ((0 : Nat) + (0 : Nat)) ([] : List D)
 ++ (el (el s (0 : Nat)) (0 : Nat)).asList ++ List.drop ((0 : Nat) + (0 : Nat) + (el (el s (0 : Nat)) (0 : Nat)).len) []) ++ List.take (1 : Nat) [D.int (-9 : Int)] ++ List.drop ((0 : Nat) + (el (el s
 (0 : Nat)) (0 : Nat)).len + (1 : Nat)) (List.take ((0 : Nat) + (0 : Nat)) ([] : List D) ++ (el (el s (0 : Nat)) (0 : Nat)).asList ++ List.drop ((0 : Nat) + (0 : Nat) + (el (el s (0 : Nat)) (0 : Nat)).len)
 []))))] = cpEL (el s (0 : Nat)) y ∧ True)) ∧ ((0 : Nat) < (el (el s (0 : Nat)) (0 : Nat)).len + (1 : Nat) → (0 : Int) ≤ (0 : Int) ∧ (0 : Int) ≤ (↑(el (el s (0 : Nat)) (0 : Nat)).len : Int) ∧ ((↑((el
 (el s (0 : Nat)) (0 : Nat)).len + (1 : Nat)) : Int) - (↑(el (el s (0 : Nat)) (0 : Nat)).len : Int)).NonNeg ∧ (0 : Nat) + (0 : Nat) + (el (el s (0 : Nat)) (0 : Nat)).len ≤ (List.take (el (el s (0 :
 Nat)) (0 : Nat)).len (List.take ((0 : Nat) + (0 : Nat)) ([] : List D) ++ (el (el s (0 : Nat)) (0 : Nat)).asList ++ List.drop ((0 : Nat) + (0 : Nat) + (el (el s (0 : Nat)) (0 : Nat)).len) []) ++ List.take (1 :
 Nat) [D.int (-9 : Int)]).length ∧ (0 : Nat) + (1 : Nat) ≤ [D.list (List.take (el (el s (0 : Nat)) (0 : Nat)).len (List.drop ((0 : Nat) + (0 : Nat)) (List.take (el (el s (0 : Nat)) (0 : Nat)).len
 (List.take ((0 : Nat) + (0 : Nat)) ([] : List D) ++ (el (el s (0 : Nat)) (0 : Nat)).asList ++ List.drop ((0 : Nat) + (0 : Nat) + (el (el s (0 : Nat)) (0 : Nat)).len) []) ++ List.take (1 : Nat) [D.int (-9 :
 Int)])))].length ∧ (1 : Nat) ≤ (16777216 : Nat) ∧ ((-9223372036854775808 : Int) ≤ (0 : Int) + (1 : Int) ∧ (0 : Int) + (1 : Int) < (9223372036854775808 : Int)) ∧ ((∃ (y : Nat), y = (0 : Nat) ∧ (el s (0
 : Nat)).len - y < (el s (0 : Nat)).len - x_1 ∧ ((0 : Int) + (1 : Int) = (0 : Int) ∧ False ∧ True) ∧ True) ∨ ∃ (y : Nat), ((0 : Nat) < y ∧ y ≤ (el s (0 : Nat)).len) ∧ (el s (0 : Nat)).len - y < (el s
 (0 : Nat)).len - x_1 ∧ ((0 : Int) + (1 : Int) = (↑y : Int) ∧ ((0 : Nat) = (0 : Nat) ∧ (1 : Nat) = y ∧ True) ∧ True) ∧ List.take (1 : Nat) [D.list (List.take (el (el s (0 : Nat)) (0 : Nat)).len
 (List.drop ((0 : Nat) + (0 : Nat)) (List.take (el (el s (0 : Nat)) (0 : Nat)).len (List.take ((0 : Nat) + (0 : Nat)) ([] : List D) ++ (el (el s (0 : Nat)) (0 : Nat)).asList ++ List.drop ((0 : Nat) + (0 : Nat) +
 (el (el s (0 : Nat)) (0 : Nat)).len) []) ++ List.take (1 : Nat) [D.int (-9 : Int)])))] = cpEL (el s (0 : Nat)) y ∧ True))) ∧ ((0 : Nat) < (0 : Nat) + (el (el s (0 : Nat)) (0 : Nat)).len → (0 : Nat) +
 (1 : Nat) ≤ [D.int (-9 : Int)].length ∧ (0 : Nat) + (el (el s (0 : Nat)) (0 : Nat)).len ≤ (List.take (0 : Nat) ([] : List D) ++ (el (el s (0 : Nat)) (0 : Nat)).asList).length ∧ (el (el s (0 : Nat)) (0 :
 Nat)).len + (1 : Nat) ≤ (16777216 : Nat) ∧ (0 : Int) ≤ (0 : Int) ∧ (0 : Int) ≤ (↑(el (el s (0 : Nat)) (0 : Nat)).len : Int) ∧ ((↑((el (el s (0 : Nat)) (0 : Nat)).len + (1 : Nat)) : Int) - (↑(el (el s
 (0 : Nat)) (0 : Nat)).len : Int)).NonNeg ∧ (0 : Nat) + (0 : Nat) + (el (el s (0 : Nat)) (0 : Nat)).len ≤ (List.take (el (el s (0 : Nat)) (0 : Nat)).len (List.take (0 : Nat) ([] : List D) ++ (el (el s (0 : Nat))
 (0 : Nat)).asList) ++ List.take (1 : Nat) [D.int (-9 : Int)]).length ∧ (0 : Nat) + (1 : Nat) ≤ [D.list (List.take (el (el s (0 : Nat)) (0 : Nat)).len (List.drop ((0 : Nat) + (0 : Nat)) (List.take (el
 (el s (0 : Nat)) (0 : Nat)).len (List.take (0 : Nat) ([] : List D) ++ (el (el s (0 : Nat)) (0 : Nat)).asList) ++ List.take (1 : Nat) [D.int (-9 : Int)])))].length ∧ (1 : Nat) ≤ (16777216 : Nat) ∧
 ((-9223372036854775808 : Int) ≤ (0 : Int) + (1 : Int) ∧ (0 : Int) + (1 : Int) < (9223372036854775808 : Int)) ∧ ((∃ (y : Nat), y = (0 : Nat) ∧ (el s (0 : Nat)).len - y < (el s (0 : Nat)).len - x_1 ∧
 ((0 : Int) + (1 : Int) = (0 : Int) ∧ False ∧ True) ∧ True) ∨ ∃ (y : Nat), ((0 : Nat) < y ∧ y ≤ (el s (0 : Nat)).len) ∧ (el s (0 : Nat)).len - y < (el s (0 : Nat)).len - x_1 ∧ ((0 : Int) + (1 : Int) =
 (↑y : Int) ∧ ((0 : Nat) = (0 : Nat) ∧ (1 : Nat) = y ∧ True) ∧ True) ∧ List.take (1 : Nat) [D.list (List.take (el (el s (0 : Nat)) (0 : Nat)).len (List.drop ((0 : Nat) + (0 : Nat)) (List.take (el (el s
 (0 : Nat)) (0 : Nat)).len (List.take (0 : Nat) ([] : List D) ++ (el (el s (0 : Nat)) (0 : Nat)).asList) ++ List.take (1 : Nat) [D.int (-9 : Int)])))] = cpEL (el s (0 : Nat)) y ∧ True))))) ∧ (((0 : Int) < (↑(el s
 (0 : Nat)).len : Int) → False) → (0 : Nat) + (1 : Nat) ≤ [D.nil].length ∧ (1 : Nat) ≤ (16777216 : Nat) ∧ ((-9223372036854775808 : Int) ≤ (0 : Int) + (1 : Int) ∧ (0 : Int) + (1 : Int) <
 (9223372036854775808 : Int)) ∧ ((∃ (y : Nat), y = (0 : Nat) ∧ s.len - y < s.len - x ∧ ((0 : Int) + (1 : Int) = (0 : Int) ∧ False ∧ True) ∧ True) ∨ ∃ (y : Nat), ((0 : Nat) < y ∧ y ≤ s.len) ∧ s.len - y
 < s.len - x ∧ ((0 : Int) + (1 : Int) = (↑y : Int) ∧ ((0 : Nat) = (0 : Nat) ∧ (1 : Nat) = y ∧ True) ∧ True) ∧ List.take (1 : Nat) [D.nil] = cpSL s y ∧ True))) ∧ ∀ (x_1 : Nat), (0 : Nat) < x_1 ∧ x_1 ≤
 (el s (0 : Nat)).len → (el s (0 : Nat)).len - x_1 < LIM ∧ ((↑x_1 : Int) < (↑(el s (0 : Nat)).len : Int) → (0 : Int) ≤ (↑x_1 : Int) ∧ (↑x_1 : Int) < (↑(el s (0 : Nat)).len : Int) ∧ ((el (el s (0 :
 Nat)) x_1).isNil → (0 : Nat) + (1 : Nat) ≤ [D.int (-9 : Int)].length ∧ (1 : Nat) ≤ (16777216 : Nat) ∧ (0 : Int) ≤ (0 : Int) ∧ (0 : Int) ≤ (↑(el (el s (0 : Nat)) x_1).len : Int) ∧ ((↑(1 : Nat) : Int) -
 (↑(el (el s (0 : Nat)) x_1).len : Int)).NonNeg ∧ (0 : Nat) + (0 : Nat) + (el (el s (0 : Nat)) x_1).len ≤ (List.take (1 : Nat) [D.int (-9 : Int)]).length ∧ (0 : Nat) + (1 : Nat) ≤ [D.list (List.take
 (el (el s (0 : Nat)) x_1).len (List.drop ((0 : Nat) + (0 : Nat)) (List.take (1 : Nat) [D.int (-9 : Int)])))].length ∧ (0 : Nat) + x_1 ≤ (cpEL (el s (0 : Nat)) x_1).length ∧ x_1 + (1 : Nat) ≤ (16777216
 : Nat) ∧ ((-9223372036854775808 : Int) ≤ (↑x_1 : Int) + (1 : Int) ∧ (↑x_1 : Int) + (1 : Int) < (9223372036854775808 : Int)) ∧ ((∃ (y : Nat), y = (0 : Nat) ∧ (el s (0 : Nat)).len - y < (el s (0 :
 Nat)).len - x_1 ∧ ((↑x_1 : Int) + (1 : Int) = (0 : Int) ∧ False ∧ True) ∧ True) ∨ ∃ (y : Nat), ((0 : Nat) < y ∧ y ≤ (el s (0 : Nat)).len) ∧ (el s (0 : Nat)).len - y < (el s (0 : Nat)).len - x_1 ∧
 ((↑x_1 : Int) + (1 : Int) = (↑y : Int) ∧ ((0 : Nat) = (0 : Nat) ∧ x_1 + (1 : Nat) = y ∧ True) ∧ True) ∧ List.take x_1 (cpEL (el s (0 : Nat)) x_1) ++ List.take (1 : Nat) [D.list (List.take (el (el s (0
 : Nat)) x_1).len (List.drop ((0 : Nat) + (0 : Nat)) (List.take (1 : Nat) [D.int (-9 : Int)])))] = cpEL (el s (0 : Nat)) y ∧ True)) ∧ (((el (el s (0 : Nat)) x_1).isNil → False) → ((el (el s (0 : Nat))
 x_1).len = (0 : Nat) → (0 : Nat) + (1 : Nat) ≤ [D.int (-9 : Int)].length ∧ (0 : Nat) + (0 : Nat) ≤ ([] : List D).length ∧ (0 : Nat) + (1 : Nat) ≤ (16777216 : Nat) ∧ (0 : Int) ≤ (0 : Int) ∧ (0 : Int) ≤
 (↑(el (el s (0 : Nat)) x_1).len : Int) ∧ ((↑((0 : Nat) + (1 : Nat)) : Int) - (↑(el (el s (0 : Nat)) x_1).len : Int)).NonNeg ∧ (0 : Nat) + (0 : Nat) + (el (el s (0 : Nat)) x_1).len ≤ (List.take (0 :
 Nat) ([] : List D) ++ List.take (1 : Nat) [D.int (-9 : Int)]).length ∧ (0 : Nat) + (1 : Nat) ≤ [D.list (List.take (el (el s (0 : Nat)) x_1).len (List.drop ((0 : Nat) + (0 : Nat)) (List.take (0 : Nat) ([] : List D) ++
 List.take (1 : Nat) [D.int (-9 : Int)])))].length ∧ (0 : Nat) + x_1 ≤ (cpEL (el s (0 : Nat)) x_1).length ∧ x_1 + (1 : Nat) ≤ (16777216 : Nat) ∧ ((-9223372036854775808 : Int) ≤ (↑x_1 : Int) + (1 : Int)
 ∧ (↑x_1 : Int) + (1 : Int) < (9223372036854775808 : Int)) ∧ ((∃ (y : Nat), y = (0 : Nat) ∧ (el s (0 : Nat)).len - y < (el s (0 : Nat)).len - x_1 ∧ ((↑x_1 : Int) + (1 : Int) = (0 : Int) ∧ False ∧ True)
 ∧ True) ∨ ∃ (y : Nat), ((0 : Nat) < y ∧ y ≤ (el s (0 : Nat)).len) ∧ (el s (0 : Nat)).len - y < (el s (0 : Nat)).len - x_1 ∧ ((↑x_1 : Int) + (1 : Int) = (↑y : Int) ∧ ((0 : Nat) = (0 : Nat) ∧ x_1 + (1 :
 Nat) = y ∧ True) ∧ True) ∧ List.take x_1 (cpEL (el s (0 : Nat)) x_1) ++ List.take (1 : Nat) [D.list (List.take (el (el s (0 : Nat)) x_1).len (List.drop ((0 : Nat) + (0 : Nat)) (List.take (0 : Nat) ([] : List D)
 ++ List.take (1 : Nat) [D.int (-9 : Int)])))] = cpEL (el s (0 : Nat)) y ∧ True)) ∧ ((0 : Nat) < (el (el s (0 : Nat)) x_1).len → (0 : Nat) + (0 : Nat) ≤ ([] : List D).length ∧ (0 : Nat) + (el (el s (0
 : Nat)) x_1).len ≤ (16777216 : Nat) ∧ ((0 : Nat) + (el (el s (0 : Nat)) x_1).len ≤ (0 : Nat) → (0 : Nat) + (0 : Nat) + (el (el s (0 : Nat)) x_1).len ≤ ([] : List D).length ∧ (0 : Nat) + (1 : Nat) ≤
 [D.int (-9 : Int)].length ∧ (0 : Nat) + (el (el s (0 : Nat)) x_1).len ≤ (List.take ((0 : Nat) + (0 : Nat)) ([] : List D) ++ (el (el s (0 : Nat)) x_1).asList ++ List.drop ((0 : Nat) + (0 : Nat) + (el (el s (0 :
 Nat)) x_1).len) []).length ∧ (el (el s (0 : Nat)) x_1).len + (1 : Nat) ≤ (16777216 : Nat) ∧ ((el (el s (0 : Nat)) x_1).len + (1 : Nat) ≤ (0 : Nat) → (0 : Nat) + (el (el s (0 : Nat)) x_1).len + (1 :
 Nat) ≤ (List.take ((0 : Nat) + (0 : Nat)) ([] : List D) ++ (el (el s (0 : Nat)) x_1).asList ++ List.drop ((0 : Nat) + (0 : Nat) + (el (el s (0 : Nat)) x_1).len) []).length ∧ (0 : Int) ≤ (0 : Int) ∧ (0 : Int) ≤
 (↑(el (el s (0 : Nat)) x_1).len : Int) ∧ ((↑(0 : Nat) : Int) - (↑(el (el s (0 : Nat)) x_1).len : Int)).NonNeg ∧ (0 : Nat) + (0 : Nat) + (el (el s (0 : Nat)) x_1).len ≤ (List.take ((0 : Nat) + (el (el
 s (0 : Nat)) x_1).len) (List.take ((0 : Nat) + (0 : Nat)) ([] : List D) ++ (el (el s (0 : Nat)) x_1).asList ++ List.drop ((0 : Nat) + (0 : Nat) + (el (el s (0 : Nat)) x_1).len) []) ++ List.take (1 : Nat) [D.int
 (-9 : Int)] ++ List.drop ((0 : Nat) + (el (el s (0 : Nat)) x_1).len + (1 : Nat)) (List.take ((0 : Nat) + (0 : Nat)) ([] : List D) ++ (el (el s (0 : Nat)) x_1).asList ++ List.drop ((0 : Nat) + (0 : Nat) + (el (el
 s (0 : Nat)) x_1).len) [])).length ∧ (0 : Nat) + (1 : Nat) ≤ [D.list (List.take (el (el s (0 : Nat)) x_1).len (List.drop ((0 : Nat) + (0 : Nat)) (List.take ((0 : Nat) + (el (el s (0 : Nat)) x_1).len)
 (List.take ((0 : Nat) + (0 : Nat)) ([] : List D) ++ (el (el s (0 : Nat)) x_1).asList ++ List.drop ((0 : Nat) + (0 : Nat) + (el (el s (0 : Nat)) x_1).len) []) ++ List.take (1 : Nat) [D.int (-9 : Int)] ++
 List.drop ((0 : Nat) + (el (el s (0 : Nat)) x_1).len + (1 : Nat)) (List.take ((0 : Nat) + (0 : Nat)) ([] : List D) ++ (el (el s (0 : Nat)) x_1).asList ++ List.drop ((0 : Nat) + (0 : Nat) + (el (el s (0 : Nat))
 x_1).len) []))))].length ∧ (0 : Nat) + x_1 ≤ (cpEL (el s (0 : Nat)) x_1).length ∧ x_1 + (1 : Nat) ≤ (16777216 : Nat) ∧ ((-9223372036854775808 : Int) ≤ (↑x_1 : Int) + (1 : Int) ∧ (↑x_1 : Int) + (1 :
 Int) < (9223372036854775808 : Int)) ∧ ((∃ (y : Nat), y = (0 : Nat) ∧ (el s (0 : Nat)).len - y < (el s (0 : Nat)).len - x_1 ∧ ((↑x_1 : Int) + (1 : Int) = (0 : Int) ∧ False ∧ True) ∧ True) ∨ ∃ (y :
 Nat), ((0 : Nat) < y ∧ y ≤ (el s (0 : Nat)).len) ∧ (el s (0 : Nat)).len - y < (el s (0 : Nat)).len - x_1 ∧ ((↑x_1 : Int) + (1 : Int) = (↑y : Int) ∧ ((0 : Nat) = (0 : Nat) ∧ x_1 + (1 : Nat) = y ∧ True)
 ∧ True) ∧ List.take x_1 (cpEL (el s (0 : Nat)) x_1) ++ List.take (1 : Nat) [D.list (List.take (el (el s (0 : Nat)) x_1).len (List.drop ((0 : Nat) + (0 : Nat)) (List.take ((0 : Nat) + (el (el s (0 :
 Nat)) x_1).len) (List.take ((0 : Nat) + (0 : Nat)) ([] : List D) ++ (el (el s (0 : Nat)) x_1).asList ++ List.drop ((0 : Nat) + (0 : Nat) + (el (el s (0 : Nat)) x_1).len) []) ++ List.take (1 : Nat) [D.int (-9 :
 Int)] ++ List.drop ((0 : Nat) + (el (el s (0 : Nat)) x_1).len + (1 : Nat)) (List.take ((0 : Nat) + (0 : Nat)) ([] : List D) ++ (el (el s (0 : Nat)) x_1).asList ++ List.drop ((0 : Nat) + (0 : Nat) + (el (el s (0
 : Nat)) x_1).len) []))))] = cpEL (el s (0 : Nat)) y ∧ True)) ∧ ((0 : Nat) < (el (el s (0 : Nat)) x_1).len + (1 : Nat) → (0 : Int) ≤ (0 : Int) ∧ (0 : Int) ≤ (↑(el (el s (0 : Nat)) x_1).len : Int) ∧
 ((↑((el (el s (0 : Nat)) x_1).len + (1 : Nat)) : Int) - (↑(el (el s (0 : Nat)) x_1).len : Int)).NonNeg ∧ (0 : Nat) + (0 : Nat) + (el (el s (0 : Nat)) x_1).len ≤ (List.take (el (el s (0 : Nat))
 x_1).len (List.take ((0 : Nat) + (0 : Nat)) ([] : List D) ++ (el (el s (0 : Nat)) x_1).asList ++ List.drop ((0 : Nat) + (0 : Nat) + (el (el s (0 : Nat)) x_1).len) []) ++ List.take (1 : Nat) [D.int (-9 :
 Int)]).length ∧ (0 : Nat) + (1 : Nat) ≤ [D.list (List.take (el (el s (0 : Nat)) x_1).len (List.drop ((0 : Nat) + (0 : Nat)) (List.take (el (el s (0 : Nat)) x_1).len (List.take ((0 : Nat) + (0 : Nat))
 ([] : List D) ++ (el (el s (0 : Nat)) x_1).asList ++ List.drop ((0 : Nat) + (0 : Nat) + (el (el s (0 : Nat)) x_1).len) []) ++ List.take (1 : Nat) [D.int (-9 : Int)])))].length ∧ (0 : Nat) + x_1 ≤ (cpEL (el s (0
 : Nat)) x_1).length ∧ x_1 + (1 : Nat) ≤ (16777216 : Nat) ∧ ((-9223372036854775808 : Int) ≤ (↑x_1 : Int) + (1 : Int) ∧ (↑x_1 : Int) + (1 : Int) < (9223372036854775808 : Int)) ∧ ((∃ (y : Nat), y = (0 :
 Nat) ∧ (el s (0 : Nat)).len - y < (el s (0 : Nat)).len - x_1 ∧ ((↑x_1 : Int) + (1 : Int) = (0 : Int) ∧ False ∧ True) ∧ True) ∨ ∃ (y : Nat), ((0 : Nat) < y ∧ y ≤ (el s (0 : Nat)).len) ∧ (el s (0 :
 Nat)).len - y < (el s (0 : Nat)).len - x_1 ∧ ((↑x_1 : Int) + (1 : Int) = (↑y : Int) ∧ ((0 : Nat) = (0 : Nat) ∧ x_1 + (1 : Nat) = y ∧ True) ∧ True) ∧ List.take x_1 (cpEL (el s (0 : Nat)) x_1) ++
 List.take (1 : Nat) [D.list (List.take (el (el s (0 : Nat)) x_1).len (List.drop ((0 : Nat) + (0 : Nat)) (List.take (el (el s (0 : Nat)) x_1).len (List.take ((0 : Nat) + (0 : Nat)) ([] : List D) ++ (el (el s (0 :
 Nat)) x_1).asList ++ List.drop ((0 : Nat) + (0 : Nat) + (el (el s (0 : Nat)) x_1).len) []) ++ List.take (1 : Nat) [D.int (-9 : Int)])))] = cpEL (el s (0 : Nat)) y ∧ True))) ∧ ((0 : Nat) < (0 : Nat) +
 (el (el s (0 : Nat)) x_1).len → (0 : Nat) + (1 : Nat) ≤ [D.int (-9 : Int)].length ∧ (0 : Nat) + (el (el s (0 : Nat)) x_1).len ≤ (List.take (0 : Nat) ([] : List D) ++ (el (el s (0 : Nat)) x_1).asList).length ∧
 (el (el s (0 : Nat)) x_1).len + (1 : Nat) ≤ (16777216 : Nat) ∧ (0 : Int) ≤ (0 : Int) ∧ (0 : Int) ≤ (↑(el (el s (0 : Nat)) x_1).len : Int) ∧ ((↑((el (el s (0 : Nat)) x_1).len + (1 : Nat)) : Int) -
 (↑(el (el s (0 : Nat)) x_1).len : Int)).NonNeg ∧ (0 : Nat) + (0 : Nat) + (el (el s (0 : Nat)) x_1).len ≤ (List.take (el (el s (0 : Nat)) x_1).len (List.take (0 : Nat) ([] : List D) ++ (el (el s (0 : Nat))
 x_1).asList) ++ List.take (1 : Nat) [D.int (-9 : Int)]).length ∧ (0 : Nat) + (1 : Nat) ≤ [D.list (List.take (el (el s (0 : Nat)) x_1).len (List.drop ((0 : Nat) + (0 : Nat)) (List.take (el (el s (0 :
 Nat)) x_1).len (List.take (0 : Nat) ([] : List D) ++ (el (el s (0 : Nat)) x_1).asList) ++ List.take (1 : Nat) [D.int (-9 : Int)])))].length ∧ (0 : Nat) + x_1 ≤ (cpEL (el s (0 : Nat)) x_1).length ∧ x_1 + (1 :
 Nat) ≤ (16777216 : Nat) ∧ ((-9223372036854775808 : Int) ≤ (↑x_1 : Int) + (1 : Int) ∧ (↑x_1 : Int) + (1 : Int) < (9223372036854775808 : Int)) ∧ ((∃ (y : Nat), y = (0 : Nat) ∧ (el s (0 : Nat)).len - y <
 (el s (0 : Nat)).len - x_1 ∧ ((↑x_1 : Int) + (1 : Int) = (0 : Int) ∧ False ∧ True) ∧ True) ∨ ∃ (y : Nat), ((0 : Nat) < y ∧ y ≤ (el s (0 : Nat)).len) ∧ (el s (0 : Nat)).len - y < (el s (0 : Nat)).len -
 x_1 ∧ ((↑x_1 : Int) + (1 : Int) = (↑y : Int) ∧ ((0 : Nat) = (0 : Nat) ∧ x_1 + (1 : Nat) = y ∧ True) ∧ True) ∧ List.take x_1 (cpEL (el s (0 : Nat)) x_1) ++ List.take (1 : Nat) [D.list (List.take (el
 (el s (0 : Nat)) x_1).len (List.drop ((0 : Nat) + (0 : Nat)) (List.take (el (el s (0 : Nat)) x_1).len (List.take (0 : Nat) ([] : List D) ++ (el (el s (0 : Nat)) x_1).asList) ++ List.take (1 : Nat) [D.int (-9 :
 Int)])))] = cpEL (el s (0 : Nat)) y ∧ True))))) ∧ (((↑x_1 : Int) < (↑(el s (0 : Nat)).len : Int) → False) → (0 : Nat) + x_1 ≤ (cpEL (el s (0 : Nat)) x_1).length ∧ (0 : Nat) + (1 : Nat) ≤ [D.list
 (List.take x_1 (cpEL (el s (0 : Nat)) x_1))].length ∧ (1 : Nat) ≤ (16777216 : Nat) ∧ ((-9223372036854775808 : Int) ≤ (0 : Int) + (1 : Int) ∧ (0 : Int) + (1 : Int) < (9223372036854775808 : Int)) ∧ ((∃
 (y : Nat), y = (0 : Nat) ∧ s.len - y < s.len - x ∧ ((0 : Int) + (1 : Int) = (0 : Int) ∧ False ∧ True) ∧ True) ∨ ∃ (y : Nat), ((0 : Nat) < y ∧ y ≤ s.len) ∧ s.len - y < s.len - x ∧ ((0 : Int) + (1 :
 Int) = (↑y : Int) ∧ ((0 : Nat) = (0 : Nat) ∧ (1 : Nat) = y ∧ True) ∧ True) ∧ List.take (1 : Nat) [D.list (List.take x_1 (cpEL (el s (0 : Nat)) x_1))] = cpSL s y ∧ True))) ∧ (((0 : Int) < (↑s.len :
 Int) → False) → D.nil = cpS s)) ∧ ∀ (x : Nat), (0 : Nat) < x ∧ x ≤ s.len → s.len - x < LIM ∧ ((↑x : Int) < (↑s.len : Int) → (0 : Int) ≤ (↑x : Int) ∧ (↑x : Int) < (↑s.len : Int) ∧ ((∃ (x : Nat), x = (0
 : Nat) ∧ ((0 : Int) = (0 : Int) ∧ True ∧ True) ∧ True) ∨ ∃ (x_1 : Nat), ((0 : Nat) < x_1 ∧ x_1 ≤ (el s x).len) ∧ ((0 : Int) = (↑x_1 : Int) ∧ False ∧ True) ∧ False ∧ True) ∧ (∀ (x_1 : Nat), x_1 = (0 :
 Nat) → (el s x).len - x_1 < LIM ∧ ((0 : Int) < (↑(el s x).len : Int) → (0 : Int) ≤ (0 : Int) ∧ (0 : Int) < (↑(el s x).len : Int) ∧ ((el (el s x) (0 : Nat)).isNil → (0 : Nat) + (1 : Nat) ≤ [D.int (-9 :
 Int)].length ∧ (1 : Nat) ≤ (16777216 : Nat) ∧ (0 : Int) ≤ (0 : Int) ∧ (0 : Int) ≤ (↑(el (el s x) (0 : Nat)).len : Int) ∧ ((↑(1 : Nat) : Int) - (↑(el (el s x) (0 : Nat)).len : Int)).NonNeg ∧ (0 : Nat)
 + (0 : Nat) + (el (el s x) (0 : Nat)).len ≤ (List.take (1 : Nat) [D.int (-9 : Int)]).length ∧ (0 : Nat) + (1 : Nat) ≤ [D.list (List.take (el (el s x) (0 : Nat)).len (List.drop ((0 : Nat) + (0 : Nat))
 (List.take (1 : Nat) [D.int (-9 : Int)])))].length ∧ (1 : Nat) ≤ (16777216 : Nat) ∧ ((-9223372036854775808 : Int) ≤ (0 : Int) + (1 : Int) ∧ (0 : Int) + (1 : Int) < (9223372036854775808 : Int)) ∧ ((∃
 (y : Nat), y = (0 : Nat) ∧ (el s x).len - y < (el s x).len - x_1 ∧ ((0 : Int) + (1 : Int) = (0 : Int) ∧ False ∧ True) ∧ True) ∨ ∃ (y : Nat), ((0 : Nat) < y ∧ y ≤ (el s x).len) ∧ (el s x).len - y < (el
 s x).len - x_1 ∧ ((0 : Int) + (1 : Int) = (↑y : Int) ∧ ((0 : Nat) = (0 : Nat) ∧ (1 : Nat) = y ∧ True) ∧ True) ∧ List.take (1 : Nat) [D.list (List.take (el (el s x) (0 : Nat)).len (List.drop ((0 : Nat)
 + (0 : Nat)) (List.take (1 : Nat) [D.int (-9 : Int)])))] = cpEL (el s x) y ∧ True)) ∧ (((el (el s x) (0 : Nat)).isNil → False) → ((el (el s x) (0 : Nat)).len = (0 : Nat) → (0 : Nat) + (1 : Nat) ≤
 [D.int (-9 : Int)].length ∧ (0 : Nat) + (0 : Nat) ≤ ([] : List D).length ∧ (0 : Nat) + (1 : Nat) ≤ (16777216 : Nat) ∧ (0 : Int) ≤ (0 : Int) ∧ (0 : Int) ≤ (↑(el (el s x) (0 : Nat)).len : Int) ∧ ((↑((0
 : Nat) + (1 : Nat)) : Int) - (↑(el (el s x) (0 : Nat)).len : Int)).NonNeg ∧ (0 : Nat) + (0 : Nat) + (el (el s x) (0 : Nat)).len ≤ (List.take (0 : Nat) ([] : List D) ++ List.take (1 : Nat) [D.int (-9 :
 Int)]).length ∧ (0 : Nat) + (1 : Nat) ≤ [D.list (List.take (el (el s x) (0 : Nat)).len (List.drop ((0 : Nat) + (0 : Nat)) (List.take (0 : Nat) ([] : List D) ++ List.take (1 : Nat) [D.int (-9 : Int)])))].length ∧
 (1 : Nat) ≤ (16777216 : Nat) ∧ ((-9223372036854775808 : Int) ≤ (0 : Int) + (1 : Int) ∧ (0 : Int) + (1 : Int) < (9223372036854775808 : Int)) ∧ ((∃ (y : Nat), y = (0 : Nat) ∧ (el s x).len - y < (el s
 x).len - x_1 ∧ ((0 : Int) + (1 : Int) = (0 : Int) ∧ False ∧ True) ∧ True) ∨ ∃ (y : Nat), ((0 : Nat) < y ∧ y ≤ (el s x).len) ∧ (el s x).len - y < (el s x).len - x_1 ∧ ((0 : Int) + (1 : Int) = (↑y :
 Int) ∧ ((0 : Nat) = (0 : Nat) ∧ (1 : Nat) = y ∧ True) ∧ True) ∧ List.take (1 : Nat) [D.list (List.take (el (el s x) (0 : Nat)).len (List.drop ((0 : Nat) + (0 : Nat)) (List.take (0 : Nat) ([] : List D) ++
 List.take (1 : Nat) [D.int (-9 : Int)])))] = cpEL (el s x) y ∧ True)) ∧ ((0 : Nat) < (el (el s x) (0 : Nat)).len → (0 : Nat) + (0 : Nat) ≤ ([] : List D).length ∧ (0 : Nat) + (el (el s x) (0 :
 Nat)).len ≤ (16777216 : Nat) ∧ ((0 : Nat) + (el (el s x) (0 : Nat)).len ≤ (0 : Nat) → (0 : Nat) + (0 : Nat) + (el (el s x) (0 : Nat)).len ≤ ([] : List D).length ∧ (0 : Nat) + (1 : Nat) ≤ [D.int (-9 :
 Int)].length ∧ (0 : Nat) + (el (el s x) (0 : Nat)).len ≤ (List.take ((0 : Nat) + (0 : Nat)) ([] : List D) ++ (el (el s x) (0 : Nat)).asList ++ List.drop ((0 : Nat) + (0 : Nat) + (el (el s x) (0 : Nat)).len)
 []).length ∧ (el (el s x) (0 : Nat)).len + (1 : Nat) ≤ (16777216 : Nat) ∧ ((el (el s x) (0 : Nat)).len + (1 : Nat) ≤ (0 : Nat) → (0 : Nat) + (el (el s x) (0 : Nat)).len + (1 : Nat) ≤ (List.take ((0 :
 Nat) + (0 : Nat)) ([] : List D) ++ (el (el s x) (0 : Nat)).asList ++ List.drop ((0 : Nat) + (0 : Nat) + (el (el s x) (0 : Nat)).len) []).length ∧ (0 : Int) ≤ (0 : Int) ∧ (0 : Int) ≤ (↑(el (el s x) (0 : Nat)).len
 : Int) ∧ ((↑(0 : Nat) : Int) - (↑(el (el s x) (0 : Nat)).len : Int)).NonNeg ∧ (0 : Nat) + (0 : Nat) + (el (el s x) (0 : Nat)).len ≤ (List.take ((0 : Nat) + (el (el s x) (0 : Nat)).len) (List.take ((0
 : Nat) + (0 : Nat)) ([] : List D) ++ (el (el s x) (0 : Nat)).asList ++ List.drop ((0 : Nat) + (0 : Nat) + (el (el s x) (0 : Nat)).len) []) ++ List.take (1 : Nat) [D.int (-9 : Int)] ++ List.drop ((0 : Nat) + (el
 (el s x) (0 : Nat)).len + (1 : Nat)) (List.take ((0 : Nat) + (0 : Nat)) ([] : List D) ++ (el (el s x) (0 : Nat)).asList ++ List.drop ((0 : Nat) + (0 : Nat) + (el (el s x) (0 : Nat)).len) [])).length ∧ (0 : Nat)
 + (1 : Nat) ≤ [D.list (List.take (el (el s x) (0 : Nat)).len (List.drop ((0 : Nat) + (0 : Nat)) (List.take ((0 : Nat) + (el (el s x) (0 : Nat)).len) (List.take ((0 : Nat) + (0 : Nat)) ([] : List D) ++ (el (el s
 x) (0 : Nat)).asList ++ List.drop ((0 : Nat) + (0 : Nat) + (el (el s x) (0 : Nat)).len) []) ++ List.take (1 : Nat) [D.int (-9 : Int)] ++ List.drop ((0 : Nat) + (el (el s x) (0 : Nat)).len + (1 : Nat))
 (List.take ((0 : Nat) + (0 : Nat)) ([] : List D) ++ (el (el s x) (0 : Nat)).asList ++ List.drop ((0 : Nat) + (0 : Nat) + (el (el s x) (0 : Nat)).len) []))))].length ∧ (1 : Nat) ≤ (16777216 : Nat) ∧
 ((-9223372036854775808 : Int) ≤ (0 : Int) + (1 : Int) ∧ (0 : Int) + (1 : Int) < (9223372036854775808 : Int)) ∧ ((∃ (y : Nat), y = (0 : Nat) ∧ (el s x).len - y < (el s x).len - x_1 ∧ ((0 : Int) + (1 :
 Int) = (0 : Int) ∧ False ∧ True) ∧ True) ∨ ∃ (y : Nat), ((0 : Nat) < y ∧ y ≤ (el s x).len) ∧ (el s x).len - y < (el s x).len - x_1 ∧ ((0 : Int) + (1 : Int) = (↑y : Int) ∧ ((0 : Nat) = (0 : Nat) ∧ (1 :
 Nat) = y ∧ True) ∧ True) ∧ List.take (1 : Nat) [D.list (List.take (el (el s x) (0 : Nat)).len (List.drop ((0 : Nat) + (0 : Nat)) (List.take ((0 : Nat) + (el (el s x) (0 : Nat)).len) (List.take ((0 :
 Nat) + (0 : Nat)) ([] : List D) ++ (el (el s x) (0 : Nat)).asList ++ List.drop ((0 : Nat) + (0 : Nat) + (el (el s x) (0 : Nat)).len) []) ++ List.take (1 : Nat) [D.int (-9 : Int)] ++ List.drop ((0 : Nat) + (el
 (el s x) (0 : Nat)).len + (1 : Nat)) (List.take ((0 : Nat) + (0 : Nat)) ([] : List D) ++ (el (el s x) (0 : Nat)).asList ++ List.drop ((0 : Nat) + (0 : Nat) + (el (el s x) (0 : Nat)).len) []))))] = cpEL (el s x)
 y ∧ True)) ∧ ((0 : Nat) < (el (el s x) (0 : Nat)).len + (1 : Nat) → (0 : Int) ≤ (0 : Int) ∧ (0 : Int) ≤ (↑(el (el s x) (0 : Nat)).len : Int) ∧ ((↑((el (el s x) (0 : Nat)).len + (1 : Nat)) : Int) -
 (↑(el (el s x) (0 : Nat)).len : Int)).NonNeg ∧ (0 : Nat) + (0 : Nat) + (el (el s x) (0 : Nat)).len ≤ (List.take (el (el s x) (0 : Nat)).len (List.take ((0 : Nat) + (0 : Nat)) ([] : List D) ++ (el (el s x) (0 :
 Nat)).asList ++ List.drop ((0 : Nat) + (0 : Nat) + (el (el s x) (0 : Nat)).len) []) ++ List.take (1 : Nat) [D.int (-9 : Int)]).length ∧ (0 : Nat) + (1 : Nat) ≤ [D.list (List.take (el (el s x) (0 :
 Nat)).len (List.drop ((0 : Nat) + (0 : Nat)) (List.take (el (el s x) (0 : Nat)).len (List.take ((0 : Nat) + (0 : Nat)) ([] : List D) ++ (el (el s x) (0 : Nat)).asList ++ List.drop ((0 : Nat) + (0 : Nat) + (el
 (el s x) (0 : Nat)).len) []) ++ List.take (1 : Nat) [D.int (-9 : Int)])))].length ∧ (1 : Nat) ≤ (16777216 : Nat) ∧ ((-9223372036854775808 : Int) ≤ (0 : Int) + (1 : Int) ∧ (0 : Int) + (1 : Int) <
 (9223372036854775808 : Int)) ∧ ((∃ (y : Nat), y = (0 : Nat) ∧ (el s x).len - y < (el s x).len - x_1 ∧ ((0 : Int) + (1 : Int) = (0 : Int) ∧ False ∧ True) ∧ True) ∨ ∃ (y : Nat), ((0 : Nat) < y ∧ y ≤ (el
 s x).len) ∧ (el s x).len - y < (el s x).len - x_1 ∧ ((0 : Int) + (1 : Int) = (↑y : Int) ∧ ((0 : Nat) = (0 : Nat) ∧ (1 : Nat) = y ∧ True) ∧ True) ∧ List.take (1 : Nat) [D.list (List.take (el (el s x)
 (0 : Nat)).len (List.drop ((0 : Nat) + (0 : Nat)) (List.take (el (el s x) (0 : Nat)).len (List.take ((0 : Nat) + (0 : Nat)) ([] : List D) ++ (el (el s x) (0 : Nat)).asList ++ List.drop ((0 : Nat) + (0 : Nat) +
 (el (el s x) (0 : Nat)).len) []) ++ List.take (1 : Nat) [D.int (-9 : Int)])))] = cpEL (el s x) y ∧ True))) ∧ ((0 : Nat) < (0 : Nat) + (el (el s x) (0 : Nat)).len → (0 : Nat) + (1 : Nat) ≤ [D.int (-9 :
 Int)].length ∧ (0 : Nat) + (el (el s x) (0 : Nat)).len ≤ (List.take (0 : Nat) ([] : List D) ++ (el (el s x) (0 : Nat)).asList).length ∧ (el (el s x) (0 : Nat)).len + (1 : Nat) ≤ (16777216 : Nat) ∧ (0 : Int) ≤ (0
 : Int) ∧ (0 : Int) ≤ (↑(el (el s x) (0 : Nat)).len : Int) ∧ ((↑((el (el s x) (0 : Nat)).len + (1 : Nat)) : Int) - (↑(el (el s x) (0 : Nat)).len : Int)).NonNeg ∧ (0 : Nat) + (0 : Nat) + (el (el s x) (0
 : Nat)).len ≤ (List.take (el (el s x) (0 : Nat)).len (List.take (0 : Nat) ([] : List D) ++ (el (el s x) (0 : Nat)).asList) ++ List.take (1 : Nat) [D.int (-9 : Int)]).length ∧ (0 : Nat) + (1 : Nat) ≤ [D.list
 (List.take (el (el s x) (0 : Nat)).len (List.drop ((0 : Nat) + (0 : Nat)) (List.take (el (el s x) (0 : Nat)).len (List.take (0 : Nat) ([] : List D) ++ (el (el s x) (0 : Nat)).asList) ++ List.take (1 : Nat)
 [D.int (-9 : Int)])))].length ∧ (1 : Nat) ≤ (16777216 : Nat) ∧ ((-9223372036854775808 : Int) ≤ (0 : Int) + (1 : Int) ∧ (0 : Int) + (1 : Int) < (9223372036854775808 : Int)) ∧ ((∃ (y : Nat), y = (0 :
 Nat) ∧ (el s x).len - y < (el s x).len - x_1 ∧ ((0 : Int) + (1 : Int) = (0 : Int) ∧ False ∧ True) ∧ True) ∨ ∃ (y : Nat), ((0 : Nat) < y ∧ y ≤ (el s x).len) ∧ (el s x).len - y < (el s x).len - x_1 ∧
 ((0 : Int) + (1 : Int) = (↑y : Int) ∧ ((0 : Nat) = (0 : Nat) ∧ (1 : Nat) = y ∧ True) ∧ True) ∧ List.take (1 : Nat) [D.list (List.take (el (el s x) (0 : Nat)).len (List.drop ((0 : Nat) + (0 : Nat))
 (List.take (el (el s x) (0 : Nat)).len (List.take (0 : Nat) ([] : List D) ++ (el (el s x) (0 : Nat)).asList) ++ List.take (1 : Nat) [D.int (-9 : Int)])))] = cpEL (el s x) y ∧ True))))) ∧ (((0 : Int) < (↑(el s
 x).len : Int) → False) → (0 : Nat) + (1 : Nat) ≤ [D.nil].length ∧ (0 : Nat) + x ≤ (cpSL s x).length ∧ x + (1 : Nat) ≤ (16777216 : Nat) ∧ ((-9223372036854775808 : Int) ≤ (↑x : Int) + (1 : Int) ∧ (↑x :
 Int) + (1 : Int) < (9223372036854775808 : Int)) ∧ ((∃ (y : Nat), y = (0 : Nat) ∧ s.len - y < s.len - x ∧ ((↑x : Int) + (1 : Int) = (0 : Int) ∧ False ∧ True) ∧ True) ∨ ∃ (y : Nat), ((0 : Nat) < y ∧ y ≤
 s.len) ∧ s.len - y < s.len - x ∧ ((↑x : Int) + (1 : Int) = (↑y : Int) ∧ ((0 : Nat) = (0 : Nat) ∧ x + (1 : Nat) = y ∧ True) ∧ True) ∧ List.take x (cpSL s x) ++ List.take (1 : Nat) [D.nil] = cpSL s y ∧
 True))) ∧ ∀ (x_1 : Nat), (0 : Nat) < x_1 ∧ x_1 ≤ (el s x).len → (el s x).len - x_1 < LIM ∧ ((↑x_1 : Int) < (↑(el s x).len : Int) → (0 : Int) ≤ (↑x_1 : Int) ∧ (↑x_1 : Int) < (↑(el s x).len : Int) ∧
 ((el (el s x) x_1).isNil → (0 : Nat) + (1 : Nat) ≤ [D.int (-9 : Int)].length ∧ (1 : Nat) ≤ (16777216 : Nat) ∧ (0 : Int) ≤ (0 : Int) ∧ (0 : Int) ≤ (↑(el (el s x) x_1).len : Int) ∧ ((↑(1 : Nat) : Int) -
 (↑(el (el s x) x_1).len : Int)).NonNeg ∧ (0 : Nat) + (0 : Nat) + (el (el s x) x_1).len ≤ (List.take (1 : Nat) [D.int (-9 : Int)]).length ∧ (0 : Nat) + (1 : Nat) ≤ [D.list (List.take (el (el s x)
 x_1).len (List.drop ((0 : Nat) + (0 : Nat)) (List.take (1 : Nat) [D.int (-9 : Int)])))].length ∧ (0 : Nat) + x_1 ≤ (cpEL (el s x) x_1).length ∧ x_1 + (1 : Nat) ≤ (16777216 : Nat) ∧
 ((-9223372036854775808 : Int) ≤ (↑x_1 : Int) + (1 : Int) ∧ (↑x_1 : Int) + (1 : Int) < (9223372036854775808 : Int)) ∧ ((∃ (y : Nat), y = (0 : Nat) ∧ (el s x).len - y < (el s x).len - x_1 ∧ ((↑x_1 :
 Int) + (1 : Int) = (0 : Int) ∧ False ∧ True) ∧ True) ∨ ∃ (y : Nat), ((0 : Nat) < y ∧ y ≤ (el s x).len) ∧ (el s x).len - y < (el s x).len - x_1 ∧ ((↑x_1 : Int) + (1 : Int) = (↑y : Int) ∧ ((0 : Nat) =
 (0 : Nat) ∧ x_1 + (1 : Nat) = y ∧ True) ∧ True) ∧ List.take x_1 (cpEL (el s x) x_1) ++ List.take (1 : Nat) [D.list (List.take (el (el s x) x_1).len (List.drop ((0 : Nat) + (0 : Nat)) (List.take (1 :
 Nat) [D.int (-9 : Int)])))] = cpEL (el s x) y ∧ True)) ∧ (((el (el s x) x_1).isNil → False) → ((el (el s x) x_1).len = (0 : Nat) → (0 : Nat) + (1 : Nat) ≤ [D.int (-9 : Int)].length ∧ (0 : Nat) + (0 :
 Nat) ≤ ([] : List D).length ∧ (0 : Nat) + (1 : Nat) ≤ (16777216 : Nat) ∧ (0 : Int) ≤ (0 : Int) ∧ (0 : Int) ≤ (↑(el (el s x) x_1).len : Int) ∧ ((↑((0 : Nat) + (1 : Nat)) : Int) - (↑(el (el s x)
 x_1).len : Int)).NonNeg ∧ (0 : Nat) + (0 : Nat) + (el (el s x) x_1).len ≤ (List.take (0 : Nat) ([] : List D) ++ List.take (1 : Nat) [D.int (-9 : Int)]).length ∧ (0 : Nat) + (1 : Nat) ≤ [D.list (List.take (el (el
 s x) x_1).len (List.drop ((0 : Nat) + (0 : Nat)) (List.take (0 : Nat) ([] : List D) ++ List.take (1 : Nat) [D.int (-9 : Int)])))].length ∧ (0 : Nat) + x_1 ≤ (cpEL (el s x) x_1).length ∧ x_1 + (1 : Nat) ≤
 (16777216 : Nat) ∧ ((-9223372036854775808 : Int) ≤ (↑x_1 : Int) + (1 : Int) ∧ (↑x_1 : Int) + (1 : Int) < (9223372036854775808 : Int)) ∧ ((∃ (y : Nat), y = (0 : Nat) ∧ (el s x).len - y < (el s x).len -
 x_1 ∧ ((↑x_1 : Int) + (1 : Int) = (0 : Int) ∧ False ∧ True) ∧ True) ∨ ∃ (y : Nat), ((0 : Nat) < y ∧ y ≤ (el s x).len) ∧ (el s x).len - y < (el s x).len - x_1 ∧ ((↑x_1 : Int) + (1 : Int) = (↑y : Int) ∧
 ((0 : Nat) = (0 : Nat) ∧ x_1 + (1 : Nat) = y ∧ True) ∧ True) ∧ List.take x_1 (cpEL (el s x) x_1) ++ List.take (1 : Nat) [D.list (List.take (el (el s x) x_1).len (List.drop ((0 : Nat) + (0 : Nat))
 (List.take (0 : Nat) ([] : List D) ++ List.take (1 : Nat) [D.int (-9 : Int)])))] = cpEL (el s x) y ∧ True)) ∧ ((0 : Nat) < (el (el s x) x_1).len → (0 : Nat) + (0 : Nat) ≤ ([] : List D).length ∧ (0 : Nat) + (el
 (el s x) x_1).len ≤ (16777216 : Nat) ∧ ((0 : Nat) + (el (el s x) x_1).len ≤ (0 : Nat) → (0 : Nat) + (0 : Nat) + (el (el s x) x_1).len ≤ ([] : List D).length ∧ (0 : Nat) + (1 : Nat) ≤ [D.int (-9 :
 Int)].length ∧ (0 : Nat) + (el (el s x) x_1).len ≤ (List.take ((0 : Nat) + (0 : Nat)) ([] : List D) ++ (el (el s x) x_1).asList ++ List.drop ((0 : Nat) + (0 : Nat) + (el (el s x) x_1).len) []).length ∧ (el (el s
 x) x_1).len + (1 : Nat) ≤ (16777216 : Nat) ∧ ((el (el s x) x_1).len + (1 : Nat) ≤ (0 : Nat) → (0 : Nat) + (el (el s x) x_1).len + (1 : Nat) ≤ (List.take ((0 : Nat) + (0 : Nat)) ([] : List D) ++ (el (el s x)
 x_1).asList ++ List.drop ((0 : Nat) + (0 : Nat) + (el (el s x) x_1).len) []).length ∧ (0 : Int) ≤ (0 : Int) ∧ (0 : Int) ≤ (↑(el (el s x) x_1).len : Int) ∧ ((↑(0 : Nat) : Int) - (↑(el (el s x) x_1).len
 : Int)).NonNeg ∧ (0 : Nat) + (0 : Nat) + (el (el s x) x_1).len ≤ (List.take ((0 : Nat) + (el (el s x) x_1).len) (List.take ((0 : Nat) + (0 : Nat)) ([] : List D) ++ (el (el s x) x_1).asList ++ List.drop ((0 :
 Nat) + (0 : Nat) + (el (el s x) x_1).len) []) ++ List.take (1 : Nat) [D.int (-9 : Int)] ++ List.drop ((0 : Nat) + (el (el s x) x_1).len + (1 : Nat)) (List.take ((0 : Nat) + (0 : Nat)) ([] : List D) ++ (el (el s
 x) x_1).asList ++ List.drop ((0 : Nat) + (0 : Nat) + (el (el s x) x_1).len) [])).length ∧ (0 : Nat) + (1 : Nat) ≤ [D.list (List.take (el (el s x) x_1).len (List.drop ((0 : Nat) + (0 : Nat)) (List.take
 ((0 : Nat) + (el (el s x) x_1).len) (List.take ((0 : Nat) + (0 : Nat)) ([] : List D) ++ (el (el s x) x_1).asList ++ List.drop ((0 : Nat) + (0 : Nat) + (el (el s x) x_1).len) []) ++ List.take (1 : Nat) [D.int (-9
 : Int)] ++ List.drop ((0 : Nat) + (el (el s x) x_1).len + (1 : Nat)) (List.take ((0 : Nat) + (0 : Nat)) ([] : List D) ++ (el (el s x) x_1).asList ++ List.drop ((0 : Nat) + (0 : Nat) + (el (el s x) x_1).len)
 []))))].length ∧ (0 : Nat) + x_1 ≤ (cpEL (el s x) x_1).length ∧ x_1 + (1 : Nat) ≤ (16777216 : Nat) ∧ ((-9223372036854775808 : Int) ≤ (↑x_1 : Int) + (1 : Int) ∧ (↑x_1 : Int) + (1 : Int) <
 (9223372036854775808 : Int)) ∧ ((∃ (y : Nat), y = (0 : Nat) ∧ (el s x).len - y < (el s x).len - x_1 ∧ ((↑x_1 : Int) + (1 : Int) = (0 : Int) ∧ False ∧ True) ∧ True) ∨ ∃ (y : Nat), ((0 : Nat) < y ∧ y ≤
 (el s x).len) ∧ (el s x).len - y < (el s x).len - x_1 ∧ ((↑x_1 : Int) + (1 : Int) = (↑y : Int) ∧ ((0 : Nat) = (0 : Nat) ∧ x_1 + (1 : Nat) = y ∧ True) ∧ True) ∧ List.take x_1 (cpEL (el s x) x_1) ++
 List.take (1 : Nat) [D.list (List.take (el (el s x) x_1).len (List.drop ((0 : Nat) + (0 : Nat)) (List.take ((0 : Nat) + (el (el s x) x_1).len) (List.take ((0 : Nat) + (0 : Nat)) ([] : List D) ++ (el (el s x)
 x_1).asList ++ List.drop ((0 : Nat) + (0 : Nat) + (el (el s x) x_1).len) []) ++ List.take (1 : Nat) [D.int (-9 : Int)] ++ List.drop ((0 : Nat) + (el (el s x) x_1).len + (1 : Nat)) (List.take ((0 :
 Nat) + (0 : Nat)) ([] : List D) ++ (el (el s x) x_1).asList ++ List.drop ((0 : Nat) + (0 : Nat) + (el (el s x) x_1).len) []))))] = cpEL (el s x) y ∧ True)) ∧ ((0 : Nat) < (el (el s x) x_1).len + (1 : Nat) → (0 :
 Int) ≤ (0 : Int) ∧ (0 : Int) ≤ (↑(el (el s x) x_1).len : Int) ∧ ((↑((el (el s x) x_1).len + (1 : Nat)) : Int) - (↑(el (el s x) x_1).len : Int)).NonNeg ∧ (0 : Nat) + (0 : Nat) + (el (el s x) x_1).len ≤
 (List.take (el (el s x) x_1).len (List.take ((0 : Nat) + (0 : Nat)) ([] : List D) ++ (el (el s x) x_1).asList ++ List.drop ((0 : Nat) + (0 : Nat) + (el (el s x) x_1).len) []) ++ List.take (1 : Nat) [D.int (-9 :
 Int)]).length ∧ (0 : Nat) + (1 : Nat) ≤ [D.list (List.take (el (el s x) x_1).len (List.drop ((0 : Nat) + (0 : Nat)) (List.take (el (el s x) x_1).len (List.take ((0 : Nat) + (0 : Nat)) ([] : List D) ++ (el (el s
 x) x_1).asList ++ List.drop ((0 : Nat) + (0 : Nat) + (el (el s x) x_1).len) []) ++ List.take (1 : Nat) [D.int (-9 : Int)])))].length ∧ (0 : Nat) + x_1 ≤ (cpEL (el s x) x_1).length ∧ x_1 + (1 : Nat) ≤
 (16777216 : Nat) ∧ ((-9223372036854775808 : Int) ≤ (↑x_1 : Int) + (1 : Int) ∧ (↑x_1 : Int) + (1 : Int) < (9223372036854775808 : Int)) ∧ ((∃ (y : Nat), y = (0 : Nat) ∧ (el s x).len - y < (el s x).len -
 x_1 ∧ ((↑x_1 : Int) + (1 : Int) = (0 : Int) ∧ False ∧ True) ∧ True) ∨ ∃ (y : Nat), ((0 : Nat) < y ∧ y ≤ (el s x).len) ∧ (el s x).len - y < (el s x).len - x_1 ∧ ((↑x_1 : Int) + (1 : Int) = (↑y : Int) ∧
 ((0 : Nat) = (0 : Nat) ∧ x_1 + (1 : Nat) = y ∧ True) ∧ True) ∧ List.take x_1 (cpEL (el s x) x_1) ++ List.take (1 : Nat) [D.list (List.take (el (el s x) x_1).len (List.drop ((0 : Nat) + (0 : Nat))
 (List.take (el (el s x) x_1).len (List.take ((0 : Nat) + (0 : Nat)) ([] : List D) ++ (el (el s x) x_1).asList ++ List.drop ((0 : Nat) + (0 : Nat) + (el (el s x) x_1).len) []) ++ List.take (1 : Nat) [D.int (-9 :
 Int)])))] = cpEL (el s x) y ∧ True))) ∧ ((0 : Nat) < (0 : Nat) + (el (el s x) x_1).len → (0 : Nat) + (1 : Nat) ≤ [D.int (-9 : Int)].length ∧ (0 : Nat) + (el (el s x) x_1).len ≤ (List.take (0 : Nat) ([] : List D)
 ++ (el (el s x) x_1).asList).length ∧ (el (el s x) x_1).len + (1 : Nat) ≤ (16777216 : Nat) ∧ (0 : Int) ≤ (0 : Int) ∧ (0 : Int) ≤ (↑(el (el s x) x_1).len : Int) ∧ ((↑((el (el s x) x_1).len + (1 : Nat))
 : Int) - (↑(el (el s x) x_1).len : Int)).NonNeg ∧ (0 : Nat) + (0 : Nat) + (el (el s x) x_1).len ≤ (List.take (el (el s x) x_1).len (List.take (0 : Nat) ([] : List D) ++ (el (el s x) x_1).asList) ++ List.take (1
 : Nat) [D.int (-9 : Int)]).length ∧ (0 : Nat) + (1 : Nat) ≤ [D.list (List.take (el (el s x) x_1).len (List.drop ((0 : Nat) + (0 : Nat)) (List.take (el (el s x) x_1).len (List.take (0 : Nat) ([] : List D) ++ (el
 (el s x) x_1).asList) ++ List.take (1 : Nat) [D.int (-9 : Int)])))].length ∧ (0 : Nat) + x_1 ≤ (cpEL (el s x) x_1).length ∧ x_1 + (1 : Nat) ≤ (16777216 : Nat) ∧ ((-9223372036854775808 : Int) ≤ (↑x_1 :
 Int) + (1 : Int) ∧ (↑x_1 : Int) + (1 : Int) < (9223372036854775808 : Int)) ∧ ((∃ (y : Nat), y = (0 : Nat) ∧ (el s x).len - y < (el s x).len - x_1 ∧ ((↑x_1 : Int) + (1 : Int) = (0 : Int) ∧ False ∧
 True) ∧ True) ∨ ∃ (y : Nat), ((0 : Nat) < y ∧ y ≤ (el s x).len) ∧ (el s x).len - y < (el s x).len - x_1 ∧ ((↑x_1 : Int) + (1 : Int) = (↑y : Int) ∧ ((0 : Nat) = (0 : Nat) ∧ x_1 + (1 : Nat) = y ∧ True)
 ∧ True) ∧ List.take x_1 (cpEL (el s x) x_1) ++ List.take (1 : Nat) [D.list (List.take (el (el s x) x_1).len (List.drop ((0 : Nat) + (0 : Nat)) (List.take (el (el s x) x_1).len (List.take (0 : Nat) ([] : List D)
 ++ (el (el s x) x_1).asList) ++ List.take (1 : Nat) [D.int (-9 : Int)])))] = cpEL (el s x) y ∧ True))))) ∧ (((↑x_1 : Int) < (↑(el s x).len : Int) → False) → (0 : Nat) + x_1 ≤ (cpEL (el s x)
 x_1).length ∧ (0 : Nat) + (1 : Nat) ≤ [D.list (List.take x_1 (cpEL (el s x) x_1))].length ∧ (0 : Nat) + x ≤ (cpSL s x).length ∧ x + (1 : Nat) ≤ (16777216 : Nat) ∧ ((-9223372036854775808 : Int) ≤ (↑x :
 Int) + (1 : Int) ∧ (↑x : Int) + (1 : Int) < (9223372036854775808 : Int)) ∧ ((∃ (y : Nat), y = (0 : Nat) ∧ s.len - y < s.len - x ∧ ((↑x : Int) + (1 : Int) = (0 : Int) ∧ False ∧ True) ∧ True) ∨ ∃ (y :
 Nat), ((0 : Nat) < y ∧ y ≤ s.len) ∧ s.len - y < s.len - x ∧ ((↑x : Int) + (1 : Int) = (↑y : Int) ∧ ((0 : Nat) = (0 : Nat) ∧ x + (1 : Nat) = y ∧ True) ∧ True) ∧ List.take x (cpSL s x) ++ List.take (1 :
 Nat) [D.list (List.take x_1 (cpEL (el s x) x_1))] = cpSL s y ∧ True))) ∧ (((↑x : Int) < (↑s.len : Int) → False) → (0 : Nat) + x ≤ (cpSL s x).length ∧ D.list (List.take x (cpSL s x)) = cpS s)) := by intros; kernel_rfl
theorem s21 (s : D) (hs : bigP s) : symFun (ctx cc0 ekAnn) 4 21 [.dat 33 s] (.dat 33 (cpS s)) := by
 rw [vc21]
 have hl := hs.out.1
 have he := hs.out.2
 have t0 : ∀ i, i < s.len → (el s i).len ≤ 100 := fun i hi => (he i hi).out.1
 have t1 : ∀ i j, i < s.len → j < (el s i).len → (el (el s i) j).len ≤ 1000 := fun i j hi hj => (he i hi).out.2 j hj
 have sc : ∀ {x : Nat}, x < s.len → 0 < (el s x).len → True := fun _ _ => trivial
 refine ⟨Or.inl ⟨0, rfl, ⟨rfl, trivial, trivial⟩, trivial⟩, fun x hx => ⟨lim_of (by omega), fun hlt => ?_, fun hge => ?_⟩, fun x hx => ⟨lim_of (by omega), fun hlt => ?_, fun hge => ?_⟩⟩
 ·have k0 := t0 0 (by omega)
  refine ⟨by omega, by omega, Or.inl ⟨0, rfl, ⟨rfl, trivial, trivial⟩, trivial⟩, fun y hy => ⟨lim_of (by omega), fun hlt2 => ?_, fun hge => ?_⟩, fun y hy => ⟨lim_of (by omega), fun hlt2 => ?_, fun hge => ?_⟩⟩
  ·have k1 := t1 0 0 (by omega) (by omega)
   have e1 := @cp_e1 (el (el s 0) 0)
   have la : (el (el s 0) 0).asList.length = (el (el s 0) 0).len := rfl
   have e2 := cp_e2 (el (el s 0) 0) (.int (-9))
   repeat' (first | apply And.intro | intro _)
   all_goals first | exact trivial | exact Nat.le_refl _ | omega | exact nn_of (by omega) | (exfalso; omega) | (simp only [List.length_append, List.length_take, List.length_drop, List.length_cons, List.length_nil, la]; omega) | (rename_i hnil; have := isNil_len0 hnil; first | omega | exact nn_of (by omega) | (simp only [List.length_append, List.length_take, List.length_drop, List.length_cons, List.length_nil, la]; omega) | (exact Or.inr ⟨1, ⟨by omega, by omega⟩, by omega, ⟨by omega, ⟨rfl, rfl, trivial⟩, trivial⟩, (by rw [e1 (by omega)]; rfl), trivial⟩)) | (exact Or.inr ⟨1, ⟨by omega, by omega⟩, by omega, ⟨by omega, ⟨rfl, rfl, trivial⟩, trivial⟩, (by rw [e1 (by omega)]; rfl), trivial⟩) | (exact Or.inr ⟨1, ⟨by omega, by omega⟩, by omega, ⟨by omega, ⟨rfl, rfl, trivial⟩, trivial⟩, (by rw [e2]; rfl), trivial⟩) | fail
  ·have hge := not_of hge
   refine ⟨Nat.le_refl _, by omega, ⟨by omega, by omega⟩, Or.inr ⟨1, ⟨by omega, by omega⟩, by omega, ⟨by omega, ⟨rfl, rfl, trivial⟩, trivial⟩, ?_, trivial⟩⟩
   show [D.nil] = [cpE (el s 0)]
   rw [cpE_nil (by omega)]
  ·have k1 := t1 0 y (by omega) (by omega)
   have e1 := @cp_e1 (el (el s 0) y)
   have la : (el (el s 0) y).asList.length = (el (el s 0) y).len := rfl
   have e2 := cp_e2 (el (el s 0) y) (.int (-9))
   have cl := cpEL_len (el s 0) y
   repeat' (first | apply And.intro | intro _)
   all_goals first | exact trivial | exact Nat.le_refl _ | omega | exact nn_of (by omega) | (exfalso; omega) | (simp only [List.length_append, List.length_take, List.length_drop, List.length_cons, List.length_nil, la]; omega) | (rename_i hnil; have := isNil_len0 hnil; first | omega | exact nn_of (by omega) | (simp only [List.length_append, List.length_take, List.length_drop, List.length_cons, List.length_nil, la]; omega) | (exact Or.inr ⟨y + 1, ⟨by omega, by omega⟩, by omega, ⟨by omega, ⟨rfl, rfl, trivial⟩, trivial⟩, (by rw [e1 (by omega)]; exact cpEL_succ _ _), trivial⟩)) | (exact Or.inr ⟨y + 1, ⟨by omega, by omega⟩, by omega, ⟨by omega, ⟨rfl, rfl, trivial⟩, trivial⟩, (by rw [e1 (by omega)]; exact cpEL_succ _ _), trivial⟩) | (exact Or.inr ⟨y + 1, ⟨by omega, by omega⟩, by omega, ⟨by omega, ⟨rfl, rfl, trivial⟩, trivial⟩, (by rw [e2]; exact cpEL_succ _ _), trivial⟩) | fail
  ·have hge := not_of hge
   have hy' : y = (el s 0).len := by omega
   subst hy'
   have cl := cpEL_len (el s 0) (el s 0).len
   refine ⟨by omega, Nat.le_refl _, by omega, ⟨by omega, by omega⟩, Or.inr ⟨1, ⟨by omega, by omega⟩, by omega, ⟨by omega, ⟨rfl, rfl, trivial⟩, trivial⟩, ?_, trivial⟩⟩
   show [D.list (List.take (el s 0).len (cpEL (el s 0) (el s 0).len))] = [cpE (el s 0)]
   rw [cpE_list (by omega)]
 ·have hge := not_of hge
  exact (cpS_nil (by omega)).symm
 ·have k0 := t0 x (by omega)
  have sl := cpSL_len s x
  refine ⟨by omega, by omega, Or.inl ⟨0, rfl, ⟨rfl, trivial, trivial⟩, trivial⟩, fun y hy => ⟨lim_of (by omega), fun hlt2 => ?_, fun hge => ?_⟩, fun y hy => ⟨lim_of (by omega), fun hlt2 => ?_, fun hge => ?_⟩⟩
  ·have k1 := t1 x 0 (by omega) (by omega)
   have e1 := @cp_e1 (el (el s x) 0)
   have la : (el (el s x) 0).asList.length = (el (el s x) 0).len := rfl
   have e2 := cp_e2 (el (el s x) 0) (.int (-9))
   repeat' (first | apply And.intro | intro _)
   all_goals first | exact trivial | exact Nat.le_refl _ | omega | exact nn_of (by omega) | (exfalso; omega) | (simp only [List.length_append, List.length_take, List.length_drop, List.length_cons, List.length_nil, la]; omega) | (rename_i hnil; have := isNil_len0 hnil; first | omega | exact nn_of (by omega) | (simp only [List.length_append, List.length_take, List.length_drop, List.length_cons, List.length_nil, la]; omega) | (exact Or.inr ⟨1, ⟨by omega, by omega⟩, by omega, ⟨by omega, ⟨rfl, rfl, trivial⟩, trivial⟩, (by rw [e1 (by omega)]; rfl), trivial⟩)) | (exact Or.inr ⟨1, ⟨by omega, by omega⟩, by omega, ⟨by omega, ⟨rfl, rfl, trivial⟩, trivial⟩, (by rw [e1 (by omega)]; rfl), trivial⟩) | (exact Or.inr ⟨1, ⟨by omega, by omega⟩, by omega, ⟨by omega, ⟨rfl, rfl, trivial⟩, trivial⟩, (by rw [e2]; rfl), trivial⟩) | fail
  ·have hge := not_of hge
   refine ⟨Nat.le_refl _, by omega, by omega, ⟨by omega, by omega⟩, Or.inr ⟨x + 1, ⟨by omega, by omega⟩, by omega, ⟨by omega, ⟨rfl, rfl, trivial⟩, trivial⟩, ?_, trivial⟩⟩
   show List.take x (cpSL s x) ++ [D.nil] = _
   rw [← cpSL_succ, cpE_nil (by omega)]
  ·have k1 := t1 x y (by omega) (by omega)
   have e1 := @cp_e1 (el (el s x) y)
   have la : (el (el s x) y).asList.length = (el (el s x) y).len := rfl
   have e2 := cp_e2 (el (el s x) y) (.int (-9))
   have cl := cpEL_len (el s x) y
   repeat' (first | apply And.intro | intro _)
   all_goals first | exact trivial | exact Nat.le_refl _ | omega | exact nn_of (by omega) | (exfalso; omega) | (simp only [List.length_append, List.length_take, List.length_drop, List.length_cons, List.length_nil, la]; omega) | (rename_i hnil; have := isNil_len0 hnil; first | omega | exact nn_of (by omega) | (simp only [List.length_append, List.length_take, List.length_drop, List.length_cons, List.length_nil, la]; omega) | (exact Or.inr ⟨y + 1, ⟨by omega, by omega⟩, by omega, ⟨by omega, ⟨rfl, rfl, trivial⟩, trivial⟩, (by rw [e1 (by omega)]; exact cpEL_succ _ _), trivial⟩)) | (exact Or.inr ⟨y + 1, ⟨by omega, by omega⟩, by omega, ⟨by omega, ⟨rfl, rfl, trivial⟩, trivial⟩, (by rw [e1 (by omega)]; exact cpEL_succ _ _), trivial⟩) | (exact Or.inr ⟨y + 1, ⟨by omega, by omega⟩, by omega, ⟨by omega, ⟨rfl, rfl, trivial⟩, trivial⟩, (by rw [e2]; exact cpEL_succ _ _), trivial⟩) | fail
  ·have hge := not_of hge
   have hy' : y = (el s x).len := by omega
   subst hy'
   have cl := cpEL_len (el s x) (el s x).len
   refine ⟨by omega, Nat.le_refl _, by omega, by omega, ⟨by omega, by omega⟩, Or.inr ⟨x + 1, ⟨by omega, by omega⟩, by omega, ⟨by omega, ⟨rfl, rfl, trivial⟩, trivial⟩, ?_, trivial⟩⟩
   show List.take x (cpSL s x) ++ [D.list (List.take (el s x).len (cpEL (el s x) (el s x).len))] = _
   rw [← cpSL_succ, cpE_list (by omega)]
 ·have hge := not_of hge
  have e : x = s.len := by omega
  subst e
  exact ⟨by have := cpSL_len s s.len; omega, cpS_list (by omega)⟩
theorem el_map {α : Type} (f : Nat → D) (n i : Nat) (hi : i < n) : nthD ((List.range n).map f) i = f i := by
 unfold nthD
 rw [List.getElem?_map, List.getElem?_range hi]; rfl
theorem cpE_len (e : D) : (cpE e).len = e.len := by unfold cpE; rw [listD_len, cpEL_len]
theorem cpS_len (s : D) : (cpS s).len = s.len := by unfold cpS; rw [listD_len, cpSL_len]
theorem cpE_el {e : D} {i : Nat} (hi : i < e.len) : el (cpE e) i = cpT (el e i) := by
 unfold el cpE
 rw [listD_list]
 exact el_map (α := D) (fun i => cpT (el e i)) _ _ hi
theorem cpS_el {s : D} {i : Nat} (hi : i < s.len) : el (cpS s) i = cpE (el s i) := by
 unfold el cpS
 rw [listD_list]
 exact el_map (α := D) (fun i => cpE (el s i)) _ _ hi
theorem cpE_flat (e : D) : ∀ n, n ≤ e.len → flatL (cpE e) n = flatL e n
 | 0, _ => rfl
 | n + 1, hn => by
  show flatL (cpE e) n ++ (el (cpE e) n).asList = flatL e n ++ (el e n).asList
  rw [cpE_flat e n (by omega), cpE_el (by omega)]; rfl
theorem cpE_err (n : Int) (sz e : D) : errE n sz (cpE e) = errE n sz e := by
 have h1 : emptyP (cpE e) ↔ emptyP e := ⟨fun ⟨i, hi, h⟩ => ⟨i, by rw [cpE_len] at hi; exact hi, by rw [cpE_len] at hi; rw [cpE_el hi] at h; exact h⟩, fun ⟨i, hi, h⟩ => ⟨i, by rw [cpE_len]; exact hi, by rw [cpE_el hi]; exact h⟩⟩
 have h2 : sameSz (cpE e) sz ↔ sameSz e sz := ⟨fun h => ⟨by rw [← cpE_len]; exact h.out.1, fun i hi => by have := h.out.2 i (by rw [cpE_len]; exact hi); rw [cpE_el hi] at this; exact this⟩, fun h => ⟨by rw [cpE_len]; exact h.out.1, fun i hi => by rw [cpE_len] at hi; rw [cpE_el hi]; exact h.out.2 i hi⟩⟩
 unfold errE
 rw [cpE_len, cpE_flat e e.len (Nat.le_refl _)]
 by_cases h : emptyP e ∨ (0 < sz.len ∧ ¬ sameSz e sz)
 ·rw [if_pos h, if_pos (h.imp h1.2 fun k => ⟨k.1, fun k' => k.2 (h2.1 k')⟩)]
 ·rw [if_neg h, if_neg fun h' => h (h'.imp h1.1 fun k => ⟨k.1, fun k' => k.2 (h2.2 k')⟩)]
theorem cpS_scan (n : Int) (sz s : D) : ∀ f i, i + f ≤ s.len → scanK n sz (cpS s) f i = scanK n sz s f i
 | 0, _, _ => rfl
 | f + 1, i, h => by
  unfold scanK
  rw [cpS_el (by omega), cpE_err, cpS_scan n sz s f (i + 1) (by omega)]
theorem cpS_chk (n : Int) (sz s : D) : chk n sz (cpS s) = chk n sz s := by
 unfold chk
 rw [cpS_len, cpS_scan n sz s s.len 0 (by omega)]
theorem cpS_big {s : D} (h : bigP s) : bigP (cpS s) := ⟨by rw [cpS_len]; exact h.out.1, fun i hi => by
 rw [cpS_len] at hi
 rw [cpS_el hi]
 have := (h.out.2 i hi).out
 exact ⟨by rw [cpE_len]; exact this.1, fun j hj => by rw [cpE_len] at hj; rw [cpE_el hj]; exact this.2 j hj⟩⟩
theorem cpS_same (s : D) : eqS3 (cpS s) s := ⟨cpS_len s, fun i hi => by
 rw [cpS_len] at hi
 rw [cpS_el hi]
 exact ⟨cpE_len _, fun j hj => by rw [cpE_len] at hj; rw [cpE_el hj]; exact ⟨rfl, fun _ _ => rfl⟩⟩⟩
theorem tot_at (ev : D) {j n : Nat} (h : j < n) : (el ev j).len ≤ totE ev n := by
 have := tot_mono' ev (show j + 1 ≤ n by omega)
 have e : totE ev (j + 1) = totE ev j + (el ev j).len := rfl
 omega
theorem totS_at (s : D) {i n : Nat} (h : i < n) : totE (el s i) (el s i).len ≤ totS s n := by
 have := totS_mono' s (show i + 1 ≤ n by omega)
 have e : totS s (i + 1) = totS s i + totE (el s i) (el s i).len := rfl
 omega
theorem few_big {s : D} {m : Int} (hm : m ≤ 1000) (h : fewP s m) : bigP s := ⟨by have := h.out.1; omega, fun i hi => ⟨by have := h.out.2.1 i hi; omega, fun j hj => by
 have h1 := tot_at (el s i) hj
 have h2 := totS_at s hi
 have := h.out.2.2
 omega⟩⟩
end Go.Ev

end

section
open Go.Proofs
namespace Go.Ev
set_option maxRecDepth 100000
set_option maxHeartbeats 4000000
def smB : List UInt8 := [48, 48, 48, 49, 48, 50, 48, 51, 48, 52, 48, 53, 48, 54, 48, 55, 48, 56, 48, 57, 49, 48, 49, 49, 49, 50, 49, 51, 49, 52, 49, 53, 49, 54, 49, 55, 49, 56, 49, 57, 50, 48, 50, 49,
50, 50, 50, 51, 50, 52, 50, 53, 50, 54, 50, 55, 50, 56, 50, 57, 51, 48, 51, 49, 51, 50, 51, 51, 51, 52, 51, 53, 51, 54, 51, 55, 51, 56, 51, 57, 52, 48, 52, 49, 52, 50, 52, 51, 52, 52, 52, 53, 52, 54,
52, 55, 52, 56, 52, 57, 53, 48, 53, 49, 53, 50, 53, 51, 53, 52, 53, 53, 53, 54, 53, 55, 53, 56, 53, 57, 54, 48, 54, 49, 54, 50, 54, 51, 54, 52, 54, 53, 54, 54, 54, 55, 54, 56, 54, 57, 55, 48, 55, 49,
55, 50, 55, 51, 55, 52, 55, 53, 55, 54, 55, 55, 55, 56, 55, 57, 56, 48, 56, 49, 56, 50, 56, 51, 56, 52, 56, 53, 56, 54, 56, 55, 56, 56, 56, 57, 57, 48, 57, 49, 57, 50, 57, 51, 57, 52, 57, 53, 57, 54,
57, 55, 57, 56, 57, 57]
def digsB : List UInt8 := [48, 49, 50, 51, 52, 53, 54, 55, 56, 57, 97, 98, 99, 100, 101, 102, 103, 104, 105, 106, 107, 108, 109, 110, 111, 112, 113, 114, 115, 116, 117, 118, 119, 120, 121, 122]
theorem vc48 : ∀ (n : Int), symFun (ctx cc0 efAnn) (2 : Nat) (48 : FuncId) [V.int IntKind.i64 n] (V.str (decB n)) = ((n < (10 : Int) → ((-9223372036854775808 : Int) ≤ (48 : Int) + n ∧ (48 : Int) + n <
 (9223372036854775808 : Int)) ∧ (0 : Nat) + (1 : Nat) ≤ [D.int (IntKind.u8.wrap ((48 : Int) + n))].length ∧ byteL (List.take (1 : Nat) [D.int (IntKind.u8.wrap ((48 : Int) + n))]) ∧ bytesD (List.take (1
 : Nat) [D.int (IntKind.u8.wrap ((48 : Int) + n))]) = decB n) ∧ ((n < (10 : Int) → False) → ((10 : Int) = (0 : Int) → False) ∧ ((-9223372036854775808 : Int) ≤ n.tdiv (10 : Int) ∧ n.tdiv (10 : Int) <
 (9223372036854775808 : Int)) ∧ (n.tdiv (10 : Int) < (10 : Int) → ((-9223372036854775808 : Int) ≤ (48 : Int) + n.tdiv (10 : Int) ∧ (48 : Int) + n.tdiv (10 : Int) < (9223372036854775808 : Int)) ∧ (0 :
 Nat) + (1 : Nat) ≤ [D.int (IntKind.u8.wrap ((48 : Int) + n.tdiv (10 : Int)))].length ∧ byteL (List.take (1 : Nat) [D.int (IntKind.u8.wrap ((48 : Int) + n.tdiv (10 : Int)))]) ∧ ((10 : Int) = (0 : Int)
 → False) ∧ ((-9223372036854775808 : Int) ≤ (48 : Int) + n.tmod (10 : Int) ∧ (48 : Int) + n.tmod (10 : Int) < (9223372036854775808 : Int)) ∧ (0 : Nat) + (1 : Nat) ≤ [D.int (IntKind.u8.wrap ((48 : Int)
 + n.tmod (10 : Int)))].length ∧ byteL (List.take (1 : Nat) [D.int (IntKind.u8.wrap ((48 : Int) + n.tmod (10 : Int)))]) ∧ (bytesD (List.take (1 : Nat) [D.int (IntKind.u8.wrap ((48 : Int) + n.tdiv (10 :
 Int)))])).length + (bytesD (List.take (1 : Nat) [D.int (IntKind.u8.wrap ((48 : Int) + n.tmod (10 : Int)))])).length < (9223372036854775808 : Nat) ∧ bytesD (List.take (1 : Nat) [D.int (IntKind.u8.wrap
 ((48 : Int) + n.tdiv (10 : Int)))]) ++ bytesD (List.take (1 : Nat) [D.int (IntKind.u8.wrap ((48 : Int) + n.tmod (10 : Int)))]) = decB n) ∧ ((n.tdiv (10 : Int) < (10 : Int) → False) → ((10 : Int) = (0
 : Int) → False) ∧ ((-9223372036854775808 : Int) ≤ (n.tdiv (10 : Int)).tdiv (10 : Int) ∧ (n.tdiv (10 : Int)).tdiv (10 : Int) < (9223372036854775808 : Int)) ∧ False))) := by intros; kernel_rfl
theorem vc69 : ∀ (n : Int), symFun (ctx ef0 efAnn) (6 : Nat) (69 : FuncId) [V.int IntKind.i64 n] (V.str (decB n)) = (((0 : Int) ≤ n → (n < (100 : Int) → (n < (10 : Int) → ((-9223372036854775808 : Int)
≤ n + (1 : Int) ∧ n + (1 : Int) < (9223372036854775808 : Int)) ∧ (0 : Int) ≤ n ∧ n ≤ n + (1 : Int) ∧ n + (1 : Int) ≤ (↑digsB.length : Int) ∧ List.take ((n + (1 : Int)).toNat - n.toNat) (List.drop
n.toNat digsB) = decB n) ∧ ((n < (10 : Int) → False) → ((-9223372036854775808 : Int) ≤ n * (2 : Int) ∧ n * (2 : Int) < (9223372036854775808 : Int)) ∧ ((-9223372036854775808 : Int) ≤ n * (2 : Int) ∧ n
* (2 : Int) < (9223372036854775808 : Int)) ∧ ((-9223372036854775808 : Int) ≤ n * (2 : Int) + (2 : Int) ∧ n * (2 : Int) + (2 : Int) < (9223372036854775808 : Int)) ∧ (0 : Int) ≤ n * (2 : Int) ∧ n * (2 :
Int) ≤ n * (2 : Int) + (2 : Int) ∧ n * (2 : Int) + (2 : Int) ≤ (↑smB.length : Int) ∧ List.take ((n * (2 : Int) + (2 : Int)).toNat - (n * (2 : Int)).toNat) (List.drop (n * (2 : Int)).toNat smB) = decB
n)) ∧ ((n < (100 : Int) → False) → (n < (0 : Int) → ((0 : Int) ≤ -IntKind.u64.wrap n ∧ -IntKind.u64.wrap n < (18446744073709551616 : Int)) ∧ False ∧ False) ∧ ((n < (0 : Int) → False) → False ∧
False))) ∧ (((0 : Int) ≤ n → False) → (n < (0 : Int) → ((0 : Int) ≤ -IntKind.u64.wrap n ∧ -IntKind.u64.wrap n < (18446744073709551616 : Int)) ∧ False ∧ False) ∧ ((n < (0 : Int) → False) → False ∧
False))) := by intros; kernel_rfl
theorem wrap8 {n : Int} (h0 : 0 ≤ n) (h1 : n < 128) : IntKind.u8.wrap n = n := by
 obtain ⟨m, rfl⟩ : ∃ m : Nat, n = m := ⟨n.toNat, by omega⟩
 exact wrap_small _ m (by omega)
theorem byteL_one {m : Int} (h0 : 0 ≤ m) (h1 : m < 10) : byteL [D.int (48 + m)] := ⟨fun d hd => by
 rw [List.mem_singleton] at hd
 exact ⟨48 + m.toNat, by omega, by rw [hd]; congr 1; omega⟩⟩
theorem bytes_one {m : Int} (h0 : 0 ≤ m) (h1 : m < 10) : bytesD [D.int (48 + m)] = [digB m] := by
 show [UInt8.ofNat (48 + m).toNat] = [UInt8.ofNat (48 + m.toNat)]
 rw [show (48 + m).toNat = 48 + m.toNat by omega]
theorem s48 (n : Int) (h : 0 ≤ n ∧ n ≤ 99) : symFun (ctx cc0 efAnn) 2 48 [.int .i64 n] (.str (decB n)) := by
 rw [vc48]
 have hd : n.tdiv 10 = n / 10 := Int.tdiv_eq_ediv_of_nonneg h.1
 have hm : n.tmod 10 = n % 10 := Int.tmod_eq_emod_of_nonneg h.1
 rw [hd, hm]
 refine ⟨fun h1 => ?_, fun h1 => ⟨fun h => by omega, ⟨by omega, by omega⟩, fun h2 => ?_, fun h2 => absurd (by omega) h2⟩⟩
 ·rw [wrap8 (by omega) (by omega)]
  exact ⟨by omega, by simp, byteL_one (by omega) (by omega), by rw [show List.take 1 [D.int (48 + n)] = [D.int (48 + n)] from rfl, bytes_one (by omega) (by omega)]; unfold decB; rw [if_pos h1]⟩
 ·rw [wrap8 (by omega) (by omega), wrap8 (by omega) (by omega)]
  rw [show List.take 1 [D.int (48 + n / 10)] = [D.int (48 + n / 10)] from rfl, show List.take 1 [D.int (48 + n % 10)] = [D.int (48 + n % 10)] from rfl, bytes_one (by omega) (by omega), bytes_one (by omega) (by omega)]
  refine ⟨by omega, by simp, byteL_one (by omega) (by omega), fun h => by omega, by omega, by simp, byteL_one (by omega) (by omega), by simp, ?_⟩
  unfold decB; rw [if_neg h1]; rfl
theorem small_one : ∀ n : Nat, n < 10 → List.take (((n : Int) + 1).toNat - (n : Int).toNat) (List.drop (n : Int).toNat digsB) = decB n := by decide +kernel
theorem small_two : ∀ n : Nat, n < 100 → 10 ≤ n → List.take (((n : Int) * 2 + 2).toNat - ((n : Int) * 2).toNat) (List.drop ((n : Int) * 2).toNat smB) = decB n := by decide +kernel
theorem smB_len : smB.length = 200 := by decide +kernel
theorem digsB_len : digsB.length = 36 := by decide +kernel
theorem s69 (n : Int) (h : 0 ≤ n ∧ n ≤ 99) : symFun (ctx ef0 efAnn) 6 69 [.int .i64 n] (.str (decB n)) := by
 rw [vc69, smB_len, digsB_len]
 obtain ⟨m, rfl⟩ : ∃ m : Nat, n = m := ⟨n.toNat, by omega⟩
 refine ⟨fun _ => ⟨fun _ => ⟨fun h1 => ⟨by omega, by omega, by omega, by omega, small_one m (by omega)⟩, fun h1 => ⟨by omega, by omega, by omega, by omega, by omega, by omega, small_two m (by omega) (by have h2 : ¬ (m : Int) < 10 := h1; omega)⟩⟩, fun h1 => absurd (by omega) h1⟩, fun h0 => absurd h.1 h0⟩
end Go.Ev

end
