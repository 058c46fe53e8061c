/-
  Part of the engine that the claim is proved with: it states nothing of the document by itself.
-/
import Derived.Test.YtlihfnfigclbmaaDoorCoreEnB
open Go.Proofs
namespace Go.Ev
set_option maxRecDepth 100000
set_option maxHeartbeats 4000000
theorem vc34 : ∀ (q : Int), symFun (ctx cc0 noAnn) (3 : Nat) (34 : FuncId) [V.int IntKind.i64 q] (V.tup [V.agg [V.int IntKind.i64 (fqZ q), V.int IntKind.i64 (fpZ q), V.int IntKind.i64 (frZ q)], V.prop
 (fldP q)]) = ((q = (2 : Int) → (q = fqZ q ∧ q = fpZ q ∧ (0 : Int) = frZ q ∧ True) ∧ (true = true ↔ fldP q) ∧ True) ∧ ((q = (2 : Int) → False) → (q = (3 : Int) → (q = fqZ q ∧ q = fpZ q ∧ (0 : Int) =
 frZ q ∧ True) ∧ (true = true ↔ fldP q) ∧ True) ∧ ((q = (3 : Int) → False) → (q = (5 : Int) → (q = fqZ q ∧ q = fpZ q ∧ (0 : Int) = frZ q ∧ True) ∧ (true = true ↔ fldP q) ∧ True) ∧ ((q = (5 : Int) →
 False) → (q = (7 : Int) → (q = fqZ q ∧ q = fpZ q ∧ (0 : Int) = frZ q ∧ True) ∧ (true = true ↔ fldP q) ∧ True) ∧ ((q = (7 : Int) → False) → (q = (11 : Int) → (q = fqZ q ∧ q = fpZ q ∧ (0 : Int) = frZ q
 ∧ True) ∧ (true = true ↔ fldP q) ∧ True) ∧ ((q = (11 : Int) → False) → (q = (13 : Int) → (q = fqZ q ∧ q = fpZ q ∧ (0 : Int) = frZ q ∧ True) ∧ (true = true ↔ fldP q) ∧ True) ∧ ((q = (13 : Int) → False)
 → (q = (4 : Int) → (q = fqZ q ∧ (2 : Int) = fpZ q ∧ (3 : Int) = frZ q ∧ True) ∧ (true = true ↔ fldP q) ∧ True) ∧ ((q = (4 : Int) → False) → (q = (8 : Int) → (q = fqZ q ∧ (2 : Int) = fpZ q ∧ (3 : Int)
 = frZ q ∧ True) ∧ (true = true ↔ fldP q) ∧ True) ∧ ((q = (8 : Int) → False) → (q = (16 : Int) → (q = fqZ q ∧ (2 : Int) = fpZ q ∧ (3 : Int) = frZ q ∧ True) ∧ (true = true ↔ fldP q) ∧ True) ∧ ((q = (16
 : Int) → False) → (q = (9 : Int) → (q = fqZ q ∧ (3 : Int) = fpZ q ∧ (2 : Int) = frZ q ∧ True) ∧ (true = true ↔ fldP q) ∧ True) ∧ ((q = (9 : Int) → False) → ((0 : Int) = fqZ q ∧ (0 : Int) = fpZ q ∧ (0
 : Int) = frZ q ∧ True) ∧ (false = true ↔ fldP q) ∧ True))))))))))) := by intros; kernel_rfl
theorem vc28 : ∀ (q : Int), symFun (ctx cc0 noAnn) (3 : Nat) (28 : FuncId) [V.int IntKind.i64 q] (V.tup [V.int IntKind.i64 (fpZ q), V.dat (24 : TypeId) (polyD q)]) = ((q = (2 : Int) → q = fpZ q ∧
 D.nil = polyD q ∧ True) ∧ ((q = (2 : Int) → False) → (q = (3 : Int) → q = fpZ q ∧ D.nil = polyD q ∧ True) ∧ ((q = (3 : Int) → False) → (q = (5 : Int) → q = fpZ q ∧ D.nil = polyD q ∧ True) ∧ ((q = (5 :
 Int) → False) → (q = (7 : Int) → q = fpZ q ∧ D.nil = polyD q ∧ True) ∧ ((q = (7 : Int) → False) → (q = (11 : Int) → q = fpZ q ∧ D.nil = polyD q ∧ True) ∧ ((q = (11 : Int) → False) → (q = (13 : Int) →
 q = fpZ q ∧ D.nil = polyD q ∧ True) ∧ ((q = (13 : Int) → False) → (q = (4 : Int) → (2 : Int) = fpZ q ∧ ((0 : Nat) + (3 : Nat) ≤ [D.int (1 : Int), D.int (1 : Int), D.int (1 : Int)].length ∧ D.list
 (List.take (3 : Nat) [D.int (1 : Int), D.int (1 : Int), D.int (1 : Int)]) = polyD q) ∧ True) ∧ ((q = (4 : Int) → False) → (q = (8 : Int) → (2 : Int) = fpZ q ∧ ((0 : Nat) + (4 : Nat) ≤ [D.int (1 :
 Int), D.int (1 : Int), D.int (0 : Int), D.int (1 : Int)].length ∧ D.list (List.take (4 : Nat) [D.int (1 : Int), D.int (1 : Int), D.int (0 : Int), D.int (1 : Int)]) = polyD q) ∧ True) ∧ ((q = (8 : Int)
 → False) → (q = (9 : Int) → (3 : Int) = fpZ q ∧ ((0 : Nat) + (3 : Nat) ≤ [D.int (1 : Int), D.int (0 : Int), D.int (1 : Int)].length ∧ D.list (List.take (3 : Nat) [D.int (1 : Int), D.int (0 : Int),
 D.int (1 : Int)]) = polyD q) ∧ True) ∧ ((q = (9 : Int) → False) → (q = (16 : Int) → (2 : Int) = fpZ q ∧ ((0 : Nat) + (5 : Nat) ≤ [D.int (1 : Int), D.int (1 : Int), D.int (0 : Int), D.int (0 : Int),
 D.int (1 : Int)].length ∧ D.list (List.take (5 : Nat) [D.int (1 : Int), D.int (1 : Int), D.int (0 : Int), D.int (0 : Int), D.int (1 : Int)]) = polyD q) ∧ True) ∧ ((q = (16 : Int) → False) → (0 : Int)
 = fpZ q ∧ D.nil = polyD q ∧ True))))))))))) := by intros; kernel_rfl
theorem vc54 : ∀ (d : D) (p m : Int), symFun (ctx cc0 rfAnn) (3 : Nat) (54 : FuncId) [V.dat (24 : TypeId) d, V.int IntKind.i64 p, V.int IntKind.i64 m] (V.int IntKind.i64 (numL d.asList p m.toNat)) =
 ((∃ (x : Nat), x.le m.toNat ∧ ((0 : Int) = (↑x : Int) ∧ (0 : Int) = numL d.asList p x ∧ (1 : Int) = powI p x ∧ True) ∧ True) ∧ ∀ (x : Nat), x.le m.toNat → m.toNat - x < LIM ∧ ((↑x : Int) < m → (0 :
 Int) ≤ (↑x : Int) ∧ (↑x : Int) < (↑d.len : Int) ∧ ((-9223372036854775808 : Int) ≤ nAt d x * powI p x ∧ nAt d x * powI p x < (9223372036854775808 : Int)) ∧ ((-9223372036854775808 : Int) ≤ numL d.asList
 p x + nAt d x * powI p x ∧ numL d.asList p x + nAt d x * powI p x < (9223372036854775808 : Int)) ∧ ((-9223372036854775808 : Int) ≤ powI p x * p ∧ powI p x * p < (9223372036854775808 : Int)) ∧
 ((-9223372036854775808 : Int) ≤ (↑x : Int) + (1 : Int) ∧ (↑x : Int) + (1 : Int) < (9223372036854775808 : Int)) ∧ ∃ (y : Nat), y.le m.toNat ∧ m.toNat - y < m.toNat - x ∧ ((↑x : Int) + (1 : Int) = (↑y :
 Int) ∧ numL d.asList p x + nAt d x * powI p x = numL d.asList p y ∧ powI p x * p = powI p y ∧ True) ∧ True) ∧ (((↑x : Int) < m → False) → numL d.asList p x = numL d.asList p m.toNat)) := by intros; kernel_rfl
theorem vc29 : ∀ (q a b : Int), symFun (ctxj cr1 rfAnn rfJoin) (4 : Nat) (29 : FuncId) [V.int IntKind.i64 q, V.int IntKind.i64 a, V.int IntKind.i64 b] (V.int IntKind.i64 (addZ q a b)) = (True ∧
 ((↑(polyD q).len : Int) = (0 : Int) → ((-9223372036854775808 : Int) ≤ a + b ∧ a + b < (9223372036854775808 : Int)) ∧ (fpZ q = (0 : Int) → False) ∧ (a + b).tmod (fpZ q) = addZ q a b) ∧ (((↑(polyD
 q).len : Int) = (0 : Int) → False) → ((-9223372036854775808 : Int) ≤ (↑(polyD q).len : Int) - (1 : Int) ∧ (↑(polyD q).len : Int) - (1 : Int) < (9223372036854775808 : Int)) ∧ (((∃ (x : Nat), x = (0 :
 Nat) ∧ ((0 : Int) = (0 : Int) ∧ True ∧ a = a ∧ True) ∧ True) ∨ ∃ (x : Nat), ((0 : Nat) < x ∧ x ≤ ((↑(polyD q).len : Int) - (1 : Int)).toNat) ∧ ((0 : Int) = (↑x : Int) ∧ False ∧ a = divI a (fpZ q) x ∧
 True) ∧ False ∧ True) ∧ (∀ (x : Nat), x = (0 : Nat) → ((↑(polyD q).len : Int) - (1 : Int)).toNat - x < LIM ∧ ((0 : Int) < (↑(polyD q).len : Int) - (1 : Int) → (fpZ q = (0 : Int) → False) ∧ (0 : Nat) +
 (1 : Nat) ≤ [D.int (a.tmod (fpZ q))].length ∧ (1 : Nat) ≤ (16777216 : Nat) ∧ (fpZ q = (0 : Int) → False) ∧ ((-9223372036854775808 : Int) ≤ a.tdiv (fpZ q) ∧ a.tdiv (fpZ q) < (9223372036854775808 :
 Int)) ∧ ((-9223372036854775808 : Int) ≤ (0 : Int) + (1 : Int) ∧ (0 : Int) + (1 : Int) < (9223372036854775808 : Int)) ∧ ((∃ (y : Nat), y = (0 : Nat) ∧ ((↑(polyD q).len : Int) - (1 : Int)).toNat - y <
 ((↑(polyD q).len : Int) - (1 : Int)).toNat - x ∧ ((0 : Int) + (1 : Int) = (0 : Int) ∧ False ∧ a.tdiv (fpZ q) = a ∧ True) ∧ True) ∨ ∃ (y : Nat), ((0 : Nat) < y ∧ y ≤ ((↑(polyD q).len : Int) - (1 :
 Int)).toNat) ∧ ((↑(polyD q).len : Int) - (1 : Int)).toNat - y < ((↑(polyD q).len : Int) - (1 : Int)).toNat - x ∧ ((0 : Int) + (1 : Int) = (↑y : Int) ∧ ((0 : Nat) = (0 : Nat) ∧ (1 : Nat) = y ∧ True) ∧
 a.tdiv (fpZ q) = divI a (fpZ q) y ∧ True) ∧ List.take (1 : Nat) [D.int (a.tmod (fpZ q))] = digL a (fpZ q) y ∧ True)) ∧ (((0 : Int) < (↑(polyD q).len : Int) - (1 : Int) → False) → ((∃ (x : Nat), x = (0
 : Nat) ∧ ((0 : Int) = (0 : Int) ∧ True ∧ b = b ∧ True) ∧ True) ∨ ∃ (x : Nat), ((0 : Nat) < x ∧ x ≤ ((↑(polyD q).len : Int) - (1 : Int)).toNat) ∧ ((0 : Int) = (↑x : Int) ∧ False ∧ b = divI b (fpZ q) x
 ∧ True) ∧ False ∧ True) ∧ (∀ (x : Nat), x = (0 : Nat) → ((↑(polyD q).len : Int) - (1 : Int)).toNat - x < LIM ∧ ((0 : Int) < (↑(polyD q).len : Int) - (1 : Int) → (fpZ q = (0 : Int) → False) ∧ (0 : Nat)
 + (1 : Nat) ≤ [D.int (b.tmod (fpZ q))].length ∧ (1 : Nat) ≤ (16777216 : Nat) ∧ (fpZ q = (0 : Int) → False) ∧ ((-9223372036854775808 : Int) ≤ b.tdiv (fpZ q) ∧ b.tdiv (fpZ q) < (9223372036854775808 :
 Int)) ∧ ((-9223372036854775808 : Int) ≤ (0 : Int) + (1 : Int) ∧ (0 : Int) + (1 : Int) < (9223372036854775808 : Int)) ∧ ((∃ (y : Nat), y = (0 : Nat) ∧ ((↑(polyD q).len : Int) - (1 : Int)).toNat - y <
 ((↑(polyD q).len : Int) - (1 : Int)).toNat - x ∧ ((0 : Int) + (1 : Int) = (0 : Int) ∧ False ∧ b.tdiv (fpZ q) = b ∧ True) ∧ True) ∨ ∃ (y : Nat), ((0 : Nat) < y ∧ y ≤ ((↑(polyD q).len : Int) - (1 :
 Int)).toNat) ∧ ((↑(polyD q).len : Int) - (1 : Int)).toNat - y < ((↑(polyD q).len : Int) - (1 : Int)).toNat - x ∧ ((0 : Int) + (1 : Int) = (↑y : Int) ∧ ((0 : Nat) = (0 : Nat) ∧ (1 : Nat) = y ∧ True) ∧
 b.tdiv (fpZ q) = divI b (fpZ q) y ∧ True) ∧ List.take (1 : Nat) [D.int (b.tmod (fpZ q))] = digL b (fpZ q) y ∧ True)) ∧ (((0 : Int) < (↑(polyD q).len : Int) - (1 : Int) → False) → ∃ (x : List D × List
 D), (x.fst = digL a (fpZ q) ((↑(polyD q).len : Int) - (1 : Int)).toNat ∧ x.snd = digL b (fpZ q) ((↑(polyD q).len : Int) - (1 : Int)).toNat) ∧ (False ∧ False ∧ True) ∧ False ∧ False ∧ True)) ∧ ∀ (x :
 Nat), (0 : Nat) < x ∧ x ≤ ((↑(polyD q).len : Int) - (1 : Int)).toNat → ((↑(polyD q).len : Int) - (1 : Int)).toNat - x < LIM ∧ ((↑x : Int) < (↑(polyD q).len : Int) - (1 : Int) → (fpZ q = (0 : Int) →
 False) ∧ (0 : Nat) + (1 : Nat) ≤ [D.int ((divI b (fpZ q) x).tmod (fpZ q))].length ∧ (0 : Nat) + x ≤ (digL b (fpZ q) x).length ∧ x + (1 : Nat) ≤ (16777216 : Nat) ∧ (fpZ q = (0 : Int) → False) ∧
 ((-9223372036854775808 : Int) ≤ (divI b (fpZ q) x).tdiv (fpZ q) ∧ (divI b (fpZ q) x).tdiv (fpZ q) < (9223372036854775808 : Int)) ∧ ((-9223372036854775808 : Int) ≤ (↑x : Int) + (1 : Int) ∧ (↑x : Int) +
 (1 : Int) < (9223372036854775808 : Int)) ∧ ((∃ (y : Nat), y = (0 : Nat) ∧ ((↑(polyD q).len : Int) - (1 : Int)).toNat - y < ((↑(polyD q).len : Int) - (1 : Int)).toNat - x ∧ ((↑x : Int) + (1 : Int) = (0
 : Int) ∧ False ∧ (divI b (fpZ q) x).tdiv (fpZ q) = b ∧ True) ∧ True) ∨ ∃ (y : Nat), ((0 : Nat) < y ∧ y ≤ ((↑(polyD q).len : Int) - (1 : Int)).toNat) ∧ ((↑(polyD q).len : Int) - (1 : Int)).toNat - y <
 ((↑(polyD q).len : Int) - (1 : Int)).toNat - x ∧ ((↑x : Int) + (1 : Int) = (↑y : Int) ∧ ((0 : Nat) = (0 : Nat) ∧ x + (1 : Nat) = y ∧ True) ∧ (divI b (fpZ q) x).tdiv (fpZ q) = divI b (fpZ q) y ∧ True)
 ∧ List.take x (digL b (fpZ q) x) ++ List.take (1 : Nat) [D.int ((divI b (fpZ q) x).tmod (fpZ q))] = digL b (fpZ q) y ∧ True)) ∧ (((↑x : Int) < (↑(polyD q).len : Int) - (1 : Int) → False) → ∃ (x_1 :
 List D × List D), (x_1.fst = digL a (fpZ q) ((↑(polyD q).len : Int) - (1 : Int)).toNat ∧ x_1.snd = digL b (fpZ q) ((↑(polyD q).len : Int) - (1 : Int)).toNat) ∧ (False ∧ ((0 : Nat) = (0 : Nat) ∧ x =
 ((↑(polyD q).len : Int) - (1 : Int)).toNat ∧ True) ∧ True) ∧ False ∧ digL b (fpZ q) x = x_1.snd ∧ True))) ∧ ∀ (x : Nat), (0 : Nat) < x ∧ x ≤ ((↑(polyD q).len : Int) - (1 : Int)).toNat → ((↑(polyD
 q).len : Int) - (1 : Int)).toNat - x < LIM ∧ ((↑x : Int) < (↑(polyD q).len : Int) - (1 : Int) → (fpZ q = (0 : Int) → False) ∧ (0 : Nat) + (1 : Nat) ≤ [D.int ((divI a (fpZ q) x).tmod (fpZ q))].length ∧
 (0 : Nat) + x ≤ (digL a (fpZ q) x).length ∧ x + (1 : Nat) ≤ (16777216 : Nat) ∧ (fpZ q = (0 : Int) → False) ∧ ((-9223372036854775808 : Int) ≤ (divI a (fpZ q) x).tdiv (fpZ q) ∧ (divI a (fpZ q) x).tdiv
 (fpZ q) < (9223372036854775808 : Int)) ∧ ((-9223372036854775808 : Int) ≤ (↑x : Int) + (1 : Int) ∧ (↑x : Int) + (1 : Int) < (9223372036854775808 : Int)) ∧ ((∃ (y : Nat), y = (0 : Nat) ∧ ((↑(polyD
 q).len : Int) - (1 : Int)).toNat - y < ((↑(polyD q).len : Int) - (1 : Int)).toNat - x ∧ ((↑x : Int) + (1 : Int) = (0 : Int) ∧ False ∧ (divI a (fpZ q) x).tdiv (fpZ q) = a ∧ True) ∧ True) ∨ ∃ (y : Nat),
 ((0 : Nat) < y ∧ y ≤ ((↑(polyD q).len : Int) - (1 : Int)).toNat) ∧ ((↑(polyD q).len : Int) - (1 : Int)).toNat - y < ((↑(polyD q).len : Int) - (1 : Int)).toNat - x ∧ ((↑x : Int) + (1 : Int) = (↑y :
 Int) ∧ ((0 : Nat) = (0 : Nat) ∧ x + (1 : Nat) = y ∧ True) ∧ (divI a (fpZ q) x).tdiv (fpZ q) = divI a (fpZ q) y ∧ True) ∧ List.take x (digL a (fpZ q) x) ++ List.take (1 : Nat) [D.int ((divI a (fpZ q)
 x).tmod (fpZ q))] = digL a (fpZ q) y ∧ True)) ∧ (((↑x : Int) < (↑(polyD q).len : Int) - (1 : Int) → False) → ((∃ (x : Nat), x = (0 : Nat) ∧ ((0 : Int) = (0 : Int) ∧ True ∧ b = b ∧ True) ∧ True) ∨ ∃ (x
 : Nat), ((0 : Nat) < x ∧ x ≤ ((↑(polyD q).len : Int) - (1 : Int)).toNat) ∧ ((0 : Int) = (↑x : Int) ∧ False ∧ b = divI b (fpZ q) x ∧ True) ∧ False ∧ True) ∧ (∀ (x_1 : Nat), x_1 = (0 : Nat) → ((↑(polyD
 q).len : Int) - (1 : Int)).toNat - x_1 < LIM ∧ ((0 : Int) < (↑(polyD q).len : Int) - (1 : Int) → (fpZ q = (0 : Int) → False) ∧ (0 : Nat) + (1 : Nat) ≤ [D.int (b.tmod (fpZ q))].length ∧ (1 : Nat) ≤
 (16777216 : Nat) ∧ (fpZ q = (0 : Int) → False) ∧ ((-9223372036854775808 : Int) ≤ b.tdiv (fpZ q) ∧ b.tdiv (fpZ q) < (9223372036854775808 : Int)) ∧ ((-9223372036854775808 : Int) ≤ (0 : Int) + (1 : Int)
 ∧ (0 : Int) + (1 : Int) < (9223372036854775808 : Int)) ∧ ((∃ (y : Nat), y = (0 : Nat) ∧ ((↑(polyD q).len : Int) - (1 : Int)).toNat - y < ((↑(polyD q).len : Int) - (1 : Int)).toNat - x_1 ∧ ((0 : Int) +
 (1 : Int) = (0 : Int) ∧ False ∧ b.tdiv (fpZ q) = b ∧ True) ∧ True) ∨ ∃ (y : Nat), ((0 : Nat) < y ∧ y ≤ ((↑(polyD q).len : Int) - (1 : Int)).toNat) ∧ ((↑(polyD q).len : Int) - (1 : Int)).toNat - y <
 ((↑(polyD q).len : Int) - (1 : Int)).toNat - x_1 ∧ ((0 : Int) + (1 : Int) = (↑y : Int) ∧ ((0 : Nat) = (0 : Nat) ∧ (1 : Nat) = y ∧ True) ∧ b.tdiv (fpZ q) = divI b (fpZ q) y ∧ True) ∧ List.take (1 :
 Nat) [D.int (b.tmod (fpZ q))] = digL b (fpZ q) y ∧ True)) ∧ (((0 : Int) < (↑(polyD q).len : Int) - (1 : Int) → False) → ∃ (x_2 : List D × List D), (x_2.fst = digL a (fpZ q) ((↑(polyD q).len : Int) -
 (1 : Int)).toNat ∧ x_2.snd = digL b (fpZ q) ((↑(polyD q).len : Int) - (1 : Int)).toNat) ∧ (((0 : Nat) = (0 : Nat) ∧ x = ((↑(polyD q).len : Int) - (1 : Int)).toNat ∧ True) ∧ False ∧ True) ∧ digL a (fpZ
 q) x = x_2.fst ∧ False ∧ True)) ∧ ∀ (x_1 : Nat), (0 : Nat) < x_1 ∧ x_1 ≤ ((↑(polyD q).len : Int) - (1 : Int)).toNat → ((↑(polyD q).len : Int) - (1 : Int)).toNat - x_1 < LIM ∧ ((↑x_1 : Int) < (↑(polyD
 q).len : Int) - (1 : Int) → (fpZ q = (0 : Int) → False) ∧ (0 : Nat) + (1 : Nat) ≤ [D.int ((divI b (fpZ q) x_1).tmod (fpZ q))].length ∧ (0 : Nat) + x_1 ≤ (digL b (fpZ q) x_1).length ∧ x_1 + (1 : Nat) ≤
 (16777216 : Nat) ∧ (fpZ q = (0 : Int) → False) ∧ ((-9223372036854775808 : Int) ≤ (divI b (fpZ q) x_1).tdiv (fpZ q) ∧ (divI b (fpZ q) x_1).tdiv (fpZ q) < (9223372036854775808 : Int)) ∧
 ((-9223372036854775808 : Int) ≤ (↑x_1 : Int) + (1 : Int) ∧ (↑x_1 : Int) + (1 : Int) < (9223372036854775808 : Int)) ∧ ((∃ (y : Nat), y = (0 : Nat) ∧ ((↑(polyD q).len : Int) - (1 : Int)).toNat - y <
 ((↑(polyD q).len : Int) - (1 : Int)).toNat - x_1 ∧ ((↑x_1 : Int) + (1 : Int) = (0 : Int) ∧ False ∧ (divI b (fpZ q) x_1).tdiv (fpZ q) = b ∧ True) ∧ True) ∨ ∃ (y : Nat), ((0 : Nat) < y ∧ y ≤ ((↑(polyD
 q).len : Int) - (1 : Int)).toNat) ∧ ((↑(polyD q).len : Int) - (1 : Int)).toNat - y < ((↑(polyD q).len : Int) - (1 : Int)).toNat - x_1 ∧ ((↑x_1 : Int) + (1 : Int) = (↑y : Int) ∧ ((0 : Nat) = (0 : Nat)
 ∧ x_1 + (1 : Nat) = y ∧ True) ∧ (divI b (fpZ q) x_1).tdiv (fpZ q) = divI b (fpZ q) y ∧ True) ∧ List.take x_1 (digL b (fpZ q) x_1) ++ List.take (1 : Nat) [D.int ((divI b (fpZ q) x_1).tmod (fpZ q))] =
 digL b (fpZ q) y ∧ True)) ∧ (((↑x_1 : Int) < (↑(polyD q).len : Int) - (1 : Int) → False) → ∃ (x_2 : List D × List D), (x_2.fst = digL a (fpZ q) ((↑(polyD q).len : Int) - (1 : Int)).toNat ∧ x_2.snd =
 digL b (fpZ q) ((↑(polyD q).len : Int) - (1 : Int)).toNat) ∧ (((0 : Nat) = (0 : Nat) ∧ x = ((↑(polyD q).len : Int) - (1 : Int)).toNat ∧ True) ∧ ((0 : Nat) = (0 : Nat) ∧ x_1 = ((↑(polyD q).len : Int) -
 (1 : Int)).toNat ∧ True) ∧ True) ∧ digL a (fpZ q) x = x_2.fst ∧ digL b (fpZ q) x_1 = x_2.snd ∧ True))) ∧ ∀ (x : List D × List D), x.fst = digL a (fpZ q) ((↑(polyD q).len : Int) - (1 : Int)).toNat ∧
 x.snd = digL b (fpZ q) ((↑(polyD q).len : Int) - (1 : Int)).toNat → (∃ (x_1 : Nat × List D), (x_1.fst ≤ ((↑(polyD q).len : Int) - (1 : Int)).toNat ∧ x_1.snd = addL (fpZ q) x.fst x.snd x_1.fst) ∧ ((0 :
 Int) = (↑x_1.fst : Int) ∧ True) ∧ x.fst = x_1.snd ∧ True) ∧ ∀ (x_1 : Nat × List D), x_1.fst ≤ ((↑(polyD q).len : Int) - (1 : Int)).toNat ∧ x_1.snd = addL (fpZ q) x.fst x.snd x_1.fst → ((↑(polyD q).len
 : Int) - (1 : Int)).toNat - x_1.fst < LIM ∧ ((↑x_1.fst : Int) < (↑(polyD q).len : Int) - (1 : Int) → (0 : Int) ≤ (↑x_1.fst : Int) ∧ (↑x_1.fst : Int) < (↑((↑(polyD q).len : Int) - (1 : Int)).toNat :
 Int) ∧ x_1.fst < x_1.snd.length ∧ (0 : Int) ≤ (↑x_1.fst : Int) ∧ (↑x_1.fst : Int) < (↑((↑(polyD q).len : Int) - (1 : Int)).toNat : Int) ∧ x_1.fst < x.snd.length ∧ ((-9223372036854775808 : Int) ≤ (nthD
 x_1.snd x_1.fst).asInt + (nthD x.snd x_1.fst).asInt ∧ (nthD x_1.snd x_1.fst).asInt + (nthD x.snd x_1.fst).asInt < (9223372036854775808 : Int)) ∧ (fpZ q = (0 : Int) → False) ∧ (0 : Int) ≤ (↑x_1.fst :
 Int) ∧ (↑x_1.fst : Int) < (↑((↑(polyD q).len : Int) - (1 : Int)).toNat : Int) ∧ x_1.fst < x_1.snd.length ∧ ((-9223372036854775808 : Int) ≤ (↑x_1.fst : Int) + (1 : Int) ∧ (↑x_1.fst : Int) + (1 : Int) <
 (9223372036854775808 : Int)) ∧ ∃ (y : Nat × List D), (y.fst ≤ ((↑(polyD q).len : Int) - (1 : Int)).toNat ∧ y.snd = addL (fpZ q) x.fst x.snd y.fst) ∧ ((↑(polyD q).len : Int) - (1 : Int)).toNat - y.fst
 < ((↑(polyD q).len : Int) - (1 : Int)).toNat - x_1.fst ∧ ((↑x_1.fst : Int) + (1 : Int) = (↑y.fst : Int) ∧ True) ∧ x_1.snd.set x_1.fst (D.int (((nthD x_1.snd x_1.fst).asInt + (nthD x.snd
 x_1.fst).asInt).tmod (fpZ q))) = y.snd ∧ True) ∧ (((↑x_1.fst : Int) < (↑(polyD q).len : Int) - (1 : Int) → False) → (0 : Nat) + ((↑(polyD q).len : Int) - (1 : Int)).toNat ≤ x_1.snd.length ∧ (pmP (fpZ
 q) ((↑(polyD q).len : Int) - (1 : Int)) ∧ (↑(polyD q).len : Int) - (1 : Int) ≤ (↑(List.take ((↑(polyD q).len : Int) - (1 : Int)).toNat x_1.snd).length : Int) ∧ digP (fpZ q) (List.take ((↑(polyD q).len
 : Int) - (1 : Int)).toNat x_1.snd)) ∧ numL (List.take ((↑(polyD q).len : Int) - (1 : Int)).toNat x_1.snd) (fpZ q) ((↑(polyD q).len : Int) - (1 : Int)).toNat = addZ q a b))) := by intros; kernel_rfl
theorem vc30 : ∀ (q a b : Int), symFun (ctxj cr1 rfAnn rfJoin) (4 : Nat) (30 : FuncId) [V.int IntKind.i64 q, V.int IntKind.i64 a, V.int IntKind.i64 b] (V.int IntKind.i64 (mulZ q a b)) = (True ∧
 ((↑(polyD q).len : Int) = (0 : Int) → ((-9223372036854775808 : Int) ≤ a * b ∧ a * b < (9223372036854775808 : Int)) ∧ (fpZ q = (0 : Int) → False) ∧ (a * b).tmod (fpZ q) = mulZ q a b) ∧ (((↑(polyD
 q).len : Int) = (0 : Int) → False) → ((-9223372036854775808 : Int) ≤ (↑(polyD q).len : Int) - (1 : Int) ∧ (↑(polyD q).len : Int) - (1 : Int) < (9223372036854775808 : Int)) ∧ (((∃ (x : Nat), x = (0 :
 Nat) ∧ ((0 : Int) = (0 : Int) ∧ True ∧ a = a ∧ True) ∧ True) ∨ ∃ (x : Nat), ((0 : Nat) < x ∧ x ≤ ((↑(polyD q).len : Int) - (1 : Int)).toNat) ∧ ((0 : Int) = (↑x : Int) ∧ False ∧ a = divI a (fpZ q) x ∧
 True) ∧ False ∧ True) ∧ (∀ (x : Nat), x = (0 : Nat) → ((↑(polyD q).len : Int) - (1 : Int)).toNat - x < LIM ∧ ((0 : Int) < (↑(polyD q).len : Int) - (1 : Int) → (fpZ q = (0 : Int) → False) ∧ (0 : Nat) +
 (1 : Nat) ≤ [D.int (a.tmod (fpZ q))].length ∧ (1 : Nat) ≤ (16777216 : Nat) ∧ (fpZ q = (0 : Int) → False) ∧ ((-9223372036854775808 : Int) ≤ a.tdiv (fpZ q) ∧ a.tdiv (fpZ q) < (9223372036854775808 :
 Int)) ∧ ((-9223372036854775808 : Int) ≤ (0 : Int) + (1 : Int) ∧ (0 : Int) + (1 : Int) < (9223372036854775808 : Int)) ∧ ((∃ (y : Nat), y = (0 : Nat) ∧ ((↑(polyD q).len : Int) - (1 : Int)).toNat - y <
 ((↑(polyD q).len : Int) - (1 : Int)).toNat - x ∧ ((0 : Int) + (1 : Int) = (0 : Int) ∧ False ∧ a.tdiv (fpZ q) = a ∧ True) ∧ True) ∨ ∃ (y : Nat), ((0 : Nat) < y ∧ y ≤ ((↑(polyD q).len : Int) - (1 :
 Int)).toNat) ∧ ((↑(polyD q).len : Int) - (1 : Int)).toNat - y < ((↑(polyD q).len : Int) - (1 : Int)).toNat - x ∧ ((0 : Int) + (1 : Int) = (↑y : Int) ∧ ((0 : Nat) = (0 : Nat) ∧ (1 : Nat) = y ∧ True) ∧
 a.tdiv (fpZ q) = divI a (fpZ q) y ∧ True) ∧ List.take (1 : Nat) [D.int (a.tmod (fpZ q))] = digL a (fpZ q) y ∧ True)) ∧ (((0 : Int) < (↑(polyD q).len : Int) - (1 : Int) → False) → ((∃ (x : Nat), x = (0
 : Nat) ∧ ((0 : Int) = (0 : Int) ∧ True ∧ b = b ∧ True) ∧ True) ∨ ∃ (x : Nat), ((0 : Nat) < x ∧ x ≤ ((↑(polyD q).len : Int) - (1 : Int)).toNat) ∧ ((0 : Int) = (↑x : Int) ∧ False ∧ b = divI b (fpZ q) x
 ∧ True) ∧ False ∧ True) ∧ (∀ (x : Nat), x = (0 : Nat) → ((↑(polyD q).len : Int) - (1 : Int)).toNat - x < LIM ∧ ((0 : Int) < (↑(polyD q).len : Int) - (1 : Int) → (fpZ q = (0 : Int) → False) ∧ (0 : Nat)
 + (1 : Nat) ≤ [D.int (b.tmod (fpZ q))].length ∧ (1 : Nat) ≤ (16777216 : Nat) ∧ (fpZ q = (0 : Int) → False) ∧ ((-9223372036854775808 : Int) ≤ b.tdiv (fpZ q) ∧ b.tdiv (fpZ q) < (9223372036854775808 :
 Int)) ∧ ((-9223372036854775808 : Int) ≤ (0 : Int) + (1 : Int) ∧ (0 : Int) + (1 : Int) < (9223372036854775808 : Int)) ∧ ((∃ (y : Nat), y = (0 : Nat) ∧ ((↑(polyD q).len : Int) - (1 : Int)).toNat - y <
 ((↑(polyD q).len : Int) - (1 : Int)).toNat - x ∧ ((0 : Int) + (1 : Int) = (0 : Int) ∧ False ∧ b.tdiv (fpZ q) = b ∧ True) ∧ True) ∨ ∃ (y : Nat), ((0 : Nat) < y ∧ y ≤ ((↑(polyD q).len : Int) - (1 :
 Int)).toNat) ∧ ((↑(polyD q).len : Int) - (1 : Int)).toNat - y < ((↑(polyD q).len : Int) - (1 : Int)).toNat - x ∧ ((0 : Int) + (1 : Int) = (↑y : Int) ∧ ((0 : Nat) = (0 : Nat) ∧ (1 : Nat) = y ∧ True) ∧
 b.tdiv (fpZ q) = divI b (fpZ q) y ∧ True) ∧ List.take (1 : Nat) [D.int (b.tmod (fpZ q))] = digL b (fpZ q) y ∧ True)) ∧ (((0 : Int) < (↑(polyD q).len : Int) - (1 : Int) → False) → ∃ (x : List D × List
 D), (x.fst = digL a (fpZ q) ((↑(polyD q).len : Int) - (1 : Int)).toNat ∧ x.snd = digL b (fpZ q) ((↑(polyD q).len : Int) - (1 : Int)).toNat) ∧ (False ∧ False ∧ True) ∧ False ∧ False ∧ True)) ∧ ∀ (x :
 Nat), (0 : Nat) < x ∧ x ≤ ((↑(polyD q).len : Int) - (1 : Int)).toNat → ((↑(polyD q).len : Int) - (1 : Int)).toNat - x < LIM ∧ ((↑x : Int) < (↑(polyD q).len : Int) - (1 : Int) → (fpZ q = (0 : Int) →
 False) ∧ (0 : Nat) + (1 : Nat) ≤ [D.int ((divI b (fpZ q) x).tmod (fpZ q))].length ∧ (0 : Nat) + x ≤ (digL b (fpZ q) x).length ∧ x + (1 : Nat) ≤ (16777216 : Nat) ∧ (fpZ q = (0 : Int) → False) ∧
 ((-9223372036854775808 : Int) ≤ (divI b (fpZ q) x).tdiv (fpZ q) ∧ (divI b (fpZ q) x).tdiv (fpZ q) < (9223372036854775808 : Int)) ∧ ((-9223372036854775808 : Int) ≤ (↑x : Int) + (1 : Int) ∧ (↑x : Int) +
 (1 : Int) < (9223372036854775808 : Int)) ∧ ((∃ (y : Nat), y = (0 : Nat) ∧ ((↑(polyD q).len : Int) - (1 : Int)).toNat - y < ((↑(polyD q).len : Int) - (1 : Int)).toNat - x ∧ ((↑x : Int) + (1 : Int) = (0
 : Int) ∧ False ∧ (divI b (fpZ q) x).tdiv (fpZ q) = b ∧ True) ∧ True) ∨ ∃ (y : Nat), ((0 : Nat) < y ∧ y ≤ ((↑(polyD q).len : Int) - (1 : Int)).toNat) ∧ ((↑(polyD q).len : Int) - (1 : Int)).toNat - y <
 ((↑(polyD q).len : Int) - (1 : Int)).toNat - x ∧ ((↑x : Int) + (1 : Int) = (↑y : Int) ∧ ((0 : Nat) = (0 : Nat) ∧ x + (1 : Nat) = y ∧ True) ∧ (divI b (fpZ q) x).tdiv (fpZ q) = divI b (fpZ q) y ∧ True)
 ∧ List.take x (digL b (fpZ q) x) ++ List.take (1 : Nat) [D.int ((divI b (fpZ q) x).tmod (fpZ q))] = digL b (fpZ q) y ∧ True)) ∧ (((↑x : Int) < (↑(polyD q).len : Int) - (1 : Int) → False) → ∃ (x_1 :
 List D × List D), (x_1.fst = digL a (fpZ q) ((↑(polyD q).len : Int) - (1 : Int)).toNat ∧ x_1.snd = digL b (fpZ q) ((↑(polyD q).len : Int) - (1 : Int)).toNat) ∧ (False ∧ ((0 : Nat) = (0 : Nat) ∧ x =
 ((↑(polyD q).len : Int) - (1 : Int)).toNat ∧ True) ∧ True) ∧ False ∧ digL b (fpZ q) x = x_1.snd ∧ True))) ∧ ∀ (x : Nat), (0 : Nat) < x ∧ x ≤ ((↑(polyD q).len : Int) - (1 : Int)).toNat → ((↑(polyD
 q).len : Int) - (1 : Int)).toNat - x < LIM ∧ ((↑x : Int) < (↑(polyD q).len : Int) - (1 : Int) → (fpZ q = (0 : Int) → False) ∧ (0 : Nat) + (1 : Nat) ≤ [D.int ((divI a (fpZ q) x).tmod (fpZ q))].length ∧
 (0 : Nat) + x ≤ (digL a (fpZ q) x).length ∧ x + (1 : Nat) ≤ (16777216 : Nat) ∧ (fpZ q = (0 : Int) → False) ∧ ((-9223372036854775808 : Int) ≤ (divI a (fpZ q) x).tdiv (fpZ q) ∧ (divI a (fpZ q) x).tdiv
 (fpZ q) < (9223372036854775808 : Int)) ∧ ((-9223372036854775808 : Int) ≤ (↑x : Int) + (1 : Int) ∧ (↑x : Int) + (1 : Int) < (9223372036854775808 : Int)) ∧ ((∃ (y : Nat), y = (0 : Nat) ∧ ((↑(polyD
 q).len : Int) - (1 : Int)).toNat - y < ((↑(polyD q).len : Int) - (1 : Int)).toNat - x ∧ ((↑x : Int) + (1 : Int) = (0 : Int) ∧ False ∧ (divI a (fpZ q) x).tdiv (fpZ q) = a ∧ True) ∧ True) ∨ ∃ (y : Nat),
 ((0 : Nat) < y ∧ y ≤ ((↑(polyD q).len : Int) - (1 : Int)).toNat) ∧ ((↑(polyD q).len : Int) - (1 : Int)).toNat - y < ((↑(polyD q).len : Int) - (1 : Int)).toNat - x ∧ ((↑x : Int) + (1 : Int) = (↑y :
 Int) ∧ ((0 : Nat) = (0 : Nat) ∧ x + (1 : Nat) = y ∧ True) ∧ (divI a (fpZ q) x).tdiv (fpZ q) = divI a (fpZ q) y ∧ True) ∧ List.take x (digL a (fpZ q) x) ++ List.take (1 : Nat) [D.int ((divI a (fpZ q)
 x).tmod (fpZ q))] = digL a (fpZ q) y ∧ True)) ∧ (((↑x : Int) < (↑(polyD q).len : Int) - (1 : Int) → False) → ((∃ (x : Nat), x = (0 : Nat) ∧ ((0 : Int) = (0 : Int) ∧ True ∧ b = b ∧ True) ∧ True) ∨ ∃ (x
 : Nat), ((0 : Nat) < x ∧ x ≤ ((↑(polyD q).len : Int) - (1 : Int)).toNat) ∧ ((0 : Int) = (↑x : Int) ∧ False ∧ b = divI b (fpZ q) x ∧ True) ∧ False ∧ True) ∧ (∀ (x_1 : Nat), x_1 = (0 : Nat) → ((↑(polyD
 q).len : Int) - (1 : Int)).toNat - x_1 < LIM ∧ ((0 : Int) < (↑(polyD q).len : Int) - (1 : Int) → (fpZ q = (0 : Int) → False) ∧ (0 : Nat) + (1 : Nat) ≤ [D.int (b.tmod (fpZ q))].length ∧ (1 : Nat) ≤
 (16777216 : Nat) ∧ (fpZ q = (0 : Int) → False) ∧ ((-9223372036854775808 : Int) ≤ b.tdiv (fpZ q) ∧ b.tdiv (fpZ q) < (9223372036854775808 : Int)) ∧ ((-9223372036854775808 : Int) ≤ (0 : Int) + (1 : Int)
 ∧ (0 : Int) + (1 : Int) < (9223372036854775808 : Int)) ∧ ((∃ (y : Nat), y = (0 : Nat) ∧ ((↑(polyD q).len : Int) - (1 : Int)).toNat - y < ((↑(polyD q).len : Int) - (1 : Int)).toNat - x_1 ∧ ((0 : Int) +
 (1 : Int) = (0 : Int) ∧ False ∧ b.tdiv (fpZ q) = b ∧ True) ∧ True) ∨ ∃ (y : Nat), ((0 : Nat) < y ∧ y ≤ ((↑(polyD q).len : Int) - (1 : Int)).toNat) ∧ ((↑(polyD q).len : Int) - (1 : Int)).toNat - y <
 ((↑(polyD q).len : Int) - (1 : Int)).toNat - x_1 ∧ ((0 : Int) + (1 : Int) = (↑y : Int) ∧ ((0 : Nat) = (0 : Nat) ∧ (1 : Nat) = y ∧ True) ∧ b.tdiv (fpZ q) = divI b (fpZ q) y ∧ True) ∧ List.take (1 :
 Nat) [D.int (b.tmod (fpZ q))] = digL b (fpZ q) y ∧ True)) ∧ (((0 : Int) < (↑(polyD q).len : Int) - (1 : Int) → False) → ∃ (x_2 : List D × List D), (x_2.fst = digL a (fpZ q) ((↑(polyD q).len : Int) -
 (1 : Int)).toNat ∧ x_2.snd = digL b (fpZ q) ((↑(polyD q).len : Int) - (1 : Int)).toNat) ∧ (((0 : Nat) = (0 : Nat) ∧ x = ((↑(polyD q).len : Int) - (1 : Int)).toNat ∧ True) ∧ False ∧ True) ∧ digL a (fpZ
 q) x = x_2.fst ∧ False ∧ True)) ∧ ∀ (x_1 : Nat), (0 : Nat) < x_1 ∧ x_1 ≤ ((↑(polyD q).len : Int) - (1 : Int)).toNat → ((↑(polyD q).len : Int) - (1 : Int)).toNat - x_1 < LIM ∧ ((↑x_1 : Int) < (↑(polyD
 q).len : Int) - (1 : Int) → (fpZ q = (0 : Int) → False) ∧ (0 : Nat) + (1 : Nat) ≤ [D.int ((divI b (fpZ q) x_1).tmod (fpZ q))].length ∧ (0 : Nat) + x_1 ≤ (digL b (fpZ q) x_1).length ∧ x_1 + (1 : Nat) ≤
 (16777216 : Nat) ∧ (fpZ q = (0 : Int) → False) ∧ ((-9223372036854775808 : Int) ≤ (divI b (fpZ q) x_1).tdiv (fpZ q) ∧ (divI b (fpZ q) x_1).tdiv (fpZ q) < (9223372036854775808 : Int)) ∧
 ((-9223372036854775808 : Int) ≤ (↑x_1 : Int) + (1 : Int) ∧ (↑x_1 : Int) + (1 : Int) < (9223372036854775808 : Int)) ∧ ((∃ (y : Nat), y = (0 : Nat) ∧ ((↑(polyD q).len : Int) - (1 : Int)).toNat - y <
 ((↑(polyD q).len : Int) - (1 : Int)).toNat - x_1 ∧ ((↑x_1 : Int) + (1 : Int) = (0 : Int) ∧ False ∧ (divI b (fpZ q) x_1).tdiv (fpZ q) = b ∧ True) ∧ True) ∨ ∃ (y : Nat), ((0 : Nat) < y ∧ y ≤ ((↑(polyD
 q).len : Int) - (1 : Int)).toNat) ∧ ((↑(polyD q).len : Int) - (1 : Int)).toNat - y < ((↑(polyD q).len : Int) - (1 : Int)).toNat - x_1 ∧ ((↑x_1 : Int) + (1 : Int) = (↑y : Int) ∧ ((0 : Nat) = (0 : Nat)
 ∧ x_1 + (1 : Nat) = y ∧ True) ∧ (divI b (fpZ q) x_1).tdiv (fpZ q) = divI b (fpZ q) y ∧ True) ∧ List.take x_1 (digL b (fpZ q) x_1) ++ List.take (1 : Nat) [D.int ((divI b (fpZ q) x_1).tmod (fpZ q))] =
 digL b (fpZ q) y ∧ True)) ∧ (((↑x_1 : Int) < (↑(polyD q).len : Int) - (1 : Int) → False) → ∃ (x_2 : List D × List D), (x_2.fst = digL a (fpZ q) ((↑(polyD q).len : Int) - (1 : Int)).toNat ∧ x_2.snd =
 digL b (fpZ q) ((↑(polyD q).len : Int) - (1 : Int)).toNat) ∧ (((0 : Nat) = (0 : Nat) ∧ x = ((↑(polyD q).len : Int) - (1 : Int)).toNat ∧ True) ∧ ((0 : Nat) = (0 : Nat) ∧ x_1 = ((↑(polyD q).len : Int) -
 (1 : Int)).toNat ∧ True) ∧ True) ∧ digL a (fpZ q) x = x_2.fst ∧ digL b (fpZ q) x_1 = x_2.snd ∧ True))) ∧ ∀ (x : List D × List D), x.fst = digL a (fpZ q) ((↑(polyD q).len : Int) - (1 : Int)).toNat ∧
 x.snd = digL b (fpZ q) ((↑(polyD q).len : Int) - (1 : Int)).toNat → (((-9223372036854775808 : Int) ≤ (2 : Int) * ((↑(polyD q).len : Int) - (1 : Int)) ∧ (2 : Int) * ((↑(polyD q).len : Int) - (1 : Int))
 < (9223372036854775808 : Int)) ∧ ((∃ (x : Nat), x = (0 : Nat) ∧ ((0 : Int) = (0 : Int) ∧ True ∧ (0 : Int) = (0 : Int) ∧ True) ∧ True) ∨ ∃ (x : Nat), ((0 : Nat) < x ∧ x ≤ ((2 : Int) * ((↑(polyD q).len
 : Int) - (1 : Int))).toNat) ∧ ((0 : Int) = (↑x : Int) ∧ False ∧ (0 : Int) = divI ((0 : Int)) (fpZ q) x ∧ True) ∧ False ∧ True) ∧ (∀ (x : Nat), x = (0 : Nat) → ((2 : Int) * ((↑(polyD q).len : Int) - (1
 : Int))).toNat - x < LIM ∧ ((0 : Int) < (2 : Int) * ((↑(polyD q).len : Int) - (1 : Int)) → (fpZ q = (0 : Int) → False) ∧ (0 : Nat) + (1 : Nat) ≤ [D.int (((0 : Int)).tmod (fpZ q))].length ∧ (1 : Nat) ≤
 (16777216 : Nat) ∧ (fpZ q = (0 : Int) → False) ∧ ((-9223372036854775808 : Int) ≤ ((0 : Int)).tdiv (fpZ q) ∧ ((0 : Int)).tdiv (fpZ q) < (9223372036854775808 : Int)) ∧ ((-9223372036854775808 : Int) ≤ (0
 : Int) + (1 : Int) ∧ (0 : Int) + (1 : Int) < (9223372036854775808 : Int)) ∧ ((∃ (y : Nat), y = (0 : Nat) ∧ ((2 : Int) * ((↑(polyD q).len : Int) - (1 : Int))).toNat - y < ((2 : Int) * ((↑(polyD q).len
 : Int) - (1 : Int))).toNat - x ∧ ((0 : Int) + (1 : Int) = (0 : Int) ∧ False ∧ ((0 : Int)).tdiv (fpZ q) = (0 : Int) ∧ True) ∧ True) ∨ ∃ (y : Nat), ((0 : Nat) < y ∧ y ≤ ((2 : Int) * ((↑(polyD q).len :
 Int) - (1 : Int))).toNat) ∧ ((2 : Int) * ((↑(polyD q).len : Int) - (1 : Int))).toNat - y < ((2 : Int) * ((↑(polyD q).len : Int) - (1 : Int))).toNat - x ∧ ((0 : Int) + (1 : Int) = (↑y : Int) ∧ ((0 :
 Nat) = (0 : Nat) ∧ (1 : Nat) = y ∧ True) ∧ ((0 : Int)).tdiv (fpZ q) = divI ((0 : Int)) (fpZ q) y ∧ True) ∧ List.take (1 : Nat) [D.int (((0 : Int)).tmod (fpZ q))] = digL ((0 : Int)) (fpZ q) y ∧ True))
 ∧ (((0 : Int) < (2 : Int) * ((↑(polyD q).len : Int) - (1 : Int)) → False) → ∃ (x : List D), x = digL (0 : Int) (fpZ q) ((2 : Int) * ((↑(polyD q).len : Int) - (1 : Int))).toNat ∧ (False ∧ True) ∧ False
 ∧ True)) ∧ ∀ (x : Nat), (0 : Nat) < x ∧ x ≤ ((2 : Int) * ((↑(polyD q).len : Int) - (1 : Int))).toNat → ((2 : Int) * ((↑(polyD q).len : Int) - (1 : Int))).toNat - x < LIM ∧ ((↑x : Int) < (2 : Int) *
 ((↑(polyD q).len : Int) - (1 : Int)) → (fpZ q = (0 : Int) → False) ∧ (0 : Nat) + (1 : Nat) ≤ [D.int ((divI ((0 : Int)) (fpZ q) x).tmod (fpZ q))].length ∧ (0 : Nat) + x ≤ (digL ((0 : Int)) (fpZ q)
 x).length ∧ x + (1 : Nat) ≤ (16777216 : Nat) ∧ (fpZ q = (0 : Int) → False) ∧ ((-9223372036854775808 : Int) ≤ (divI ((0 : Int)) (fpZ q) x).tdiv (fpZ q) ∧ (divI ((0 : Int)) (fpZ q) x).tdiv (fpZ q) <
 (9223372036854775808 : Int)) ∧ ((-9223372036854775808 : Int) ≤ (↑x : Int) + (1 : Int) ∧ (↑x : Int) + (1 : Int) < (9223372036854775808 : Int)) ∧ ((∃ (y : Nat), y = (0 : Nat) ∧ ((2 : Int) * ((↑(polyD
 q).len : Int) - (1 : Int))).toNat - y < ((2 : Int) * ((↑(polyD q).len : Int) - (1 : Int))).toNat - x ∧ ((↑x : Int) + (1 : Int) = (0 : Int) ∧ False ∧ (divI ((0 : Int)) (fpZ q) x).tdiv (fpZ q) = (0 :
 Int) ∧ True) ∧ True) ∨ ∃ (y : Nat), ((0 : Nat) < y ∧ y ≤ ((2 : Int) * ((↑(polyD q).len : Int) - (1 : Int))).toNat) ∧ ((2 : Int) * ((↑(polyD q).len : Int) - (1 : Int))).toNat - y < ((2 : Int) *
 ((↑(polyD q).len : Int) - (1 : Int))).toNat - x ∧ ((↑x : Int) + (1 : Int) = (↑y : Int) ∧ ((0 : Nat) = (0 : Nat) ∧ x + (1 : Nat) = y ∧ True) ∧ (divI ((0 : Int)) (fpZ q) x).tdiv (fpZ q) = divI ((0 :
 Int)) (fpZ q) y ∧ True) ∧ List.take x (digL ((0 : Int)) (fpZ q) x) ++ List.take (1 : Nat) [D.int ((divI ((0 : Int)) (fpZ q) x).tmod (fpZ q))] = digL ((0 : Int)) (fpZ q) y ∧ True)) ∧ (((↑x : Int) < (2
 : Int) * ((↑(polyD q).len : Int) - (1 : Int)) → False) → ∃ (x_1 : List D), x_1 = digL (0 : Int) (fpZ q) ((2 : Int) * ((↑(polyD q).len : Int) - (1 : Int))).toNat ∧ (((0 : Nat) = (0 : Nat) ∧ x = ((2 :
 Int) * ((↑(polyD q).len : Int) - (1 : Int))).toNat ∧ True) ∧ True) ∧ digL ((0 : Int)) (fpZ q) x = x_1 ∧ True)) ∧ ∀ (x_1 : List D), x_1 = digL (0 : Int) (fpZ q) ((2 : Int) * ((↑(polyD q).len : Int) -
 (1 : Int))).toNat → (∃ (x_2 : Nat × List D), (x_2.fst ≤ ((↑(polyD q).len : Int) - (1 : Int)).toNat ∧ x_2.snd = mulO (fpZ q) x.fst x.snd ((↑(polyD q).len : Int) - (1 : Int)).toNat x_1 x_2.fst) ∧ ((0 :
 Int) = (↑x_2.fst : Int) ∧ True) ∧ x_1 = x_2.snd ∧ True) ∧ ∀ (x_2 : Nat × List D), x_2.fst ≤ ((↑(polyD q).len : Int) - (1 : Int)).toNat ∧ x_2.snd = mulO (fpZ q) x.fst x.snd ((↑(polyD q).len : Int) - (1
 : Int)).toNat x_1 x_2.fst → ((↑(polyD q).len : Int) - (1 : Int)).toNat - x_2.fst < LIM ∧ ((↑x_2.fst : Int) < (↑(polyD q).len : Int) - (1 : Int) → (∃ (x_3 : Nat × List D), (x_3.fst ≤ ((↑(polyD q).len :
 Int) - (1 : Int)).toNat ∧ x_3.snd = mulI (fpZ q) x.fst x.snd x_2.fst x_2.snd x_3.fst) ∧ ((0 : Int) = (↑x_3.fst : Int) ∧ True) ∧ x_2.snd = x_3.snd ∧ True) ∧ ∀ (x_3 : Nat × List D), x_3.fst ≤ ((↑(polyD
 q).len : Int) - (1 : Int)).toNat ∧ x_3.snd = mulI (fpZ q) x.fst x.snd x_2.fst x_2.snd x_3.fst → ((↑(polyD q).len : Int) - (1 : Int)).toNat - x_3.fst < LIM ∧ ((↑x_3.fst : Int) < (↑(polyD q).len : Int)
 - (1 : Int) → ((-9223372036854775808 : Int) ≤ (↑x_2.fst : Int) + (↑x_3.fst : Int) ∧ (↑x_2.fst : Int) + (↑x_3.fst : Int) < (9223372036854775808 : Int)) ∧ ((-9223372036854775808 : Int) ≤ (↑x_2.fst :
 Int) + (↑x_3.fst : Int) ∧ (↑x_2.fst : Int) + (↑x_3.fst : Int) < (9223372036854775808 : Int)) ∧ (0 : Int) ≤ (↑x_2.fst : Int) + (↑x_3.fst : Int) ∧ (↑x_2.fst : Int) + (↑x_3.fst : Int) < (↑((2 : Int) *
 ((↑(polyD q).len : Int) - (1 : Int))).toNat : Int) ∧ ((↑x_2.fst : Int) + (↑x_3.fst : Int)).toNat < x_3.snd.length ∧ (0 : Int) ≤ (↑x_2.fst : Int) ∧ (↑x_2.fst : Int) < (↑((↑(polyD q).len : Int) - (1 :
 Int)).toNat : Int) ∧ x_2.fst < x.fst.length ∧ (0 : Int) ≤ (↑x_3.fst : Int) ∧ (↑x_3.fst : Int) < (↑((↑(polyD q).len : Int) - (1 : Int)).toNat : Int) ∧ x_3.fst < x.snd.length ∧ ((-9223372036854775808 :
 Int) ≤ (nthD x.fst x_2.fst).asInt * (nthD x.snd x_3.fst).asInt ∧ (nthD x.fst x_2.fst).asInt * (nthD x.snd x_3.fst).asInt < (9223372036854775808 : Int)) ∧ ((-9223372036854775808 : Int) ≤ (nthD x_3.snd
 ((↑x_2.fst : Int) + (↑x_3.fst : Int)).toNat).asInt + (nthD x.fst x_2.fst).asInt * (nthD x.snd x_3.fst).asInt ∧ (nthD x_3.snd ((↑x_2.fst : Int) + (↑x_3.fst : Int)).toNat).asInt + (nthD x.fst
 x_2.fst).asInt * (nthD x.snd x_3.fst).asInt < (9223372036854775808 : Int)) ∧ (fpZ q = (0 : Int) → False) ∧ (0 : Int) ≤ (↑x_2.fst : Int) + (↑x_3.fst : Int) ∧ (↑x_2.fst : Int) + (↑x_3.fst : Int) < (↑((2
 : Int) * ((↑(polyD q).len : Int) - (1 : Int))).toNat : Int) ∧ ((↑x_2.fst : Int) + (↑x_3.fst : Int)).toNat < x_3.snd.length ∧ ((-9223372036854775808 : Int) ≤ (↑x_3.fst : Int) + (1 : Int) ∧ (↑x_3.fst :
 Int) + (1 : Int) < (9223372036854775808 : Int)) ∧ ∃ (y : Nat × List D), (y.fst ≤ ((↑(polyD q).len : Int) - (1 : Int)).toNat ∧ y.snd = mulI (fpZ q) x.fst x.snd x_2.fst x_2.snd y.fst) ∧ ((↑(polyD q).len
 : Int) - (1 : Int)).toNat - y.fst < ((↑(polyD q).len : Int) - (1 : Int)).toNat - x_3.fst ∧ ((↑x_3.fst : Int) + (1 : Int) = (↑y.fst : Int) ∧ True) ∧ x_3.snd.set ((↑x_2.fst : Int) + (↑x_3.fst :
 Int)).toNat (D.int (((nthD x_3.snd ((↑x_2.fst : Int) + (↑x_3.fst : Int)).toNat).asInt + (nthD x.fst x_2.fst).asInt * (nthD x.snd x_3.fst).asInt).tmod (fpZ q))) = y.snd ∧ True) ∧ (((↑x_3.fst : Int) <
 (↑(polyD q).len : Int) - (1 : Int) → False) → ((-9223372036854775808 : Int) ≤ (↑x_2.fst : Int) + (1 : Int) ∧ (↑x_2.fst : Int) + (1 : Int) < (9223372036854775808 : Int)) ∧ ∃ (y : Nat × List D), (y.fst
 ≤ ((↑(polyD q).len : Int) - (1 : Int)).toNat ∧ y.snd = mulO (fpZ q) x.fst x.snd ((↑(polyD q).len : Int) - (1 : Int)).toNat x_1 y.fst) ∧ ((↑(polyD q).len : Int) - (1 : Int)).toNat - y.fst < ((↑(polyD
 q).len : Int) - (1 : Int)).toNat - x_2.fst ∧ ((↑x_2.fst : Int) + (1 : Int) = (↑y.fst : Int) ∧ True) ∧ x_3.snd = y.snd ∧ True)) ∧ (((↑x_2.fst : Int) < (↑(polyD q).len : Int) - (1 : Int) → False) →
 ((-9223372036854775808 : Int) ≤ (2 : Int) * ((↑(polyD q).len : Int) - (1 : Int)) ∧ (2 : Int) * ((↑(polyD q).len : Int) - (1 : Int)) < (9223372036854775808 : Int)) ∧ ((-9223372036854775808 : Int) ≤ (2
 : Int) * ((↑(polyD q).len : Int) - (1 : Int)) - (1 : Int) ∧ (2 : Int) * ((↑(polyD q).len : Int) - (1 : Int)) - (1 : Int) < (9223372036854775808 : Int)) ∧ (∃ (x : Nat × List D), (x.fst ≤ ((↑(polyD
 q).len : Int) - (1 : Int)).toNat ∧ x.snd = redO (fpZ q) (polyD q) ((↑(polyD q).len : Int) - (1 : Int)).toNat x_2.snd x.fst) ∧ ((2 : Int) * ((↑(polyD q).len : Int) - (1 : Int)) - (1 : Int) = (2 : Int)
 * ((↑(polyD q).len : Int) - (1 : Int)) - (1 : Int) - (↑x.fst : Int) ∧ True) ∧ x_2.snd = x.snd ∧ True) ∧ ∀ (x : Nat × List D), x.fst ≤ ((↑(polyD q).len : Int) - (1 : Int)).toNat ∧ x.snd = redO (fpZ q)
 (polyD q) ((↑(polyD q).len : Int) - (1 : Int)).toNat x_2.snd x.fst → ((↑(polyD q).len : Int) - (1 : Int)).toNat - x.fst < LIM ∧ ((↑(polyD q).len : Int) - (1 : Int) ≤ (2 : Int) * ((↑(polyD q).len :
 Int) - (1 : Int)) - (1 : Int) - (↑x.fst : Int) → (0 : Int) ≤ (2 : Int) * ((↑(polyD q).len : Int) - (1 : Int)) - (1 : Int) - (↑x.fst : Int) ∧ (2 : Int) * ((↑(polyD q).len : Int) - (1 : Int)) - (1 :
 Int) - (↑x.fst : Int) < (↑((2 : Int) * ((↑(polyD q).len : Int) - (1 : Int))).toNat : Int) ∧ ((2 : Int) * ((↑(polyD q).len : Int) - (1 : Int)) - (1 : Int) - (↑x.fst : Int)).toNat < x.snd.length ∧ (∃
 (x_3 : Nat × List D), (x_3.fst ≤ ((↑(polyD q).len : Int) - (1 : Int)).toNat + (1 : Nat) ∧ x_3.snd = redI (fpZ q) (polyD q) ((2 : Int) * ((↑(polyD q).len : Int) - (1 : Int)) - (1 : Int) - (↑x.fst :
 Int) - ((↑(polyD q).len : Int) - (1 : Int))).toNat (nthD x.snd ((2 : Int) * ((↑(polyD q).len : Int) - (1 : Int)) - (1 : Int) - (↑x.fst : Int)).toNat).asInt x.snd x_3.fst) ∧ ((0 : Int) = (↑x_3.fst :
 Int) ∧ True) ∧ x.snd = x_3.snd ∧ True) ∧ ∀ (x_3 : Nat × List D), x_3.fst ≤ ((↑(polyD q).len : Int) - (1 : Int)).toNat + (1 : Nat) ∧ x_3.snd = redI (fpZ q) (polyD q) ((2 : Int) * ((↑(polyD q).len :
 Int) - (1 : Int)) - (1 : Int) - (↑x.fst : Int) - ((↑(polyD q).len : Int) - (1 : Int))).toNat (nthD x.snd ((2 : Int) * ((↑(polyD q).len : Int) - (1 : Int)) - (1 : Int) - (↑x.fst : Int)).toNat).asInt
 x.snd x_3.fst → ((↑(polyD q).len : Int) - (1 : Int)).toNat + (1 : Nat) - x_3.fst < LIM ∧ ((↑x_3.fst : Int) ≤ (↑(polyD q).len : Int) - (1 : Int) → ((-9223372036854775808 : Int) ≤ (2 : Int) * ((↑(polyD
 q).len : Int) - (1 : Int)) - (1 : Int) - (↑x.fst : Int) - ((↑(polyD q).len : Int) - (1 : Int)) ∧ (2 : Int) * ((↑(polyD q).len : Int) - (1 : Int)) - (1 : Int) - (↑x.fst : Int) - ((↑(polyD q).len : Int)
 - (1 : Int)) < (9223372036854775808 : Int)) ∧ ((-9223372036854775808 : Int) ≤ (2 : Int) * ((↑(polyD q).len : Int) - (1 : Int)) - (1 : Int) - (↑x.fst : Int) - ((↑(polyD q).len : Int) - (1 : Int)) +
 (↑x_3.fst : Int) ∧ (2 : Int) * ((↑(polyD q).len : Int) - (1 : Int)) - (1 : Int) - (↑x.fst : Int) - ((↑(polyD q).len : Int) - (1 : Int)) + (↑x_3.fst : Int) < (9223372036854775808 : Int)) ∧
 ((-9223372036854775808 : Int) ≤ (2 : Int) * ((↑(polyD q).len : Int) - (1 : Int)) - (1 : Int) - (↑x.fst : Int) - ((↑(polyD q).len : Int) - (1 : Int)) ∧ (2 : Int) * ((↑(polyD q).len : Int) - (1 : Int))
 - (1 : Int) - (↑x.fst : Int) - ((↑(polyD q).len : Int) - (1 : Int)) < (9223372036854775808 : Int)) ∧ ((-9223372036854775808 : Int) ≤ (2 : Int) * ((↑(polyD q).len : Int) - (1 : Int)) - (1 : Int) -
 (↑x.fst : Int) - ((↑(polyD q).len : Int) - (1 : Int)) + (↑x_3.fst : Int) ∧ (2 : Int) * ((↑(polyD q).len : Int) - (1 : Int)) - (1 : Int) - (↑x.fst : Int) - ((↑(polyD q).len : Int) - (1 : Int)) +
 (↑x_3.fst : Int) < (9223372036854775808 : Int)) ∧ (0 : Int) ≤ (2 : Int) * ((↑(polyD q).len : Int) - (1 : Int)) - (1 : Int) - (↑x.fst : Int) - ((↑(polyD q).len : Int) - (1 : Int)) + (↑x_3.fst : Int) ∧
 (2 : Int) * ((↑(polyD q).len : Int) - (1 : Int)) - (1 : Int) - (↑x.fst : Int) - ((↑(polyD q).len : Int) - (1 : Int)) + (↑x_3.fst : Int) < (↑((2 : Int) * ((↑(polyD q).len : Int) - (1 : Int))).toNat :
 Int) ∧ ((2 : Int) * ((↑(polyD q).len : Int) - (1 : Int)) - (1 : Int) - (↑x.fst : Int) - ((↑(polyD q).len : Int) - (1 : Int)) + (↑x_3.fst : Int)).toNat < x_3.snd.length ∧ ((-9223372036854775808 : Int)
 ≤ fpZ q - (nthD x.snd ((2 : Int) * ((↑(polyD q).len : Int) - (1 : Int)) - (1 : Int) - (↑x.fst : Int)).toNat).asInt ∧ fpZ q - (nthD x.snd ((2 : Int) * ((↑(polyD q).len : Int) - (1 : Int)) - (1 : Int) -
 (↑x.fst : Int)).toNat).asInt < (9223372036854775808 : Int)) ∧ (0 : Int) ≤ (↑x_3.fst : Int) ∧ (↑x_3.fst : Int) < (↑(polyD q).len : Int) ∧ ((-9223372036854775808 : Int) ≤ (fpZ q - (nthD x.snd ((2 : Int)
 * ((↑(polyD q).len : Int) - (1 : Int)) - (1 : Int) - (↑x.fst : Int)).toNat).asInt) * nAt (polyD q) x_3.fst ∧ (fpZ q - (nthD x.snd ((2 : Int) * ((↑(polyD q).len : Int) - (1 : Int)) - (1 : Int) -
 (↑x.fst : Int)).toNat).asInt) * nAt (polyD q) x_3.fst < (9223372036854775808 : Int)) ∧ ((-9223372036854775808 : Int) ≤ (nthD x_3.snd ((2 : Int) * ((↑(polyD q).len : Int) - (1 : Int)) - (1 : Int) -
 (↑x.fst : Int) - ((↑(polyD q).len : Int) - (1 : Int)) + (↑x_3.fst : Int)).toNat).asInt + (fpZ q - (nthD x.snd ((2 : Int) * ((↑(polyD q).len : Int) - (1 : Int)) - (1 : Int) - (↑x.fst :
 Int)).toNat).asInt) * nAt (polyD q) x_3.fst ∧ (nthD x_3.snd ((2 : Int) * ((↑(polyD q).len : Int) - (1 : Int)) - (1 : Int) - (↑x.fst : Int) - ((↑(polyD q).len : Int) - (1 : Int)) + (↑x_3.fst :
 Int)).toNat).asInt + (fpZ q - (nthD x.snd ((2 : Int) * ((↑(polyD q).len : Int) - (1 : Int)) - (1 : Int) - (↑x.fst : Int)).toNat).asInt) * nAt (polyD q) x_3.fst < (9223372036854775808 : Int)) ∧ (fpZ q
 = (0 : Int) → False) ∧ (0 : Int) ≤ (2 : Int) * ((↑(polyD q).len : Int) - (1 : Int)) - (1 : Int) - (↑x.fst : Int) - ((↑(polyD q).len : Int) - (1 : Int)) + (↑x_3.fst : Int) ∧ (2 : Int) * ((↑(polyD
 q).len : Int) - (1 : Int)) - (1 : Int) - (↑x.fst : Int) - ((↑(polyD q).len : Int) - (1 : Int)) + (↑x_3.fst : Int) < (↑((2 : Int) * ((↑(polyD q).len : Int) - (1 : Int))).toNat : Int) ∧ ((2 : Int) *
 ((↑(polyD q).len : Int) - (1 : Int)) - (1 : Int) - (↑x.fst : Int) - ((↑(polyD q).len : Int) - (1 : Int)) + (↑x_3.fst : Int)).toNat < x_3.snd.length ∧ ((-9223372036854775808 : Int) ≤ (↑x_3.fst : Int) +
 (1 : Int) ∧ (↑x_3.fst : Int) + (1 : Int) < (9223372036854775808 : Int)) ∧ ∃ (y : Nat × List D), (y.fst ≤ ((↑(polyD q).len : Int) - (1 : Int)).toNat + (1 : Nat) ∧ y.snd = redI (fpZ q) (polyD q) ((2 :
 Int) * ((↑(polyD q).len : Int) - (1 : Int)) - (1 : Int) - (↑x.fst : Int) - ((↑(polyD q).len : Int) - (1 : Int))).toNat (nthD x.snd ((2 : Int) * ((↑(polyD q).len : Int) - (1 : Int)) - (1 : Int) -
 (↑x.fst : Int)).toNat).asInt x.snd y.fst) ∧ ((↑(polyD q).len : Int) - (1 : Int)).toNat + (1 : Nat) - y.fst < ((↑(polyD q).len : Int) - (1 : Int)).toNat + (1 : Nat) - x_3.fst ∧ ((↑x_3.fst : Int) + (1 :
 Int) = (↑y.fst : Int) ∧ True) ∧ x_3.snd.set ((2 : Int) * ((↑(polyD q).len : Int) - (1 : Int)) - (1 : Int) - (↑x.fst : Int) - ((↑(polyD q).len : Int) - (1 : Int)) + (↑x_3.fst : Int)).toNat (D.int
 (((nthD x_3.snd ((2 : Int) * ((↑(polyD q).len : Int) - (1 : Int)) - (1 : Int) - (↑x.fst : Int) - ((↑(polyD q).len : Int) - (1 : Int)) + (↑x_3.fst : Int)).toNat).asInt + (fpZ q - (nthD x.snd ((2 : Int)
 * ((↑(polyD q).len : Int) - (1 : Int)) - (1 : Int) - (↑x.fst : Int)).toNat).asInt) * nAt (polyD q) x_3.fst).tmod (fpZ q))) = y.snd ∧ True) ∧ (((↑x_3.fst : Int) ≤ (↑(polyD q).len : Int) - (1 : Int) →
 False) → ((-9223372036854775808 : Int) ≤ (2 : Int) * ((↑(polyD q).len : Int) - (1 : Int)) - (1 : Int) - (↑x.fst : Int) - (1 : Int) ∧ (2 : Int) * ((↑(polyD q).len : Int) - (1 : Int)) - (1 : Int) -
 (↑x.fst : Int) - (1 : Int) < (9223372036854775808 : Int)) ∧ ∃ (y : Nat × List D), (y.fst ≤ ((↑(polyD q).len : Int) - (1 : Int)).toNat ∧ y.snd = redO (fpZ q) (polyD q) ((↑(polyD q).len : Int) - (1 :
 Int)).toNat x_2.snd y.fst) ∧ ((↑(polyD q).len : Int) - (1 : Int)).toNat - y.fst < ((↑(polyD q).len : Int) - (1 : Int)).toNat - x.fst ∧ ((2 : Int) * ((↑(polyD q).len : Int) - (1 : Int)) - (1 : Int) -
 (↑x.fst : Int) - (1 : Int) = (2 : Int) * ((↑(polyD q).len : Int) - (1 : Int)) - (1 : Int) - (↑y.fst : Int) ∧ True) ∧ x_3.snd = y.snd ∧ True)) ∧ (((↑(polyD q).len : Int) - (1 : Int) ≤ (2 : Int) *
 ((↑(polyD q).len : Int) - (1 : Int)) - (1 : Int) - (↑x.fst : Int) → False) → (0 : Nat) + ((2 : Int) * ((↑(polyD q).len : Int) - (1 : Int))).toNat ≤ x.snd.length ∧ (pmP (fpZ q) ((↑(polyD q).len : Int)
 - (1 : Int)) ∧ (↑(polyD q).len : Int) - (1 : Int) ≤ (↑(List.take ((2 : Int) * ((↑(polyD q).len : Int) - (1 : Int))).toNat x.snd).length : Int) ∧ digP (fpZ q) (List.take ((2 : Int) * ((↑(polyD q).len :
 Int) - (1 : Int))).toNat x.snd)) ∧ numL (List.take ((2 : Int) * ((↑(polyD q).len : Int) - (1 : Int))).toNat x.snd) (fpZ q) ((↑(polyD q).len : Int) - (1 : Int)).toNat = mulZ q a b)))) := by intros; kernel_rfl
theorem vc11n : ∀ (q a b : Int), symFun (ctx cn1 noAnn) (3 : Nat) (11 : FuncId) [V.int IntKind.i64 q, V.int IntKind.i64 a, V.int IntKind.i64 b] (V.tup [V.int IntKind.i64 (0 : Int), V.prop False]) =
 (True ∧ (((fldP q → False) → False) → ((0 : Int) ≤ a → (((a < fqZ q → False) → False) → ((0 : Int) ≤ b → ((b < fqZ q → False) → (0 : Int) = (0 : Int) ∧ (false = true ↔ False) ∧ True) ∧ (((b < fqZ q →
 False) → False) → False ∧ (0 : Int) = (0 : Int) ∧ (true = true ↔ False) ∧ True)) ∧ (((0 : Int) ≤ b → False) → (0 : Int) = (0 : Int) ∧ (false = true ↔ False) ∧ True)) ∧ ((a < fqZ q → False) → (0 : Int)
 = (0 : Int) ∧ (false = true ↔ False) ∧ True)) ∧ (((0 : Int) ≤ a → False) → (0 : Int) = (0 : Int) ∧ (false = true ↔ False) ∧ True)) ∧ ((fldP q → False) → (0 : Int) = (0 : Int) ∧ (false = true ↔ False)
 ∧ True)) := by intros; kernel_rfl
theorem vc13n : ∀ (q a b : Int), symFun (ctx cn1 noAnn) (3 : Nat) (13 : FuncId) [V.int IntKind.i64 q, V.int IntKind.i64 a, V.int IntKind.i64 b] (V.tup [V.int IntKind.i64 (0 : Int), V.prop False]) =
 (True ∧ (((fldP q → False) → False) → ((0 : Int) ≤ a → (((a < fqZ q → False) → False) → ((0 : Int) ≤ b → ((b < fqZ q → False) → (0 : Int) = (0 : Int) ∧ (false = true ↔ False) ∧ True) ∧ (((b < fqZ q →
 False) → False) → False ∧ (0 : Int) = (0 : Int) ∧ (true = true ↔ False) ∧ True)) ∧ (((0 : Int) ≤ b → False) → (0 : Int) = (0 : Int) ∧ (false = true ↔ False) ∧ True)) ∧ ((a < fqZ q → False) → (0 : Int)
 = (0 : Int) ∧ (false = true ↔ False) ∧ True)) ∧ (((0 : Int) ≤ a → False) → (0 : Int) = (0 : Int) ∧ (false = true ↔ False) ∧ True)) ∧ ((fldP q → False) → (0 : Int) = (0 : Int) ∧ (false = true ↔ False)
 ∧ True)) := by intros; kernel_rfl
theorem vc8 : ∀ (q a b : Int), symFun (ctx cf1 noAnn) (3 : Nat) (8 : FuncId) [V.int IntKind.i64 q, V.int IntKind.i64 a, V.int IntKind.i64 b] (V.prop True) = (True ∧ ((0 : Int) < fpZ q → ((0 : Int) ≤ a
 → (a < q → ((0 : Int) ≤ b → (b < q → okF q a b ∧ okF q a b ∧ True ∧ True ∧ (addA q a b = addZ q a b → (mulA q a b = mulZ q a b → ((okF q a b ↔ true = true) → ((okF q a b ↔ true = true) ↔ True)) ∧
 (((okF q a b ↔ true = true) → False) → (false = true ↔ True))) ∧ ((mulA q a b = mulZ q a b → False) → (false = true ↔ True))) ∧ ((addA q a b = addZ q a b → False) → (false = true ↔ True))) ∧ ((b < q →
 False) → True ∧ True ∧ (addA q a b = (0 : Int) → (mulA q a b = (0 : Int) → ((okF q a b ↔ false = true) → ((okF q a b ↔ false = true) ↔ True)) ∧ (((okF q a b ↔ false = true) → False) → (false = true ↔
 True))) ∧ ((mulA q a b = (0 : Int) → False) → (false = true ↔ True))) ∧ ((addA q a b = (0 : Int) → False) → (false = true ↔ True)))) ∧ (((0 : Int) ≤ b → False) → True ∧ True ∧ (addA q a b = (0 : Int)
 → (mulA q a b = (0 : Int) → ((okF q a b ↔ false = true) → ((okF q a b ↔ false = true) ↔ True)) ∧ (((okF q a b ↔ false = true) → False) → (false = true ↔ True))) ∧ ((mulA q a b = (0 : Int) → False) →
 (false = true ↔ True))) ∧ ((addA q a b = (0 : Int) → False) → (false = true ↔ True)))) ∧ ((a < q → False) → True ∧ True ∧ (addA q a b = (0 : Int) → (mulA q a b = (0 : Int) → ((okF q a b ↔ false =
 true) → ((okF q a b ↔ false = true) ↔ True)) ∧ (((okF q a b ↔ false = true) → False) → (false = true ↔ True))) ∧ ((mulA q a b = (0 : Int) → False) → (false = true ↔ True))) ∧ ((addA q a b = (0 : Int)
 → False) → (false = true ↔ True)))) ∧ (((0 : Int) ≤ a → False) → True ∧ True ∧ (addA q a b = (0 : Int) → (mulA q a b = (0 : Int) → ((okF q a b ↔ false = true) → ((okF q a b ↔ false = true) ↔ True)) ∧
 (((okF q a b ↔ false = true) → False) → (false = true ↔ True))) ∧ ((mulA q a b = (0 : Int) → False) → (false = true ↔ True))) ∧ ((addA q a b = (0 : Int) → False) → (false = true ↔ True)))) ∧ (((0 :
 Int) < fpZ q → False) → True ∧ True ∧ (addA q a b = (0 : Int) → (mulA q a b = (0 : Int) → ((okF q a b ↔ false = true) → ((okF q a b ↔ false = true) ↔ True)) ∧ (((okF q a b ↔ false = true) → False) →
 (false = true ↔ True))) ∧ ((mulA q a b = (0 : Int) → False) → (false = true ↔ True))) ∧ ((addA q a b = (0 : Int) → False) → (false = true ↔ True)))) := by intros; kernel_rfl
theorem s54 (d : D) (p m : Int) (hp : pmP p m) (hm : m ≤ d.len) (hd : digP p d.asList) : symFun (ctx cc0 rfAnn) 3 54 [.dat 24 d, .int .i64 p, .int .i64 m] (.int .i64 (numL d.asList p m.toNat)) := by
 rw [vc54]
 have hr := pm_rng hp
 refine And.intro ⟨0, Nat.zero_le _, And.intro ⟨rfl, rfl, rfl, trivial⟩ trivial⟩ (fun x hx => ?_)
 have hx : x ≤ m.toNat := hx
 refine ⟨lim_of (by omega), fun hlt => ?_, fun hge => ?_⟩
 ·have hl : (d.len : Int) = d.asList.length := rfl
  have h1 := hd.at (i := x) (by omega)
  have h1' : 0 ≤ nAt d x ∧ nAt d x < p := h1
  have h2 := pow_rng hp x hx
  have h3 := num_rng hp hd hm x hx
  have e1 : numL d.asList p (x + 1) = numL d.asList p x + nAt d x * powI p x := rfl
  have h5 : nAt d x * powI p x ≤ 3 * 16 := Int.mul_le_mul (by omega) h2.2 (by omega) (by omega)
  have h4 := Int.mul_nonneg h1'.1 (show 0 ≤ powI p x by omega)
  have h6 : powI p x * p ≤ 16 * 3 := Int.mul_le_mul h2.2 (by omega) (by omega) (by omega)
  have h7 := Int.mul_nonneg (show 0 ≤ powI p x by omega) (show 0 ≤ p by omega)
  refine ⟨by omega, by omega, ⟨by omega, by omega⟩, ⟨by omega, by omega⟩, ⟨by omega, by omega⟩, ⟨by omega, by omega⟩, x + 1, show x + 1 ≤ m.toNat by omega, by omega, And.intro ⟨by omega, rfl, rfl, trivial⟩ trivial⟩
 ·have hge := not_of hge
  rw [show x = m.toNat by omega]
theorem s11n (q a b : Int) (h : ¬ okF q a b) : symFun (ctx cn1 noAnn) 3 11 [.int .i64 q, .int .i64 a, .int .i64 b] (.tup [.int .i64 0, .prop False]) := by
 rw [vc11n]
 have k : fldP q → fqZ q = q := fun h => by unfold fqZ; rw [if_pos h]
 have ff : (false = true ↔ False) := ⟨fun h => (by cases h), fun h => h.elim⟩
 refine ⟨trivial, fun h1 => ⟨fun h2 => ⟨fun h3 => ⟨fun h4 => ⟨fun h5 => ⟨rfl, ff, trivial⟩, fun h5 => ?_⟩, fun h4 => ⟨rfl, ff, trivial⟩⟩, fun h3 => ⟨rfl, ff, trivial⟩⟩, fun h2 => ⟨rfl, ff, trivial⟩⟩, fun h1 => ⟨rfl, ff, trivial⟩⟩
 have hf := Classical.not_not.1 h1
 rw [k hf] at h3 h5
 exact absurd ⟨hf, ⟨h2, Classical.not_not.1 h3⟩, ⟨h4, Classical.not_not.1 h5⟩⟩ h
theorem s13n (q a b : Int) (h : ¬ okF q a b) : symFun (ctx cn1 noAnn) 3 13 [.int .i64 q, .int .i64 a, .int .i64 b] (.tup [.int .i64 0, .prop False]) := by
 rw [vc13n]
 have k : fldP q → fqZ q = q := fun h => by unfold fqZ; rw [if_pos h]
 have ff : (false = true ↔ False) := ⟨fun h => (by cases h), fun h => h.elim⟩
 refine ⟨trivial, fun h1 => ⟨fun h2 => ⟨fun h3 => ⟨fun h4 => ⟨fun h5 => ⟨rfl, ff, trivial⟩, fun h5 => ?_⟩, fun h4 => ⟨rfl, ff, trivial⟩⟩, fun h3 => ⟨rfl, ff, trivial⟩⟩, fun h2 => ⟨rfl, ff, trivial⟩⟩, fun h1 => ⟨rfl, ff, trivial⟩⟩
 have hf := Classical.not_not.1 h1
 rw [k hf] at h3 h5
 exact absurd ⟨hf, ⟨h2, Classical.not_not.1 h3⟩, ⟨h4, Classical.not_not.1 h5⟩⟩ h
theorem s29 (q a b : Int) (h : okF q a b) : symFun (ctxj cr1 rfAnn rfJoin) 4 29 [.int .i64 q, .int .i64 a, .int .i64 b] (.int .i64 (addZ q a b)) := by
 rw [vc29]
 rcases fld_cases h.f with ⟨hl, hp, hq⟩ | ⟨hq, hpm, hpol⟩
 ·have ha := h.a.out; have hb := h.b.out
  refine ⟨trivial, fun _ => ⟨⟨by omega, by omega⟩, by omega, by rw [hp]; exact (ref_pri h.f hl h.a h.b).1⟩, fun hn => absurd (by omega) hn⟩
 have hP0 : fpZ q = 0 → False := fun h => by rw [h] at hpm; have := pm_rng hpm; omega
 have hpr := pm_rng hpm
 have hPp : 0 < fpZ q := by omega
 have ha0 : 0 ≤ a ∧ a ≤ 16 := ⟨h.a.out.1, by have := h.a.out.2; omega⟩
 have hb0 : 0 ≤ b ∧ b ≤ 16 := ⟨h.b.out.1, by have := h.b.out.2; omega⟩
 have h00 : (0 : Int) ≤ 0 ∧ (0 : Int) ≤ 16 := by decide
 have dvR : ∀ {z : Int}, 0 ≤ z ∧ z ≤ 16 → ∀ n, -9223372036854775808 ≤ divI z (fpZ q) n ∧ divI z (fpZ q) n < 9223372036854775808 := fun hz n => by have := div_rng hPp hz.1 n; omega
 refine ⟨trivial, fun hn => by omega, fun _ => ⟨⟨by omega, by omega⟩, And.intro (Or.inl ⟨0, rfl, And.intro ⟨rfl, trivial, rfl, trivial⟩ trivial⟩) (And.intro
  (fun x hx => ⟨lim_of (by omega), fun hlt => ⟨hP0, Nat.le_refl _, by omega, hP0, dvR ha0 1, ⟨by omega, by omega⟩, Or.inr ⟨1, ⟨by omega, by omega⟩, by omega, ⟨by omega, ⟨rfl, rfl, trivial⟩, rfl, trivial⟩, rfl, trivial⟩⟩, fun h => absurd (show (0 : Int) < (↑(polyD q).len : Int) - 1 by omega) h⟩)
  (fun x hx => ⟨lim_of (by omega), fun hlt => ⟨hP0, Nat.le_refl _, by rw [dig_len]; omega, by omega, hP0, dvR ha0 (x + 1), ⟨by omega, by omega⟩, Or.inr ⟨x + 1, ⟨by omega, by omega⟩, by omega, ⟨by omega, ⟨rfl, rfl, trivial⟩, rfl, trivial⟩, by rw [List.take_of_length_le (by rw [dig_len]; exact Nat.le_refl _)]; rfl, trivial⟩⟩, fun hge => have hge := not_of hge; And.intro (Or.inl ⟨0, rfl, And.intro ⟨rfl, trivial, rfl, trivial⟩ trivial⟩) (And.intro
  (fun z hz => ⟨lim_of (by omega), fun hlt => ⟨hP0, Nat.le_refl _, by omega, hP0, dvR hb0 1, ⟨by omega, by omega⟩, Or.inr ⟨1, ⟨by omega, by omega⟩, by omega, ⟨by omega, ⟨rfl, rfl, trivial⟩, rfl, trivial⟩, rfl, trivial⟩⟩, fun h => absurd (show (0 : Int) < (↑(polyD q).len : Int) - 1 by omega) h⟩)
  (fun z hz => ⟨lim_of (by omega), fun hlt => ⟨hP0, Nat.le_refl _, by rw [dig_len]; omega, by omega, hP0, dvR hb0 (z + 1), ⟨by omega, by omega⟩, Or.inr ⟨z + 1, ⟨by omega, by omega⟩, by omega, ⟨by omega, ⟨rfl, rfl, trivial⟩, rfl, trivial⟩, by rw [List.take_of_length_le (by rw [dig_len]; exact Nat.le_refl _)]; rfl, trivial⟩⟩, fun hge1 => have hge1 := not_of hge1; ⟨(digL a (fpZ q) (((polyD q).len : Int) - 1).toNat, digL b (fpZ q) (((polyD q).len : Int) - 1).toNat), ⟨rfl, rfl⟩, ⟨⟨rfl, by omega, trivial⟩, ⟨rfl, by omega, trivial⟩, trivial⟩, congrArg _ (by omega), congrArg _ (by omega), trivial⟩⟩))⟩)), fun x hx => ?_⟩⟩
 obtain ⟨xs, ys⟩ := x
 dsimp only
 obtain ⟨hxs, hys⟩ := hx
 have hxs : xs = digL a (fpZ q) (((polyD q).len : Int) - 1).toNat := hxs
 have hys : ys = digL b (fpZ q) (((polyD q).len : Int) - 1).toNat := hys
 have hdx : digP (fpZ q) xs := by rw [hxs]; exact dig_dig hPp ha0.1 _
 have hdy : digP (fpZ q) ys := by rw [hys]; exact dig_dig hPp hb0.1 _
 have hlx : xs.length = (((polyD q).len : Int) - 1).toNat := by rw [hxs, dig_len]
 have hly : ys.length = (((polyD q).len : Int) - 1).toNat := by rw [hys, dig_len]
 refine And.intro ⟨(0, xs), ⟨Nat.zero_le _, rfl⟩, ⟨rfl, trivial⟩, rfl, trivial⟩ (fun x hx => ?_)
 obtain ⟨k, l⟩ := x
 dsimp only
 obtain ⟨hk, hl⟩ := hx
 have hk : k ≤ (((polyD q).len : Int) - 1).toNat := hk
 have hl : l = addL (fpZ q) xs ys k := hl
 have hll : l.length = xs.length := by rw [hl, addL_len]
 have hdl : digP (fpZ q) l := by rw [hl]; exact addL_dig hPp hdx hdy (by omega) k (by omega)
 refine ⟨lim_of (by omega), fun hlt => ?_, fun hge => ?_⟩
 ·have hlt : (k : Int) < ((polyD q).len : Int) - 1 := hlt
  have h1 := hdl.at (i := k) (by omega)
  have h2 := hdy.at (i := k) (by omega)
  refine ⟨by omega, by omega, show k < l.length by omega, by omega, by omega, show k < ys.length by omega, ⟨by omega, by omega⟩, hP0, by omega, by omega, show k < l.length by omega, ⟨by omega, by omega⟩, (k + 1, addL (fpZ q) xs ys (k + 1)), ⟨show k + 1 ≤ _ by omega, rfl⟩, show _ - (k + 1) < _ - k by omega, ⟨by omega, trivial⟩, ?_, trivial⟩
  dsimp only
  rw [addL_succ, ← hl, upd_eq hdl]
 ·have hge : ¬ (k : Int) < ((polyD q).len : Int) - 1 := hge
  have hkk : k = (((polyD q).len : Int) - 1).toNat := by omega
  have ht : List.take (((polyD q).len : Int) - 1).toNat l = l := List.take_of_length_le (by omega)
  refine ⟨show 0 + _ ≤ l.length by omega, ⟨hpm, show _ ≤ ((List.take _ l).length : Int) by rw [ht]; omega, show digP _ (List.take _ l) by rw [ht]; exact hdl⟩, ?_⟩
  show numL (List.take _ l) _ _ = _
  rw [ht, hl, hkk, hxs, hys]
  exact (ref_pow (m := (((polyD q).len : Int) - 1).toNat) (k := 2 * (((polyD q).len : Int) - 1).toNat) hq (by omega) rfl h.a h.b).1
theorem s30 (q a b : Int) (h : okF q a b) : symFun (ctxj cr1 rfAnn rfJoin) 4 30 [.int .i64 q, .int .i64 a, .int .i64 b] (.int .i64 (mulZ q a b)) := by
 rw [vc30]
 rcases fld_cases h.f with ⟨hl, hp, hq⟩ | ⟨hq, hpm, hpol⟩
 ·have ha := h.a.out; have hb := h.b.out
  have h1 := Int.mul_nonneg ha.1 hb.1
  have h2 : a * b ≤ 13 * 13 := Int.mul_le_mul (by omega) (by omega) hb.1 (by omega)
  refine ⟨trivial, fun _ => ⟨⟨by omega, by omega⟩, by omega, by rw [hp]; exact (ref_pri h.f hl h.a h.b).2⟩, fun hn => absurd (by omega) hn⟩
 have hP0 : fpZ q = 0 → False := fun h => by rw [h] at hpm; have := pm_rng hpm; omega
 have hpr := pm_rng hpm
 have hPp : 0 < fpZ q := by omega
 have ha0 : 0 ≤ a ∧ a ≤ 16 := ⟨h.a.out.1, by have := h.a.out.2; omega⟩
 have hb0 : 0 ≤ b ∧ b ≤ 16 := ⟨h.b.out.1, by have := h.b.out.2; omega⟩
 have h00 : (0 : Int) ≤ 0 ∧ (0 : Int) ≤ 16 := by decide
 have dvR : ∀ {z : Int}, 0 ≤ z ∧ z ≤ 16 → ∀ n, -9223372036854775808 ≤ divI z (fpZ q) n ∧ divI z (fpZ q) n < 9223372036854775808 := fun hz n => by have := div_rng hPp hz.1 n; omega
 refine ⟨trivial, fun hn => by omega, fun _ => ⟨⟨by omega, by omega⟩, And.intro (Or.inl ⟨0, rfl, And.intro ⟨rfl, trivial, rfl, trivial⟩ trivial⟩) (And.intro
  (fun x hx => ⟨lim_of (by omega), fun hlt => ⟨hP0, Nat.le_refl _, by omega, hP0, dvR ha0 1, ⟨by omega, by omega⟩, Or.inr ⟨1, ⟨by omega, by omega⟩, by omega, ⟨by omega, ⟨rfl, rfl, trivial⟩, rfl, trivial⟩, rfl, trivial⟩⟩, fun h => absurd (show (0 : Int) < (↑(polyD q).len : Int) - 1 by omega) h⟩)
  (fun x hx => ⟨lim_of (by omega), fun hlt => ⟨hP0, Nat.le_refl _, by rw [dig_len]; omega, by omega, hP0, dvR ha0 (x + 1), ⟨by omega, by omega⟩, Or.inr ⟨x + 1, ⟨by omega, by omega⟩, by omega, ⟨by omega, ⟨rfl, rfl, trivial⟩, rfl, trivial⟩, by rw [List.take_of_length_le (by rw [dig_len]; exact Nat.le_refl _)]; rfl, trivial⟩⟩, fun hge => have hge := not_of hge; And.intro (Or.inl ⟨0, rfl, And.intro ⟨rfl, trivial, rfl, trivial⟩ trivial⟩) (And.intro
  (fun z hz => ⟨lim_of (by omega), fun hlt => ⟨hP0, Nat.le_refl _, by omega, hP0, dvR hb0 1, ⟨by omega, by omega⟩, Or.inr ⟨1, ⟨by omega, by omega⟩, by omega, ⟨by omega, ⟨rfl, rfl, trivial⟩, rfl, trivial⟩, rfl, trivial⟩⟩, fun h => absurd (show (0 : Int) < (↑(polyD q).len : Int) - 1 by omega) h⟩)
  (fun z hz => ⟨lim_of (by omega), fun hlt => ⟨hP0, Nat.le_refl _, by rw [dig_len]; omega, by omega, hP0, dvR hb0 (z + 1), ⟨by omega, by omega⟩, Or.inr ⟨z + 1, ⟨by omega, by omega⟩, by omega, ⟨by omega, ⟨rfl, rfl, trivial⟩, rfl, trivial⟩, by rw [List.take_of_length_le (by rw [dig_len]; exact Nat.le_refl _)]; rfl, trivial⟩⟩, fun hge1 => have hge1 := not_of hge1; ⟨(digL a (fpZ q) (((polyD q).len : Int) - 1).toNat, digL b (fpZ q) (((polyD q).len : Int) - 1).toNat), ⟨rfl, rfl⟩, ⟨⟨rfl, by omega, trivial⟩, ⟨rfl, by omega, trivial⟩, trivial⟩, congrArg _ (by omega), congrArg _ (by omega), trivial⟩⟩))⟩)), fun x hx => ?_⟩⟩
 obtain ⟨xs, ys⟩ := x
 dsimp only
 obtain ⟨hxs, hys⟩ := hx
 have hxs : xs = digL a (fpZ q) (((polyD q).len : Int) - 1).toNat := hxs
 have hys : ys = digL b (fpZ q) (((polyD q).len : Int) - 1).toNat := hys
 have hdx : digP (fpZ q) xs := by rw [hxs]; exact dig_dig hPp ha0.1 _
 have hdy : digP (fpZ q) ys := by rw [hys]; exact dig_dig hPp hb0.1 _
 have hlx : xs.length = (((polyD q).len : Int) - 1).toNat := by rw [hxs, dig_len]
 have hly : ys.length = (((polyD q).len : Int) - 1).toNat := by rw [hys, dig_len]
 refine And.intro (And.intro ⟨by omega, by omega⟩ (And.intro (Or.inl ⟨0, rfl, And.intro ⟨rfl, trivial, rfl, trivial⟩ trivial⟩) (And.intro
  (fun x hx => ⟨lim_of (by omega), fun hlt => ⟨hP0, Nat.le_refl _, by omega, hP0, dvR h00 1, ⟨by omega, by omega⟩, Or.inr ⟨1, ⟨by omega, by omega⟩, by omega, ⟨by omega, ⟨rfl, rfl, trivial⟩, rfl, trivial⟩, rfl, trivial⟩⟩, fun h => absurd (show (0 : Int) < 2 * ((↑(polyD q).len : Int) - 1) by omega) h⟩)
  (fun x hx => ⟨lim_of (by omega), fun hlt => ⟨hP0, Nat.le_refl _, by rw [dig_len]; omega, by omega, hP0, dvR h00 (x + 1), ⟨by omega, by omega⟩, Or.inr ⟨x + 1, ⟨by omega, by omega⟩, by omega, ⟨by omega, ⟨rfl, rfl, trivial⟩, rfl, trivial⟩, by rw [List.take_of_length_le (by rw [dig_len]; exact Nat.le_refl _)]; rfl, trivial⟩⟩, fun hge => have hge := not_of hge; ⟨digL 0 (fpZ q) (2 * (((polyD q).len : Int) - 1)).toNat, rfl, ⟨⟨rfl, by omega, trivial⟩, trivial⟩, congrArg _ (by omega), trivial⟩⟩)))) (fun d0 hd0 => ?_)
 have hdd : digP (fpZ q) d0 := by rw [hd0]; exact dig_dig hPp (Int.le_refl 0) _
 have hld : d0.length = (2 * (((polyD q).len : Int) - 1)).toNat := by rw [hd0, dig_len]
 refine And.intro ⟨(0, d0), ⟨Nat.zero_le _, rfl⟩, ⟨rfl, trivial⟩, rfl, trivial⟩ (fun x hx => ?_)
 obtain ⟨i, l⟩ := x
 dsimp only
 obtain ⟨hi, hl⟩ := hx
 have hi : i ≤ (((polyD q).len : Int) - 1).toNat := hi
 have hl : l = mulO (fpZ q) xs ys (((polyD q).len : Int) - 1).toNat d0 i := hl
 have hll : l.length = d0.length := by rw [hl, mulO_len]
 have hdl : digP (fpZ q) l := by rw [hl, ← hly]; exact mulO_dig hPp hdx hdy hdd (by omega) i (by omega)
 refine ⟨lim_of (by omega), fun hlt => ?_, fun hge => ?_⟩
 ·have hlt : (i : Int) < ((polyD q).len : Int) - 1 := hlt
  refine And.intro ⟨(0, l), ⟨Nat.zero_le _, rfl⟩, ⟨rfl, trivial⟩, rfl, trivial⟩ (fun x hx => ?_)
  obtain ⟨k, r⟩ := x
  dsimp only
  obtain ⟨hk, hr⟩ := hx
  have hk : k ≤ (((polyD q).len : Int) - 1).toNat := hk
  have hr : r = mulI (fpZ q) xs ys i l k := hr
  have hlr : r.length = l.length := by rw [hr, mulI_len]
  have hdr : digP (fpZ q) r := by rw [hr]; exact mulI_dig hPp hdx hdy hdl (by omega) (by omega) k (by omega)
  refine ⟨lim_of (by omega), fun hlt2 => ?_, fun hge => ?_⟩
  ·have hlt2 : (k : Int) < ((polyD q).len : Int) - 1 := hlt2
   have e : ((i : Int) + (k : Int)).toNat = i + k := by omega
   have h1 := hdr.at (i := i + k) (by omega)
   have h2 := hdx.at (i := i) (by omega)
   have h3 := hdy.at (i := k) (by omega)
   have h4 := Int.mul_nonneg h2.1 h3.1
   have h5 : (nthD xs i).asInt * (nthD ys k).asInt ≤ 3 * 3 := Int.mul_le_mul (by omega) (by omega) h3.1 (by omega)
   have h6 : -9223372036854775808 ≤ (nthD r ((i : Int) + (k : Int)).toNat).asInt + (nthD xs i).asInt * (nthD ys k).asInt ∧ (nthD r ((i : Int) + (k : Int)).toNat).asInt + (nthD xs i).asInt * (nthD ys k).asInt < 9223372036854775808 := by rw [e]; omega
   refine ⟨⟨by omega, by omega⟩, ⟨by omega, by omega⟩, by omega, by omega, show ((i : Int) + (k : Int)).toNat < r.length by omega, by omega, by omega, show i < xs.length by omega, by omega, by omega, show k < ys.length by omega, ⟨by omega, by omega⟩, h6, hP0, by omega, by omega, show ((i : Int) + (k : Int)).toNat < r.length by omega, ⟨by omega, by omega⟩, (k + 1, mulI (fpZ q) xs ys i l (k + 1)), ⟨show k + 1 ≤ _ by omega, rfl⟩, show _ - (k + 1) < _ - k by omega, ⟨by omega, trivial⟩, ?_, trivial⟩
   dsimp only
   rw [mulI_succ, ← hr, upd_eq hdr, e]
  ·have hge : ¬ (k : Int) < ((polyD q).len : Int) - 1 := hge
   have hkk : k = (((polyD q).len : Int) - 1).toNat := by omega
   refine ⟨⟨by omega, by omega⟩, (i + 1, mulO (fpZ q) xs ys (((polyD q).len : Int) - 1).toNat d0 (i + 1)), ⟨show i + 1 ≤ _ by omega, rfl⟩, show _ - (i + 1) < _ - i by omega, ⟨by omega, trivial⟩, ?_, trivial⟩
   dsimp only
   rw [mulO_succ, hr, hl, hkk]
 ·have hge : ¬ (i : Int) < ((polyD q).len : Int) - 1 := hge
  have hii : i = (((polyD q).len : Int) - 1).toNat := by omega
  have hred := redO_all (m := (((polyD q).len : Int) - 1).toNat) hPp hpol hdl (by omega)
  refine ⟨⟨by omega, by omega⟩, ⟨by omega, by omega⟩, ⟨(0, l), ⟨Nat.zero_le _, rfl⟩, ⟨by omega, trivial⟩, rfl, trivial⟩, fun x hx => ?_⟩
  obtain ⟨x, r⟩ := x
  dsimp only
  obtain ⟨hx, hr⟩ := hx
  have hx : x ≤ (((polyD q).len : Int) - 1).toNat := hx
  have hr : r = redO (fpZ q) (polyD q) (((polyD q).len : Int) - 1).toNat l x := hr
  have hdr : digP (fpZ q) r := by rw [hr]; exact (hred x hx).1
  have hlr : r.length = 2 * (((polyD q).len : Int) - 1).toNat := by rw [hr]; exact (hred x hx).2
  refine ⟨lim_of (by omega), fun hlt => ?_, fun hge => ?_⟩
  ·have hlt : ((polyD q).len : Int) - 1 ≤ 2 * (((polyD q).len : Int) - 1) - 1 - (x : Int) := hlt
   have e1 : (2 * (((polyD q).len : Int) - 1) - 1 - (x : Int)).toNat = 2 * (((polyD q).len : Int) - 1).toNat - 1 - x := by omega
   have e2 : (2 * (((polyD q).len : Int) - 1) - 1 - (x : Int) - (((polyD q).len : Int) - 1)).toNat = (((polyD q).len : Int) - 1).toNat - 1 - x := by omega
   have hkr := hdr.at (i := 2 * (((polyD q).len : Int) - 1).toNat - 1 - x) (by omega)
   rw [← e1] at hkr
   refine ⟨by omega, by omega, show _ < r.length by omega, ⟨(0, r), ⟨Nat.zero_le _, rfl⟩, ⟨rfl, trivial⟩, rfl, trivial⟩, fun y hy => ?_⟩
   obtain ⟨k, u⟩ := y
   dsimp only
   obtain ⟨hk, hu⟩ := hy
   have hk : k ≤ (((polyD q).len : Int) - 1).toNat + 1 := hk
   have hu : u = redI (fpZ q) (polyD q) (2 * (((polyD q).len : Int) - 1) - 1 - (x : Int) - (((polyD q).len : Int) - 1)).toNat (nthD r (2 * (((polyD q).len : Int) - 1) - 1 - (x : Int)).toNat).asInt r k := hu
   have hdu : digP (fpZ q) u := by rw [hu]; exact redI_dig hPp hpol hdr hkr.2 k (by omega)
   have hlu : u.length = r.length := by rw [hu, redI_len]
   refine ⟨lim_of (by omega), fun hlt2 => ?_, fun hge => ?_⟩
   ·have hlt2 : (k : Int) ≤ ((polyD q).len : Int) - 1 := hlt2
    have e3 : (2 * (((polyD q).len : Int) - 1) - 1 - (x : Int) - (((polyD q).len : Int) - 1) + (k : Int)).toNat = (2 * (((polyD q).len : Int) - 1) - 1 - (x : Int) - (((polyD q).len : Int) - 1)).toNat + k := by omega
    have h1 := hdu.at (i := (2 * (((polyD q).len : Int) - 1) - 1 - (x : Int) - (((polyD q).len : Int) - 1)).toNat + k) (by omega)
    rw [← e3] at h1
    have h2 := hpol.out k
    have h3 := Int.mul_nonneg (show 0 ≤ fpZ q - (nthD r (2 * (((polyD q).len : Int) - 1) - 1 - (x : Int)).toNat).asInt by omega) h2.1
    have h4 : (fpZ q - (nthD r (2 * (((polyD q).len : Int) - 1) - 1 - (x : Int)).toNat).asInt) * nAt (polyD q) k ≤ 3 * 1 := Int.mul_le_mul (by omega) h2.2 h2.1 (by omega)
    refine ⟨⟨by omega, by omega⟩, ⟨by omega, by omega⟩, ⟨by omega, by omega⟩, ⟨by omega, by omega⟩, by omega, by omega, show _ < u.length by omega, ⟨by omega, by omega⟩, by omega, by omega, ⟨by omega, by omega⟩, ⟨by omega, by omega⟩, hP0, by omega, by omega, show _ < u.length by omega, ⟨by omega, by omega⟩, (k + 1, redI (fpZ q) (polyD q) (2 * (((polyD q).len : Int) - 1) - 1 - (x : Int) - (((polyD q).len : Int) - 1)).toNat (nthD r (2 * (((polyD q).len : Int) - 1) - 1 - (x : Int)).toNat).asInt r (k + 1)), ⟨show k + 1 ≤ _ by omega, rfl⟩, show _ - (k + 1) < _ - k by omega, ⟨by omega, trivial⟩, ?_, trivial⟩
    dsimp only
    rw [redI_succ, ← hu, upd_eq hdu, e3]
   ·have hge : ¬ (k : Int) ≤ ((polyD q).len : Int) - 1 := hge
    have hkk : k = (((polyD q).len : Int) - 1).toNat + 1 := by omega
    refine ⟨⟨by omega, by omega⟩, (x + 1, redO (fpZ q) (polyD q) (((polyD q).len : Int) - 1).toNat l (x + 1)), ⟨show x + 1 ≤ _ by omega, rfl⟩, show _ - (x + 1) < _ - x by omega, ⟨by omega, trivial⟩, ?_, trivial⟩
    show u = _
    rw [redO_eq (by rw [← hr]; exact hdr), ← hr, hu, hkk, e1, e2]
  ·have hge : ¬ ((polyD q).len : Int) - 1 ≤ 2 * (((polyD q).len : Int) - 1) - 1 - (x : Int) := hge
   have hxx : x = (((polyD q).len : Int) - 1).toNat := by omega
   have ht : List.take (2 * (((polyD q).len : Int) - 1)).toNat r = r := List.take_of_length_le (by omega)
   refine ⟨show 0 + _ ≤ r.length by omega, ⟨hpm, show _ ≤ ((List.take _ r).length : Int) by rw [ht]; omega, show digP _ (List.take _ r) by rw [ht]; exact hdr⟩, ?_⟩
   show numL (List.take _ r) _ _ = _
   rw [ht, hr, hxx, hl, hii, hd0, hxs, hys]
   exact (ref_pow (m := (((polyD q).len : Int) - 1).toNat) (k := (2 * (((polyD q).len : Int) - 1)).toNat) hq (by omega) (by omega) h.a h.b).2
theorem fp_pos {q : Int} : 0 < fpZ q ↔ fldP q := by
 constructor
 ·intro h
  have key : ∀ n : Nat, 0 < prN n → n = 2 ∨ n = 3 ∨ n = 4 ∨ n = 5 ∨ n = 7 ∨ n = 8 ∨ n = 9 ∨ n = 11 ∨ n = 13 ∨ n = 16 := fun n => by
   unfold prN
   have e : ∀ k : Nat, Nat.beq n k = true → n = k := fun k h => Nat.eq_of_beq_eq_true h
   cases h2 : Nat.beq n 2 <;> cases h3 : Nat.beq n 3 <;> cases h4 : Nat.beq n 4 <;> cases h5 : Nat.beq n 5 <;> cases h7 : Nat.beq n 7 <;> first | (have := e _ h2; omega) | (have := e _ h3; omega) | (have := e _ h4; omega) | (have := e _ h5; omega) | (have := e _ h7; omega) | skip
   cases h8 : Nat.beq n 8 <;> cases h9 : Nat.beq n 9 <;> cases h11 : Nat.beq n 11 <;> cases h13 : Nat.beq n 13 <;> cases h16 : Nat.beq n 16 <;> first | (have := e _ h8; omega) | (have := e _ h9; omega) | (have := e _ h11; omega) | (have := e _ h13; omega) | (have := e _ h16; omega) | skip
   intro h
   exact absurd h (by decide)
  have h0 : 0 < prN q.toNat := by
   have : (0 : Int) < (prN q.toNat : Nat) := h
   omega
  have := key _ h0
  exact ⟨by omega⟩
 ·intro h
  rcases h.out with rfl | rfl | rfl | rfl | rfl | rfl | rfl | rfl | rfl | rfl <;> decide
theorem fp_zero {q : Int} (h : ¬ fldP q) : fpZ q = 0 := by
 have : ¬ 0 < fpZ q := fun k => h (fp_pos.1 k)
 have : 0 ≤ fpZ q := Int.natCast_nonneg _
 omega
theorem pr0 {n : Nat} (h : ¬ 0 < prN n) : rsN n = 0 := by
 unfold prN at h; unfold rsN
 cases h2 : Nat.beq n 2 <;> simp only [h2, cond_true, cond_false] at h ⊢
 cases h3 : Nat.beq n 3 <;> simp only [h3, cond_true, cond_false] at h ⊢
 cases h4 : Nat.beq n 4 <;> simp only [h4, cond_true, cond_false] at h ⊢
 all_goals first | exact absurd (by decide) h | skip
 cases h5 : Nat.beq n 5 <;> simp only [h5, cond_true, cond_false] at h ⊢
 cases h7 : Nat.beq n 7 <;> simp only [h7, cond_true, cond_false] at h ⊢
 cases h8 : Nat.beq n 8 <;> simp only [h8, cond_true, cond_false] at h ⊢
 all_goals first | exact absurd (by decide) h | skip
 cases h9 : Nat.beq n 9 <;> simp only [h9, cond_true, cond_false] at h ⊢
 all_goals first | exact absurd (by decide) h | skip
 cases h11 : Nat.beq n 11 <;> simp only [h11, cond_true, cond_false] at h ⊢
 cases h13 : Nat.beq n 13 <;> simp only [h13, cond_true, cond_false] at h ⊢
 cases h16 : Nat.beq n 16 <;> simp only [h16, cond_true, cond_false] at h ⊢
 all_goals first | exact absurd (by decide) h | skip
theorem s34 (q : Int) : symFun (ctx cc0 noAnn) 3 34 [.int .i64 q] (.tup [.agg [.int .i64 (fqZ q), .int .i64 (fpZ q), .int .i64 (frZ q)], .prop (fldP q)]) := by
 rw [vc34]
 have k : ∀ q, fldP q → q = fqZ q := fun q h => by unfold fqZ; rw [if_pos h]
 by_cases hq : fldP q
 ·rcases hq.out with rfl | rfl | rfl | rfl | rfl | rfl | rfl | rfl | rfl | rfl
  all_goals
   repeat' (first | apply And.intro | intro _)
   all_goals first | exact trivial | exact k _ hq | decide | exact iff_of_true rfl hq | (exfalso; first | omega | solve_by_elim)
 ·have h0 : fqZ q = 0 := by unfold fqZ; rw [if_neg hq]
  have h1 : fpZ q = 0 := fp_zero hq
  have h2 : frZ q = 0 := by
   have : rsN q.toNat = 0 := pr0 (fun h => hq (fp_pos.1 (show (0 : Int) < (prN q.toNat : Nat) by omega)))
   show ((rsN q.toNat : Nat) : Int) = 0
   omega
  repeat' (first | apply And.intro | intro _)
  all_goals first | exact trivial | exact h0.symm | exact h1.symm | exact h2.symm | (exfalso; subst_vars; exact hq ⟨by decide⟩) | exact iff_of_false (fun h => (by cases h)) hq
theorem s28 (q : Int) : symFun (ctx cc0 noAnn) 3 28 [.int .i64 q] (.tup [.int .i64 (fpZ q), .dat 24 (polyD q)]) := by
 rw [vc28]
 by_cases hq : fldP q
 ·rcases hq.out with rfl | rfl | rfl | rfl | rfl | rfl | rfl | rfl | rfl | rfl
  all_goals
   repeat' (first | apply And.intro | intro _)
   all_goals first | exact trivial | decide | exact Nat.le_refl _ | rfl | (exfalso; first | omega | solve_by_elim) | kernel_rfl
 ·have h1 : fpZ q = 0 := fp_zero hq
  have h2 : polyD q = .nil := by
   unfold polyD
   rw [if_neg (fun h => hq ⟨by omega⟩), if_neg (fun h => hq ⟨by omega⟩), if_neg (fun h => hq ⟨by omega⟩), if_neg (fun h => hq ⟨by omega⟩)]
  repeat' (first | apply And.intro | intro _)
  all_goals first | exact trivial | exact h1.symm | exact h2.symm | (exfalso; subst_vars; exact hq ⟨by decide⟩)
theorem s8 (q a b : Int) : symFun (ctx cf1 noAnn) 3 8 [.int .i64 q, .int .i64 a, .int .i64 b] (.prop True) := by
 rw [vc8]
 have no : ∀ {w : Prop}, ¬ okF q a b → True ∧ True ∧ ((addA q a b = 0 → (mulA q a b = 0 → ((okF q a b ↔ false = true) → ((okF q a b ↔ false = true) ↔ True)) ∧ (((okF q a b ↔ false = true) → False) → (false = true ↔ True))) ∧ ((mulA q a b = 0 → False) → (false = true ↔ True))) ∧ ((addA q a b = 0 → False) → (false = true ↔ True))) := fun hn => by
  have e1 : addA q a b = 0 := by unfold addA; rw [if_neg hn]
  have e2 : mulA q a b = 0 := by unfold mulA; rw [if_neg hn]
  have e3 : (okF q a b ↔ false = true) := ⟨fun h => absurd h hn, fun h => (by cases h)⟩
  exact ⟨trivial, trivial, fun _ => ⟨fun _ => ⟨fun h => ⟨fun _ => trivial, fun _ => h⟩, fun h => absurd e3 h⟩, fun h => absurd e2 h⟩, fun h => absurd e1 h⟩
 refine ⟨trivial, fun h1 => ⟨fun h2 => ⟨fun h3 => ⟨fun h4 => ⟨fun h5 => ?_, fun h5 => no (w := True) fun h => absurd h.b.out.2 h5⟩, fun h4 => no (w := True) fun h => absurd h.b.out.1 h4⟩, fun h3 => no (w := True) fun h => absurd h.a.out.2 h3⟩, fun h2 => no (w := True) fun h => absurd h.a.out.1 h2⟩, fun h1 => no (w := True) fun h => absurd (fp_pos.2 h.f) h1⟩
 have ok : okF q a b := ⟨fp_pos.1 h1, ⟨h2, h3⟩, ⟨h4, h5⟩⟩
 have e1 : addA q a b = addZ q a b := by unfold addA; rw [if_pos ok]
 have e2 : mulA q a b = mulZ q a b := by unfold mulA; rw [if_pos ok]
 have e3 : (okF q a b ↔ true = true) := ⟨fun _ => rfl, fun _ => ok⟩
 exact ⟨ok, ok, trivial, trivial, fun _ => ⟨fun _ => ⟨fun h => ⟨fun _ => trivial, fun _ => h⟩, fun h => absurd e3 h⟩, fun h => absurd e2 h⟩, fun h => absurd e1 h⟩
end Go.Ev
