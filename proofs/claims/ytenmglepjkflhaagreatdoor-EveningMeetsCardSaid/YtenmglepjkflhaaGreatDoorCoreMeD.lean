/-
  Part of the engine that the claim is proved with: it states nothing of the document by itself.
-/
import Derived.Test.YtenmglepjkflhaaGreatDoorCoreMeC
open Go.Proofs
namespace Go.Ev
set_option maxRecDepth 100000
set_option maxHeartbeats 4000000
theorem me17 : ∀ (s : D) (a b : Int), symFun (ctx re1 reAnn) (3 : Nat) (17 : FuncId) [V.dat (22 : TypeId) s, V.int IntKind.i64 a, V.int IntKind.i64 b] (V.dat (27 : TypeId) (listD (rtS s a b s.len))) =
(((∃ (x : Nat), (x ≤ s.len ∧ rtS s a b x = []) ∧ ((0 : Int) = (↑x : Int) ∧ True ∧ True) ∧ True) ∨ ∃ (x : Nat), (x ≤ s.len ∧ (rtS s a b x = [] → False)) ∧ ((0 : Int) = (↑x : Int) ∧ False ∧ True) ∧
False ∧ True) ∧ (∀ (x : Nat), x ≤ s.len ∧ rtS s a b x = [] → s.len - x < LIM ∧ ((↑x : Int) < (↑s.len : Int) → ((∃ (x_1 : Nat), (x_1 ≤ (el s x).len ∧ rtQ s a b x x_1 = []) ∧ ((0 : Int) = (↑x_1 : Int) ∧
True ∧ True) ∧ True) ∨ ∃ (x_1 : Nat), (x_1 ≤ (el s x).len ∧ (rtQ s a b x x_1 = [] → False)) ∧ ((0 : Int) = (↑x_1 : Int) ∧ False ∧ True) ∧ False ∧ True) ∧ (∀ (x_1 : Nat), x_1 ≤ (el s x).len ∧ rtQ s a b
x x_1 = [] → (el s x).len - x_1 < LIM ∧ (0 : Int) ≤ (↑x : Int) ∧ (↑x : Int) < (↑s.len : Int) ∧ ((↑x_1 : Int) < (↑(el s x).len : Int) → (0 : Int) ≤ (↑x : Int) ∧ (↑x : Int) < (↑s.len : Int) ∧ (0 : Int)
≤ (↑x_1 : Int) ∧ (↑x_1 : Int) < (↑(el s x).len : Int) ∧ (el (el s x) x_1).len ≤ (16777216 : Nat) ∧ (hasT (el (el s x) x_1) a → (0 : Int) ≤ (↑x : Int) ∧ (↑x : Int) < (↑s.len : Int) ∧ (0 : Int) ≤ (↑x_1
: Int) ∧ (↑x_1 : Int) < (↑(el s x).len : Int) ∧ (el (el s x) x_1).len ≤ (16777216 : Nat) ∧ (hasT (el (el s x) x_1) b → (0 : Nat) + (1 : Nat) ≤ [D.int (↑x : Int)].length ∧ (1 : Nat) ≤ (16777216 : Nat)
∧ ((-9223372036854775808 : Int) ≤ (↑x_1 : Int) + (1 : Int) ∧ (↑x_1 : Int) + (1 : Int) < (9223372036854775808 : Int)) ∧ ((∃ (y : Nat), (y ≤ (el s x).len ∧ rtQ s a b x y = []) ∧ (el s x).len - y < (el s
x).len - x_1 ∧ ((↑x_1 : Int) + (1 : Int) = (↑y : Int) ∧ False ∧ True) ∧ True) ∨ ∃ (y : Nat), (y ≤ (el s x).len ∧ (rtQ s a b x y = [] → False)) ∧ (el s x).len - y < (el s x).len - x_1 ∧ ((↑x_1 : Int) +
(1 : Int) = (↑y : Int) ∧ ((0 : Nat) = (0 : Nat) ∧ (1 : Nat) = (rtQ s a b x y).length ∧ True) ∧ True) ∧ List.take (1 : Nat) [D.int (↑x : Int)] = rtQ s a b x y ∧ True)) ∧ ((hasT (el (el s x) x_1) b →
False) → ((-9223372036854775808 : Int) ≤ (↑x_1 : Int) + (1 : Int) ∧ (↑x_1 : Int) + (1 : Int) < (9223372036854775808 : Int)) ∧ ((∃ (y : Nat), (y ≤ (el s x).len ∧ rtQ s a b x y = []) ∧ (el s x).len - y
< (el s x).len - x_1 ∧ ((↑x_1 : Int) + (1 : Int) = (↑y : Int) ∧ True ∧ True) ∧ True) ∨ ∃ (y : Nat), (y ≤ (el s x).len ∧ (rtQ s a b x y = [] → False)) ∧ (el s x).len - y < (el s x).len - x_1 ∧ ((↑x_1 :
Int) + (1 : Int) = (↑y : Int) ∧ False ∧ True) ∧ False ∧ True))) ∧ ((hasT (el (el s x) x_1) a → False) → ((-9223372036854775808 : Int) ≤ (↑x_1 : Int) + (1 : Int) ∧ (↑x_1 : Int) + (1 : Int) <
(9223372036854775808 : Int)) ∧ ((∃ (y : Nat), (y ≤ (el s x).len ∧ rtQ s a b x y = []) ∧ (el s x).len - y < (el s x).len - x_1 ∧ ((↑x_1 : Int) + (1 : Int) = (↑y : Int) ∧ True ∧ True) ∧ True) ∨ ∃ (y :
Nat), (y ≤ (el s x).len ∧ (rtQ s a b x y = [] → False)) ∧ (el s x).len - y < (el s x).len - x_1 ∧ ((↑x_1 : Int) + (1 : Int) = (↑y : Int) ∧ False ∧ True) ∧ False ∧ True))) ∧ (((↑x_1 : Int) < (↑(el s
x).len : Int) → False) → ((-9223372036854775808 : Int) ≤ (↑x : Int) + (1 : Int) ∧ (↑x : Int) + (1 : Int) < (9223372036854775808 : Int)) ∧ ((∃ (y : Nat), (y ≤ s.len ∧ rtS s a b y = []) ∧ s.len - y <
s.len - x ∧ ((↑x : Int) + (1 : Int) = (↑y : Int) ∧ True ∧ True) ∧ True) ∨ ∃ (y : Nat), (y ≤ s.len ∧ (rtS s a b y = [] → False)) ∧ s.len - y < s.len - x ∧ ((↑x : Int) + (1 : Int) = (↑y : Int) ∧ False ∧
True) ∧ False ∧ True))) ∧ ∀ (x_1 : Nat), x_1 ≤ (el s x).len ∧ (rtQ s a b x x_1 = [] → False) → (el s x).len - x_1 < LIM ∧ (0 : Int) ≤ (↑x : Int) ∧ (↑x : Int) < (↑s.len : Int) ∧ ((↑x_1 : Int) < (↑(el s
x).len : Int) → (0 : Int) ≤ (↑x : Int) ∧ (↑x : Int) < (↑s.len : Int) ∧ (0 : Int) ≤ (↑x_1 : Int) ∧ (↑x_1 : Int) < (↑(el s x).len : Int) ∧ (el (el s x) x_1).len ≤ (16777216 : Nat) ∧ (hasT (el (el s x)
x_1) a → (0 : Int) ≤ (↑x : Int) ∧ (↑x : Int) < (↑s.len : Int) ∧ (0 : Int) ≤ (↑x_1 : Int) ∧ (↑x_1 : Int) < (↑(el s x).len : Int) ∧ (el (el s x) x_1).len ≤ (16777216 : Nat) ∧ (hasT (el (el s x) x_1) b →
(0 : Nat) + (1 : Nat) ≤ [D.int (↑x : Int)].length ∧ (0 : Nat) + (rtQ s a b x x_1).length ≤ (rtQ s a b x x_1).length ∧ (rtQ s a b x x_1).length + (1 : Nat) ≤ (16777216 : Nat) ∧ ((-9223372036854775808 :
Int) ≤ (↑x_1 : Int) + (1 : Int) ∧ (↑x_1 : Int) + (1 : Int) < (9223372036854775808 : Int)) ∧ ((∃ (y : Nat), (y ≤ (el s x).len ∧ rtQ s a b x y = []) ∧ (el s x).len - y < (el s x).len - x_1 ∧ ((↑x_1 :
Int) + (1 : Int) = (↑y : Int) ∧ False ∧ True) ∧ True) ∨ ∃ (y : Nat), (y ≤ (el s x).len ∧ (rtQ s a b x y = [] → False)) ∧ (el s x).len - y < (el s x).len - x_1 ∧ ((↑x_1 : Int) + (1 : Int) = (↑y : Int)
∧ ((0 : Nat) = (0 : Nat) ∧ (rtQ s a b x x_1).length + (1 : Nat) = (rtQ s a b x y).length ∧ True) ∧ True) ∧ List.take (rtQ s a b x x_1).length (rtQ s a b x x_1) ++ List.take (1 : Nat) [D.int (↑x :
Int)] = rtQ s a b x y ∧ True)) ∧ ((hasT (el (el s x) x_1) b → False) → ((-9223372036854775808 : Int) ≤ (↑x_1 : Int) + (1 : Int) ∧ (↑x_1 : Int) + (1 : Int) < (9223372036854775808 : Int)) ∧ ((∃ (y :
Nat), (y ≤ (el s x).len ∧ rtQ s a b x y = []) ∧ (el s x).len - y < (el s x).len - x_1 ∧ ((↑x_1 : Int) + (1 : Int) = (↑y : Int) ∧ False ∧ True) ∧ True) ∨ ∃ (y : Nat), (y ≤ (el s x).len ∧ (rtQ s a b x y
= [] → False)) ∧ (el s x).len - y < (el s x).len - x_1 ∧ ((↑x_1 : Int) + (1 : Int) = (↑y : Int) ∧ ((0 : Nat) = (0 : Nat) ∧ (rtQ s a b x x_1).length = (rtQ s a b x y).length ∧ True) ∧ True) ∧ rtQ s a b
x x_1 = rtQ s a b x y ∧ True))) ∧ ((hasT (el (el s x) x_1) a → False) → ((-9223372036854775808 : Int) ≤ (↑x_1 : Int) + (1 : Int) ∧ (↑x_1 : Int) + (1 : Int) < (9223372036854775808 : Int)) ∧ ((∃ (y :
Nat), (y ≤ (el s x).len ∧ rtQ s a b x y = []) ∧ (el s x).len - y < (el s x).len - x_1 ∧ ((↑x_1 : Int) + (1 : Int) = (↑y : Int) ∧ False ∧ True) ∧ True) ∨ ∃ (y : Nat), (y ≤ (el s x).len ∧ (rtQ s a b x y
= [] → False)) ∧ (el s x).len - y < (el s x).len - x_1 ∧ ((↑x_1 : Int) + (1 : Int) = (↑y : Int) ∧ ((0 : Nat) = (0 : Nat) ∧ (rtQ s a b x x_1).length = (rtQ s a b x y).length ∧ True) ∧ True) ∧ rtQ s a b
x x_1 = rtQ s a b x y ∧ True))) ∧ (((↑x_1 : Int) < (↑(el s x).len : Int) → False) → ((-9223372036854775808 : Int) ≤ (↑x : Int) + (1 : Int) ∧ (↑x : Int) + (1 : Int) < (9223372036854775808 : Int)) ∧ ((∃
(y : Nat), (y ≤ s.len ∧ rtS s a b y = []) ∧ s.len - y < s.len - x ∧ ((↑x : Int) + (1 : Int) = (↑y : Int) ∧ False ∧ True) ∧ True) ∨ ∃ (y : Nat), (y ≤ s.len ∧ (rtS s a b y = [] → False)) ∧ s.len - y <
s.len - x ∧ ((↑x : Int) + (1 : Int) = (↑y : Int) ∧ ((0 : Nat) = (0 : Nat) ∧ (rtQ s a b x x_1).length = (rtS s a b y).length ∧ True) ∧ True) ∧ rtQ s a b x x_1 = rtS s a b y ∧ True))) ∧ (((↑x : Int) <
(↑s.len : Int) → False) → D.nil = listD (rtS s a b s.len))) ∧ ∀ (x : Nat), x ≤ s.len ∧ (rtS s a b x = [] → False) → s.len - x < LIM ∧ ((↑x : Int) < (↑s.len : Int) → ((∃ (x_1 : Nat), (x_1 ≤ (el s
x).len ∧ rtQ s a b x x_1 = []) ∧ ((0 : Int) = (↑x_1 : Int) ∧ False ∧ True) ∧ True) ∨ ∃ (x_1 : Nat), (x_1 ≤ (el s x).len ∧ (rtQ s a b x x_1 = [] → False)) ∧ ((0 : Int) = (↑x_1 : Int) ∧ ((0 : Nat) = (0
: Nat) ∧ (rtS s a b x).length = (rtQ s a b x x_1).length ∧ True) ∧ True) ∧ rtS s a b x = rtQ s a b x x_1 ∧ True) ∧ (∀ (x_1 : Nat), x_1 ≤ (el s x).len ∧ rtQ s a b x x_1 = [] → (el s x).len - x_1 < LIM
∧ (0 : Int) ≤ (↑x : Int) ∧ (↑x : Int) < (↑s.len : Int) ∧ ((↑x_1 : Int) < (↑(el s x).len : Int) → (0 : Int) ≤ (↑x : Int) ∧ (↑x : Int) < (↑s.len : Int) ∧ (0 : Int) ≤ (↑x_1 : Int) ∧ (↑x_1 : Int) < (↑(el
s x).len : Int) ∧ (el (el s x) x_1).len ≤ (16777216 : Nat) ∧ (hasT (el (el s x) x_1) a → (0 : Int) ≤ (↑x : Int) ∧ (↑x : Int) < (↑s.len : Int) ∧ (0 : Int) ≤ (↑x_1 : Int) ∧ (↑x_1 : Int) < (↑(el s x).len
: Int) ∧ (el (el s x) x_1).len ≤ (16777216 : Nat) ∧ (hasT (el (el s x) x_1) b → (0 : Nat) + (1 : Nat) ≤ [D.int (↑x : Int)].length ∧ (1 : Nat) ≤ (16777216 : Nat) ∧ ((-9223372036854775808 : Int) ≤ (↑x_1
: Int) + (1 : Int) ∧ (↑x_1 : Int) + (1 : Int) < (9223372036854775808 : Int)) ∧ ((∃ (y : Nat), (y ≤ (el s x).len ∧ rtQ s a b x y = []) ∧ (el s x).len - y < (el s x).len - x_1 ∧ ((↑x_1 : Int) + (1 :
Int) = (↑y : Int) ∧ False ∧ True) ∧ True) ∨ ∃ (y : Nat), (y ≤ (el s x).len ∧ (rtQ s a b x y = [] → False)) ∧ (el s x).len - y < (el s x).len - x_1 ∧ ((↑x_1 : Int) + (1 : Int) = (↑y : Int) ∧ ((0 : Nat)
= (0 : Nat) ∧ (1 : Nat) = (rtQ s a b x y).length ∧ True) ∧ True) ∧ List.take (1 : Nat) [D.int (↑x : Int)] = rtQ s a b x y ∧ True)) ∧ ((hasT (el (el s x) x_1) b → False) → ((-9223372036854775808 : Int)
≤ (↑x_1 : Int) + (1 : Int) ∧ (↑x_1 : Int) + (1 : Int) < (9223372036854775808 : Int)) ∧ ((∃ (y : Nat), (y ≤ (el s x).len ∧ rtQ s a b x y = []) ∧ (el s x).len - y < (el s x).len - x_1 ∧ ((↑x_1 : Int) +
(1 : Int) = (↑y : Int) ∧ True ∧ True) ∧ True) ∨ ∃ (y : Nat), (y ≤ (el s x).len ∧ (rtQ s a b x y = [] → False)) ∧ (el s x).len - y < (el s x).len - x_1 ∧ ((↑x_1 : Int) + (1 : Int) = (↑y : Int) ∧ False
∧ True) ∧ rtS s a b x = rtQ s a b x y ∧ True))) ∧ ((hasT (el (el s x) x_1) a → False) → ((-9223372036854775808 : Int) ≤ (↑x_1 : Int) + (1 : Int) ∧ (↑x_1 : Int) + (1 : Int) < (9223372036854775808 :
Int)) ∧ ((∃ (y : Nat), (y ≤ (el s x).len ∧ rtQ s a b x y = []) ∧ (el s x).len - y < (el s x).len - x_1 ∧ ((↑x_1 : Int) + (1 : Int) = (↑y : Int) ∧ True ∧ True) ∧ True) ∨ ∃ (y : Nat), (y ≤ (el s x).len
∧ (rtQ s a b x y = [] → False)) ∧ (el s x).len - y < (el s x).len - x_1 ∧ ((↑x_1 : Int) + (1 : Int) = (↑y : Int) ∧ False ∧ True) ∧ rtS s a b x = rtQ s a b x y ∧ True))) ∧ (((↑x_1 : Int) < (↑(el s
x).len : Int) → False) → ((-9223372036854775808 : Int) ≤ (↑x : Int) + (1 : Int) ∧ (↑x : Int) + (1 : Int) < (9223372036854775808 : Int)) ∧ ((∃ (y : Nat), (y ≤ s.len ∧ rtS s a b y = []) ∧ s.len - y <
s.len - x ∧ ((↑x : Int) + (1 : Int) = (↑y : Int) ∧ True ∧ True) ∧ True) ∨ ∃ (y : Nat), (y ≤ s.len ∧ (rtS s a b y = [] → False)) ∧ s.len - y < s.len - x ∧ ((↑x : Int) + (1 : Int) = (↑y : Int) ∧ False ∧
True) ∧ rtS s a b x = rtS s a b y ∧ True))) ∧ ∀ (x_1 : Nat), x_1 ≤ (el s x).len ∧ (rtQ s a b x x_1 = [] → False) → (el s x).len - x_1 < LIM ∧ (0 : Int) ≤ (↑x : Int) ∧ (↑x : Int) < (↑s.len : Int) ∧
((↑x_1 : Int) < (↑(el s x).len : Int) → (0 : Int) ≤ (↑x : Int) ∧ (↑x : Int) < (↑s.len : Int) ∧ (0 : Int) ≤ (↑x_1 : Int) ∧ (↑x_1 : Int) < (↑(el s x).len : Int) ∧ (el (el s x) x_1).len ≤ (16777216 :
Nat) ∧ (hasT (el (el s x) x_1) a → (0 : Int) ≤ (↑x : Int) ∧ (↑x : Int) < (↑s.len : Int) ∧ (0 : Int) ≤ (↑x_1 : Int) ∧ (↑x_1 : Int) < (↑(el s x).len : Int) ∧ (el (el s x) x_1).len ≤ (16777216 : Nat) ∧
(hasT (el (el s x) x_1) b → (0 : Nat) + (1 : Nat) ≤ [D.int (↑x : Int)].length ∧ (0 : Nat) + (rtQ s a b x x_1).length ≤ (rtQ s a b x x_1).length ∧ (rtQ s a b x x_1).length + (1 : Nat) ≤ (16777216 :
Nat) ∧ ((-9223372036854775808 : Int) ≤ (↑x_1 : Int) + (1 : Int) ∧ (↑x_1 : Int) + (1 : Int) < (9223372036854775808 : Int)) ∧ ((∃ (y : Nat), (y ≤ (el s x).len ∧ rtQ s a b x y = []) ∧ (el s x).len - y <
(el s x).len - x_1 ∧ False) ∨ ∃ (y : Nat), (y ≤ (el s x).len ∧ (rtQ s a b x y = [] → False)) ∧ (el s x).len - y < (el s x).len - x_1 ∧ ((↑x_1 : Int) + (1 : Int) = (↑y : Int) ∧ ((0 : Nat) = (0 : Nat) ∧
(rtQ s a b x x_1).length + (1 : Nat) = (rtQ s a b x y).length ∧ True) ∧ True) ∧ List.take (rtQ s a b x x_1).length (rtQ s a b x x_1) ++ List.take (1 : Nat) [D.int (↑x : Int)] = rtQ s a b x y ∧ True))
∧ ((hasT (el (el s x) x_1) b → False) → ((-9223372036854775808 : Int) ≤ (↑x_1 : Int) + (1 : Int) ∧ (↑x_1 : Int) + (1 : Int) < (9223372036854775808 : Int)) ∧ ((∃ (y : Nat), (y ≤ (el s x).len ∧ rtQ s a
b x y = []) ∧ (el s x).len - y < (el s x).len - x_1 ∧ False) ∨ ∃ (y : Nat), (y ≤ (el s x).len ∧ (rtQ s a b x y = [] → False)) ∧ (el s x).len - y < (el s x).len - x_1 ∧ ((↑x_1 : Int) + (1 : Int) = (↑y
: Int) ∧ ((0 : Nat) = (0 : Nat) ∧ (rtQ s a b x x_1).length = (rtQ s a b x y).length ∧ True) ∧ True) ∧ rtQ s a b x x_1 = rtQ s a b x y ∧ True))) ∧ ((hasT (el (el s x) x_1) a → False) →
((-9223372036854775808 : Int) ≤ (↑x_1 : Int) + (1 : Int) ∧ (↑x_1 : Int) + (1 : Int) < (9223372036854775808 : Int)) ∧ ((∃ (y : Nat), (y ≤ (el s x).len ∧ rtQ s a b x y = []) ∧ (el s x).len - y < (el s
x).len - x_1 ∧ False) ∨ ∃ (y : Nat), (y ≤ (el s x).len ∧ (rtQ s a b x y = [] → False)) ∧ (el s x).len - y < (el s x).len - x_1 ∧ ((↑x_1 : Int) + (1 : Int) = (↑y : Int) ∧ ((0 : Nat) = (0 : Nat) ∧ (rtQ
s a b x x_1).length = (rtQ s a b x y).length ∧ True) ∧ True) ∧ rtQ s a b x x_1 = rtQ s a b x y ∧ True))) ∧ (((↑x_1 : Int) < (↑(el s x).len : Int) → False) → ((-9223372036854775808 : Int) ≤ (↑x : Int)
+ (1 : Int) ∧ (↑x : Int) + (1 : Int) < (9223372036854775808 : Int)) ∧ ((∃ (y : Nat), (y ≤ s.len ∧ rtS s a b y = []) ∧ s.len - y < s.len - x ∧ ((↑x : Int) + (1 : Int) = (↑y : Int) ∧ False ∧ True) ∧
True) ∨ ∃ (y : Nat), (y ≤ s.len ∧ (rtS s a b y = [] → False)) ∧ s.len - y < s.len - x ∧ ((↑x : Int) + (1 : Int) = (↑y : Int) ∧ ((0 : Nat) = (0 : Nat) ∧ (rtQ s a b x x_1).length = (rtS s a b y).length
∧ True) ∧ True) ∧ rtQ s a b x x_1 = rtS s a b y ∧ True))) ∧ (((↑x : Int) < (↑s.len : Int) → False) → (0 : Nat) + (rtS s a b x).length ≤ (rtS s a b x).length ∧ D.list (List.take (rtS s a b x).length
(rtS s a b x)) = listD (rtS s a b s.len))) := by intros; kernel_rfl
theorem rtE_len (ev : D) (a b : Int) (i : Nat) : ∀ y, (rtE ev a b i y).length ≤ y
 | 0 => Nat.le_refl _
 | y + 1 => by
  unfold rtE
  have := rtE_len ev a b i y
  split
  ·rw [List.length_append]; show _ + 1 ≤ _; omega
  ·omega
theorem rtS_len {s : D} (h : bigP s) (a b : Int) : ∀ x, x ≤ s.len → (rtS s a b x).length ≤ x * 100
 | 0, _ => Nat.le_refl _
 | x + 1, hx => by
  unfold rtS
  have h1 := rtS_len h a b x (by omega)
  have h2 := rtE_len (el s x) a b x (el s x).len
  have h3 := (h.out.2 x (by omega)).out.1
  rw [List.length_append]; omega
theorem rtQ_zero (s : D) (a b : Int) (x : Nat) : rtQ s a b x 0 = rtS s a b x := List.append_nil _
theorem rtQ_yes {s : D} {a b : Int} {x y : Nat} (h : hasT (el (el s x) y) a ∧ hasT (el (el s x) y) b) : rtQ s a b x (y + 1) = rtQ s a b x y ++ [.int (x : Nat)] := by
 have e : rtE (el s x) a b x (y + 1) = rtE (el s x) a b x y ++ [.int (x : Nat)] := if_pos h
 unfold rtQ
 rw [e, ← List.append_assoc]
theorem rtQ_no {s : D} {a b : Int} {x y : Nat} (h : ¬ (hasT (el (el s x) y) a ∧ hasT (el (el s x) y) b)) : rtQ s a b x (y + 1) = rtQ s a b x y := by
 have e : rtE (el s x) a b x (y + 1) = rtE (el s x) a b x y := if_neg h
 unfold rtQ
 rw [e]
theorem rtS_succ (s : D) (a b : Int) (x : Nat) : rtS s a b (x + 1) = rtQ s a b x (el s x).len := rfl
theorem ne_app {l : List D} {d : D} : l ++ [d] ≠ [] := fun k => by
 have := congrArg List.length k
 rw [List.length_append] at this
 exact absurd this (Nat.succ_ne_zero _)
theorem s17r (s : D) (a b : Int) (h : bigP s) : symFun (ctx re1 reAnn) 3 17 [.dat 22 s, .int .i64 a, .int .i64 b] (.dat 27 (listD (rtS s a b s.len))) := by
 rw [me17]
 have hl := h.out.1
 have hE : ∀ x, x < s.len → (el s x).len ≤ 100 := fun x hx => (h.out.2 x hx).out.1
 have hT : ∀ x y, x < s.len → y < (el s x).len → (el (el s x) y).len ≤ 16777216 := fun x y hx hy => Nat.le_trans ((h.out.2 x hx).out.2 y hy) (by decide)
 have hQ : ∀ x y, x < s.len → y ≤ (el s x).len → (rtQ s a b x y).length + 1 ≤ 16777216 := fun x y hx hy => by
  have h1 := rtS_len h a b x (by omega)
  have h2 := rtE_len (el s x) a b x y
  have h3 := hE x hx
  unfold rtQ
  rw [List.length_append]; omega
 refine ⟨.inl ⟨0, ⟨Nat.zero_le _, rfl⟩, ⟨rfl, trivial, trivial⟩, trivial⟩, fun x ⟨hx, h0⟩ => ⟨limS (by omega), fun hlt => ?_, fun hge => ?_⟩, fun x ⟨hx, h0⟩ => ⟨limS (by omega), fun hlt => ?_, fun hge => ?_⟩⟩
 ·have hx' : x < s.len := by omega
  have he := hE x hx'
  refine ⟨.inl ⟨0, ⟨Nat.zero_le _, by rw [rtQ_zero]; exact h0⟩, ⟨rfl, trivial, trivial⟩, trivial⟩, fun y ⟨hy, g0⟩ => ⟨limS (by omega), by omega, hlt, fun hlt2 => ?_, fun hge2 => ?_⟩, fun y ⟨hy, g0⟩ => ⟨limS (by omega), by omega, hlt, fun hlt2 => ?_, fun hge2 => ?_⟩⟩
  ·have hy' : y < (el s x).len := by omega
   have ht := hT x y hx' hy'
   have no : ¬ (hasT (el (el s x) y) a ∧ hasT (el (el s x) y) b) → rtQ s a b x (y + 1) = [] := fun k => by rw [rtQ_no k]; exact g0
   refine ⟨by omega, hlt, by omega, hlt2, ht, fun ha => ⟨by omega, hlt, by omega, hlt2, ht, fun hb => ?_, fun hb => ⟨⟨by omega, by omega⟩, .inl ⟨y + 1, ⟨by omega, no fun k => hb k.2⟩, by omega, ⟨by omega, trivial, trivial⟩, trivial⟩⟩⟩, fun ha => ⟨⟨by omega, by omega⟩, .inl ⟨y + 1, ⟨by omega, no fun k => ha k.1⟩, by omega, ⟨by omega, trivial, trivial⟩, trivial⟩⟩⟩
   have e : rtQ s a b x (y + 1) = [.int (x : Nat)] := by rw [rtQ_yes ⟨ha, hb⟩, g0]; rfl
   exact ⟨Nat.le_refl _, by decide, ⟨by omega, by omega⟩, .inr ⟨y + 1, ⟨by omega, by rw [e]; exact List.cons_ne_nil _ _⟩, by omega, ⟨by omega, ⟨rfl, by rw [e]; rfl, trivial⟩, trivial⟩, by rw [e]; rfl, trivial⟩⟩
  ·have ey : y = (el s x).len := by have := not_of hge2; omega
   exact ⟨⟨by omega, by omega⟩, .inl ⟨x + 1, ⟨by omega, by rw [rtS_succ, ← ey]; exact g0⟩, by omega, ⟨by omega, trivial, trivial⟩, trivial⟩⟩
  ·have hy' : y < (el s x).len := by omega
   have ht := hT x y hx' hy'
   have hq := hQ x y hx' hy
   have no : ∀ k : ¬ (hasT (el (el s x) y) a ∧ hasT (el (el s x) y) b), rtQ s a b x (y + 1) = rtQ s a b x y := fun k => rtQ_no k
   refine ⟨by omega, hlt, by omega, hlt2, ht, fun ha => ⟨by omega, hlt, by omega, hlt2, ht, fun hb => ?_, fun hb => ?_⟩, fun ha => ?_⟩
   ·have e := rtQ_yes (s := s) (x := x) (y := y) ⟨ha, hb⟩
    exact ⟨Nat.le_refl _, by omega, hq, ⟨by omega, by omega⟩, .inr ⟨y + 1, ⟨by omega, by rw [e]; exact ne_app⟩, by omega, ⟨by omega, ⟨rfl, by rw [e, List.length_append]; rfl, trivial⟩, trivial⟩, by rw [e, List.take_of_length_le (Nat.le_refl _)]; rfl, trivial⟩⟩
   ·have e := no fun k => hb k.2
    exact ⟨⟨by omega, by omega⟩, .inr ⟨y + 1, ⟨by omega, by rw [e]; exact g0⟩, by omega, ⟨by omega, ⟨rfl, by rw [e], trivial⟩, trivial⟩, e.symm, trivial⟩⟩
   ·have e := no fun k => ha k.1
    exact ⟨⟨by omega, by omega⟩, .inr ⟨y + 1, ⟨by omega, by rw [e]; exact g0⟩, by omega, ⟨by omega, ⟨rfl, by rw [e], trivial⟩, trivial⟩, e.symm, trivial⟩⟩
  ·have ey : y = (el s x).len := by have := not_of hge2; omega
   have e : rtS s a b (x + 1) = rtQ s a b x y := by rw [rtS_succ, ey]
   exact ⟨⟨by omega, by omega⟩, .inr ⟨x + 1, ⟨by omega, by rw [e]; exact g0⟩, by omega, ⟨by omega, ⟨rfl, by rw [e], trivial⟩, trivial⟩, e.symm, trivial⟩⟩
 ·rw [show x = s.len by have := not_of hge; omega] at h0
  rw [h0]; rfl
 ·have hx' : x < s.len := by omega
  have he := hE x hx'
  refine ⟨.inr ⟨0, ⟨Nat.zero_le _, by rw [rtQ_zero]; exact h0⟩, ⟨rfl, ⟨rfl, by rw [rtQ_zero], trivial⟩, trivial⟩, (rtQ_zero s a b x).symm, trivial⟩, fun y ⟨hy, g0⟩ => ?_, fun y ⟨hy, g0⟩ => ⟨limS (by omega), by omega, hlt, fun hlt2 => ?_, fun hge2 => ?_⟩⟩
  ·exact (h0 (List.append_eq_nil_iff.1 g0).1).elim
  ·have hy' : y < (el s x).len := by omega
   have ht := hT x y hx' hy'
   have hq := hQ x y hx' hy
   have no : ∀ k : ¬ (hasT (el (el s x) y) a ∧ hasT (el (el s x) y) b), rtQ s a b x (y + 1) = rtQ s a b x y := fun k => rtQ_no k
   refine ⟨by omega, hlt, by omega, hlt2, ht, fun ha => ⟨by omega, hlt, by omega, hlt2, ht, fun hb => ?_, fun hb => ?_⟩, fun ha => ?_⟩
   ·have e := rtQ_yes (s := s) (x := x) (y := y) ⟨ha, hb⟩
    exact ⟨Nat.le_refl _, by omega, hq, ⟨by omega, by omega⟩, .inr ⟨y + 1, ⟨by omega, by rw [e]; exact ne_app⟩, by omega, ⟨by omega, ⟨rfl, by rw [e, List.length_append]; rfl, trivial⟩, trivial⟩, by rw [e, List.take_of_length_le (Nat.le_refl _)]; rfl, trivial⟩⟩
   ·have e := no fun k => hb k.2
    exact ⟨⟨by omega, by omega⟩, .inr ⟨y + 1, ⟨by omega, by rw [e]; exact g0⟩, by omega, ⟨by omega, ⟨rfl, by rw [e], trivial⟩, trivial⟩, e.symm, trivial⟩⟩
   ·have e := no fun k => ha k.1
    exact ⟨⟨by omega, by omega⟩, .inr ⟨y + 1, ⟨by omega, by rw [e]; exact g0⟩, by omega, ⟨by omega, ⟨rfl, by rw [e], trivial⟩, trivial⟩, e.symm, trivial⟩⟩
  ·have ey : y = (el s x).len := by have := not_of hge2; omega
   have e : rtS s a b (x + 1) = rtQ s a b x y := by rw [rtS_succ, ey]
   exact ⟨⟨by omega, by omega⟩, .inr ⟨x + 1, ⟨by omega, by rw [e]; exact g0⟩, by omega, ⟨by omega, ⟨rfl, by rw [e], trivial⟩, trivial⟩, e.symm, trivial⟩⟩
 ·rw [show x = s.len by have := not_of hge; omega]
  refine ⟨by omega, ?_⟩
  rw [List.take_of_length_le (Nat.le_refl _)]
  rw [show x = s.len by have := not_of hge; omega] at h0
  cases hc : rtS s a b s.len with
  | nil => exact (h0 hc).elim
  | cons => rfl
end Go.Ev
