/-
  Part of the engine that the claim is proved with: it states nothing of the document by itself.
-/
import Derived.Test.YtenmglepjkflhaaDoorCoreFd
import Derived.Test.YtenmglepjkflhaaDoorCoreRnM
namespace Go.Ev
def mtI (t : D) (i : Nat) : Nat → Nat → Nat → Int
 | 0, _, _ => 0
 | j + 1, a, b => mtI t i j a b + indN (nAt t j) (nAt t i) a b
def mtN (t : D) : Nat → Nat → Nat → Int
 | 0, _, _ => 0
 | i + 1, a, b => mtN t i a b + mtI t i i a b
def mtE (ev : D) : Nat → Nat → Nat → Int
 | 0, _, _ => 0
 | j + 1, a, b => mtE ev j a b + mtN (el ev j) (el ev j).len a b
def mtS (s : D) : Nat → Nat → Nat → Int
 | 0, _, _ => 0
 | i + 1, a, b => mtS s i a b + mtE (el s i) (el s i).len a b
def nV (q a b r : Nat) : Nat := r * q + aN q (mN q a r) b
def netT (q a b j : Nat) : List D := (List.range j).map fun r => .int (nV q a b r : Nat)
def netE (q k a x : Nat) : List D := (List.range x).map fun b => .list (netT q a b k)
def netS (q k x : Nat) : List D := (List.range x).map fun a => .list (netE q k a q)
def ncI (q a b i j : Nat) : List Nat := (List.range j).map fun j => prC (nV q a b j) (nV q a b i)
def ncT (q a b i : Nat) : List Nat := (List.range i).flatMap fun i => ncI q a b i i
def ncE (q k a x : Nat) : List Nat := (List.range x).flatMap fun b => ncT q a b k
def ncS (q k x : Nat) : List Nat := (List.range x).flatMap fun a => ncE q k a q
def evV (q k a x : Nat) : List Nat := (List.range x).flatMap fun b => (List.range k).map (nV q a b)
def kMax (q : Nat) : Nat := min q (64 / q)
def ckE (q k a : Nat) : Bool := match insB (evV q k a q) 0 with | some M => Nat.beq M (2 ^ (k * q) - 1) | none => false
def ckN (q k : Nat) : Bool := (List.range q).all (ckE q k) && (match insB (ncS q k q) 0 with | some M => (List.range (k * q)).all fun a => (List.range (k * q)).all fun b => Nat.testBit M (prC a b) == !Nat.beq (a / q) (b / q) | none => false)
theorem ckN_all : (qsL.all fun q => (List.range (kMax q)).all fun k => ckN q (k + 1)) = true := by decide +kernel
end Go.Ev
