/-
  Part of the engine that the claim is proved with: it states nothing of the document by itself.
-/
import Derived.Test.YtenmglepjkflhaaGreatDoorCoreSeF
namespace Go.Ev
def sqD (n : Nat) (f : Nat → Nat → Int) : List D := (List.range n).map fun a => .list ((List.range n).map fun b => .int (f a b))
def el (l : D) (i : Nat) : D := nthD l.asList i
def nAt (l : D) (i : Nat) : Int := (nthD l.asList i).asInt
def indN (x y : Int) (a b : Nat) : Int := (if x = a ∧ y = b then 1 else 0) + (if y = a ∧ x = b then 1 else 0)
def nbN (t : D) : Nat → Nat → Nat → Int
 | 0, _, _ => 0
 | i + 1, a, b => nbN t i a b + (if i = 0 then 0 else indN (nAt t (i - 1)) (nAt t i) a b)
def nbT (t : D) (a b : Nat) : Int := nbN t t.len a b + (if 2 < t.len then indN (nAt t (t.len - 1)) (nAt t 0) a b else 0)
def nbE (ev : D) : Nat → Nat → Nat → Int
 | 0, _, _ => 0
 | j + 1, a, b => nbE ev j a b + nbT (el ev j) a b
def nbS (s : D) : Nat → Nat → Nat → Int
 | 0, _, _ => 0
 | i + 1, a, b => nbS s i a b + nbE (el s i) (el s i).len a b
end Go.Ev
