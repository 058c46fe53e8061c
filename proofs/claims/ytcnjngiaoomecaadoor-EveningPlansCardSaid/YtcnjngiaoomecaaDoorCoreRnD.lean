/-
  Part of the engine that the claim is proved with: it states nothing of the document by itself.
-/
import Derived.Test.YtcnjngiaoomecaaDoorCoreSeF
namespace Go.Ev
def sqD (n : Nat) (f : Nat → Nat → Int) : List D := (List.range n).map fun a => .list ((List.range n).map fun b => .int (f a b))
def el (l : D) (i : Nat) : D := nthD l.asList i
def nAt (l : D) (i : Nat) : Int := (nthD l.asList i).asInt
def indN (x y : Int) (a b : Nat) : Int := (if x = a ∧ y = b then 1 else 0) + (if y = a ∧ x = b then 1 else 0)
end Go.Ev
