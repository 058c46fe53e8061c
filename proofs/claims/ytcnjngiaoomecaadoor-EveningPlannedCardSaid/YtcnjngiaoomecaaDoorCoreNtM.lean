/-
  Part of the engine that the claim is proved with: it states nothing of the document by itself.
-/
import Derived.Test.YtcnjngiaoomecaaDoorCoreFd
import Derived.Test.YtcnjngiaoomecaaDoorCoreRnD
namespace Go.Ev
def mtI (t : D) (i : Nat) : Nat → Nat → Nat → Int
 | 0, _, _ => 0
 | j + 1, a, b => mtI t i j a b + indN (nAt t j) (nAt t i) a b
def mtN (t : D) : Nat → Nat → Nat → Int
 | 0, _, _ => 0
 | i + 1, a, b => mtN t i a b + mtI t i i a b
def mtE (ev : D) : Nat → Nat → Nat → Int
 | 0, _, _ => 0
 | j + 1, a, b => mtE ev j a b + mtN (el ev j) (el ev j).len a b
def mtS (s : D) : Nat → Nat → Nat → Int
 | 0, _, _ => 0
 | i + 1, a, b => mtS s i a b + mtE (el s i) (el s i).len a b
def nV (q a b r : Nat) : Nat := r * q + aN q (mN q a r) b
def netT (q a b j : Nat) : List D := (List.range j).map fun r => .int (nV q a b r : Nat)
def netE (q k a x : Nat) : List D := (List.range x).map fun b => .list (netT q a b k)
def netS (q k x : Nat) : List D := (List.range x).map fun a => .list (netE q k a q)
end Go.Ev
