/-
  Part of the engine that the claim is proved with: it states nothing of the document by itself.
-/
import Derived.Test.YtcnjngiaoomecaaDoorCoreFd
import Derived.Test.YtcnjngiaoomecaaDoorCoreRnD
namespace Go.Ev
def mtI (t : D) (i : Nat) : Nat → Nat → Nat → Int
 | 0, _, _ => 0
 | j + 1, a, b => mtI t i j a b + indN (nAt t j) (nAt t i) a b
def mtN (t : D) : Nat → Nat → Nat → Int
 | 0, _, _ => 0
 | i + 1, a, b => mtN t i a b + mtI t i i a b
def mtE (ev : D) : Nat → Nat → Nat → Int
 | 0, _, _ => 0
 | j + 1, a, b => mtE ev j a b + mtN (el ev j) (el ev j).len a b
def mtS (s : D) : Nat → Nat → Nat → Int
 | 0, _, _ => 0
 | i + 1, a, b => mtS s i a b + mtE (el s i) (el s i).len a b
end Go.Ev
