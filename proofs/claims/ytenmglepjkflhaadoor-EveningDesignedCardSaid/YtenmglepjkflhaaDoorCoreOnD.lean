/-
  Part of the engine that the claim is proved with: it states nothing of the document by itself.
-/
import Derived.Test.YtenmglepjkflhaaDoorCoreRnD
namespace Go.Ev
def p2A (m e i : Nat) : Nat := (e + i) % (m - 1)
def p2B (m e i : Nat) : Nat := (e + m - 1 - i) % (m - 1)
def p2R (m e i : Nat) : List D := (List.range (i - 1)).map fun k => .list [.int (p2A m e (k + 1) : Nat), .int (p2B m e (k + 1) : Nat)]
def p2F (n m e : Nat) : D := if n < m then .list [.int (e : Nat)] else .list [.int (m - 1 : Nat), .int (e : Nat)]
def p2E (n m e : Nat) : List D := p2F n m e :: p2R m e (m / 2)
def p2S (n m x : Nat) : List D := (List.range x).map fun e => .list (p2E n m e)
def evM (n : Nat) : Nat := n + n % 2
end Go.Ev
