/-
  Part of the engine that the claim is proved with: it states nothing of the document by itself.
-/
import Derived.Test.YtpopdemanadllaaGreatDoorCoreFd
import Derived.Test.YtpopdemanadllaaGreatDoorCoreRnD
namespace Go.Ev
def nV (q a b r : Nat) : Nat := r * q + aN q (mN q a r) b
def netT (q a b j : Nat) : List D := (List.range j).map fun r => .int (nV q a b r : Nat)
def netE (q k a x : Nat) : List D := (List.range x).map fun b => .list (netT q a b k)
def netS (q k x : Nat) : List D := (List.range x).map fun a => .list (netE q k a q)
end Go.Ev
