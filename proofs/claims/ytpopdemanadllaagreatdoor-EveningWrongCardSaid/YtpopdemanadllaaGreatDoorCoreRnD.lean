/-
  Part of the engine that the claim is proved with: it states nothing of the document by itself.
-/
import Derived.Test.YtpopdemanadllaaGreatDoorCoreSeF
namespace Go.Ev
def el (l : D) (i : Nat) : D := nthD l.asList i
def nAt (l : D) (i : Nat) : Int := (nthD l.asList i).asInt
end Go.Ev
