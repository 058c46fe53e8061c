/-
  Part of the engine that the claim is proved with: it states nothing of the document by itself.
-/
import Derived.Test.YtpopdemanadllaaGreatDoorCoreOqA
import Derived.Test.YtpopdemanadllaaGreatDoorCoreQpDefs
open Go.Proofs
namespace Go.Ev
set_option maxRecDepth 100000
set_option maxHeartbeats 4000000
def sR (f : Nat → Nat → Int) (x : Nat) : Nat → Int
 | 0 => 0
 | y + 1 => sR f x y + f x y
def s2 (f : Nat → Nat → Int) (m : Nat) : Nat → Int
 | 0 => 0
 | x + 1 => s2 f m x + sR f x m
end Go.Ev
