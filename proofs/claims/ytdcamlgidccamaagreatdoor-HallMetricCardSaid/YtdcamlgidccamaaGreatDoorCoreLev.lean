/-
  Part of the engine that the claim is proved with: it states nothing of the document by itself.
-/
import Derived.Test.YtdcamlgidccamaaGreatDoorCoreLvl
open Go.Proofs
namespace Go.Ev
set_option maxRecDepth 100000
set_option maxHeartbeats 4000000
theorem nthD_get : ∀ (l : List D) (i : Nat) (h : i < l.length), nthD l i = l[i]
  | d :: _, 0, _ => rfl
  | _ :: l, i + 1, h => nthD_get l i (by simpa using h)
end Go.Ev
