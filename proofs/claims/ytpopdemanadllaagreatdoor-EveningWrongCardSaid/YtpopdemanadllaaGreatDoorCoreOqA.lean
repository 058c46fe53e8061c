/-
  Part of the engine that the claim is proved with: it states nothing of the document by itself.
-/
import Derived.Test.YtpopdemanadllaaGreatDoorCoreNtC
import Derived.Test.YtpopdemanadllaaGreatDoorCoreOqDefs
open Go.Proofs
namespace Go.Ev
set_option maxRecDepth 100000
set_option maxHeartbeats 4000000
section
variable {n e : Int} {l : D}
end
theorem good_lim {n : Int} {s : D} (h : goodS n s) : s.len ≤ 64 := by
 have hc := h.chk
 unfold chk at hc
 split at hc
 ·cases hc
 ·split at hc
  ·cases hc
  ·omega
end Go.Ev
