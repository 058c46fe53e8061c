/-
  Part of the engine that the claim is proved with: it states nothing of the document by itself.
-/
import Derived.Lib.SlicesCompact
namespace Go.Ev
open Go.Lib
end Go.Ev
