/-
  Part of the engine that the claim is proved with: it states nothing of the document by itself.
-/
import Derived.Test.YtfplgbngodmbiaaGreatDoorProg
import Derived.Test.YtfplgbngodmbiaaGreatDoorCoreG0
namespace Go.Ev
end Go.Ev
