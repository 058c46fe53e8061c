/-
  Part of the engine that the claim is proved with: it states nothing of the document by itself.
-/
import Derived.KernelRfl
namespace Go.Ev
def upto (n : Nat) (f : Nat → Bool) : Bool := Nat.rec true (fun k ih => cond (f k) ih false) n
def two (q : Nat) (f : Nat → Nat → Bool) : Bool := upto q fun a => upto q fun b => f a b
section
variable {q a b c : Int}
end
end Go.Ev
