/-
  Part of the engine that the claim is proved with: it states nothing of the document by itself.
-/
import Derived.Test.YtenmglepjkflhaaDoorCoreRnD
namespace Go.Ev
theorem ind_prC {x y a b : Nat} (hx : x < 64) (hy : y < 64) (ha : a < 64) (hb : b < 64) (hxy : x ≠ y) : indN x y a b = if prC x y = prC a b then 1 else 0 := by
 unfold indN prC
 have e1 : ∀ u v : Nat, (cond (Nat.blt u v) (64 * u + v) (64 * v + u)) = if u < v then 64 * u + v else 64 * v + u := fun u v => by
  by_cases h : u < v
  ·rw [show Nat.blt u v = true from Nat.ble_eq_true_of_le h, if_pos h]; rfl
  ·rw [show Nat.blt u v = false from Bool.eq_false_iff.2 fun hh => h (Nat.le_of_ble_eq_true hh), if_neg h]; rfl
 rw [e1, e1]
 repeat' split
 all_goals omega
theorem count_snoc (l : List Nat) (x q : Nat) : (l ++ [x]).count q = l.count q + if x = q then 1 else 0 := by
 rw [List.count_append, List.count_singleton]
 by_cases h : x = q
 ·rw [if_pos h, if_pos (by simpa using h)]
 ·rw [if_neg h, if_neg (by simpa using h)]
end Go.Ev
