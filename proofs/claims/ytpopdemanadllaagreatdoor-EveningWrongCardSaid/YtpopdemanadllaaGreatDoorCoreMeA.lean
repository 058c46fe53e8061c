/-
  Part of the engine that the claim is proved with: it states nothing of the document by itself.
-/
import Derived.Test.YtpopdemanadllaaGreatDoorCoreOqA
import Derived.Test.YtpopdemanadllaaGreatDoorCoreQpDefs
open Go.Proofs
namespace Go.Ev
set_option maxRecDepth 100000
set_option maxHeartbeats 4000000
structure eqN (a b : D) : Prop where
 out : a.len = b.len ∧ ∀ i, i < a.len → nAt a i = nAt b i
structure eqNN (a b : D) : Prop where
 out : a.len = b.len ∧ ∀ i, i < a.len → eqN (el a i) (el b i)
def cpT (t : D) : D := .list t.asList
def cpEL (ev : D) (n : Nat) : List D := (List.range n).map fun i => cpT (el ev i)
def cpE (ev : D) : D := listD (cpEL ev ev.len)
def cpSL (s : D) (n : Nat) : List D := (List.range n).map fun i => cpE (el s i)
noncomputable def con67 : Con := fun | [.dat 25 a, .dat 25 b] => some (a.len ≤ 16777216, .prop (eqN a b)) | _ => none
noncomputable def emAnn : FuncId → Nat → Option Ann
 | 21, 4 => some { τ := Nat, slots := fun _ _ x => [(5, .int .i64 x)], blks := fun _ _ _ => [], inv := fun S _ x => x ≤ (slD S 0).len ∧ ∀ i, i < x → nAt (slD S 0) i = nAt (slD S 1) i, meas := fun S _ x => (slD S 0).len - x }
 | 59, 4 => some { τ := Nat, slots := fun _ _ x => [(5, .int .i64 x)], blks := fun _ _ _ => [], inv := fun S _ x => x ≤ (slD S 0).len ∧ ∀ i, i < x → eqN (el (slD S 0) i) (el (slD S 1) i), meas := fun S _ x => (slD S 0).len - x }
 | 57, 4 => some { τ := Nat, slots := fun _ _ x => [(17, .int .i64 x)], blks := fun _ _ _ => [], inv := fun S _ x => x ≤ (slD S 0).len ∧ ∀ i, i < x → eqNN (el (slD S 0) i) (el (slD S 1) i), meas := fun S _ x => (slD S 0).len - x }
 | 8, 3 => some { hs := 2, τ := Nat, slots := fun _ i x => match i with | 0 => [(11, .int .i64 0), (3, .val (.slice none 0 0))] | _ => [(11, .int .i64 x), (3, .slc 60 (.lit 0) (.sym x) none)], blks := fun S i x => match i with | 0 => [] | _ => [(60, .arr 32 (cpSL (slD S 0) x))], inv := fun S i x => match i with | 0 => x = 0 | _ => 0 < x ∧ x ≤ (slD S 0).len, meas := fun S _ x => (slD S 0).len - x }
 | 8, 7 => some { hs := 2, τ := Nat, slots := fun _ i x => match i with | 0 => [(17, .int .i64 0), (6, .val (.slice none 0 0))] | _ => [(17, .int .i64 x), (6, .slc 90 (.lit 0) (.sym x) none)], blks := fun S i x => match i with | 0 => [] | _ => [(90, .arr 25 (cpEL (slD S 15) x))], inv := fun S i x => match i with | 0 => x = 0 | _ => 0 < x ∧ x ≤ (slD S 15).len, meas := fun S _ x => (slD S 15).len - x }
 | 9, 6 => some { τ := Nat, slots := fun _ _ x => [(32, .int .i64 x)], blks := fun _ _ _ => [], inv := fun S _ x => x ≤ (slD S 2).len ∧ scanK (slI S 0) (slD S 1) (slD S 2) ((slD S 2).len - x) x = scanK (slI S 0) (slD S 1) (slD S 2) (slD S 2).len 0, meas := fun S _ x => (slD S 2).len - x }
 | _, _ => none
theorem vc67 : ∀ (a b : D), symFun (ctx cc0 emAnn) 3 (21 : FuncId) [V.dat (25 : TypeId) a, V.dat (25 : TypeId) b] (V.prop (eqN a b)) = ((((a.len : Int) = (b.len : Int) → False) → (false = true ↔ eqN a b)) ∧ ((((a.len :
Int) = (b.len : Int) → False) → False) → (∃ (x : Nat), (x ≤ a.len ∧ ∀ (i : Nat), i < x → nAt a i = nAt b i) ∧ (0 = (x : Int) ∧ True) ∧ True) ∧ ∀ (x : Nat), (x ≤ a.len ∧ ∀ (i : Nat), i < x → nAt a i = nAt b i) → a.len - x
< LIM ∧ ((x : Int) < (a.len : Int) → 0 ≤ (x : Int) ∧ (x : Int) < (a.len : Int) ∧ 0 ≤ (x : Int) ∧ (x : Int) < (b.len : Int) ∧ ((nAt a x = nAt b x → False) → (false = true ↔ eqN a b)) ∧ (((nAt a x = nAt b x → False) →
False) → fits64 ((x : Int) + 1) ∧ ∃ (y : Nat), (y ≤ a.len ∧ ∀ (i : Nat), i < y → nAt a i = nAt b i) ∧ a.len - y < a.len - x ∧ ((x : Int) + 1 = (y : Int) ∧ True) ∧ True)) ∧ (((x : Int) < (a.len : Int) → False) → (true =
true ↔ eqN a b)))) := by intros; kernel_rfl
theorem s67 (a b : D) (ha : a.len ≤ 16777216) : symFun (ctx cc0 emAnn) 3 21 [.dat 25 a, .dat 25 b] (.prop (eqN a b)) := by
 rw [vc67]
 refine ⟨fun h => no_of fun h' => h (by have := h'.out.1; omega), fun h => ?_⟩
 have he := Classical.not_not.1 h
 refine ⟨⟨0, ⟨Nat.zero_le _, fun i hi => absurd hi (Nat.not_lt_zero _)⟩, ⟨rfl, trivial⟩, trivial⟩, fun x hx => ⟨?_, fun hlt => ⟨by omega, by omega, by omega, by omega, fun hn => no_of fun h' => hn (h'.out.2 x (by omega)), fun hn => ⟨⟨by omega, by omega⟩, x + 1, ⟨by omega, fun i hi => ?_⟩, by omega, ⟨by omega, trivial⟩, trivial⟩⟩, fun hge => ?_⟩⟩
 ·unfold LIM; omega
 ·rcases Nat.lt_or_ge i x with h' | h'
  ·exact hx.2 i h'
  ·rw [show i = x by omega]; exact Classical.not_not.1 hn
 ·have hge := not_of hge
  exact iff_of_true rfl ⟨by omega, fun i hi => hx.2 i (by omega)⟩
end Go.Ev
