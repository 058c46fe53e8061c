/-
  Part of the engine that the claim is proved with: it states nothing of the document by itself.
-/
import Derived.Test.YtcnjngiaoomecaaDoorCoreG28
open Go.Proofs
namespace Go.Ev
set_option maxRecDepth 100000
set_option maxHeartbeats 4000000
theorem vc6c : ∀ (d : D), symFun (ctx cc0 noAnn) 4 (6 : FuncId) [V.dat (22 : TypeId) d] (V.dat (22 : TypeId) d) = ((d.isNil → D.nil = d) ∧ ((d.isNil → False) → (d.len = 0 → 0 + 0 ≤ ([] : List D).length ∧ D.list
(List.take 0 ([] : List D)) = d) ∧ (0 < d.len → 0 + 0 ≤ ([] : List D).length ∧ 0 + d.len ≤ 16777216 ∧ (0 + d.len ≤ 0 → 0 + 0 + d.len ≤ ([] : List D).length ∧ 0 + d.len ≤ (List.take (0 + 0) [] ++ d.asList ++ List.drop (0
+ 0 + d.len) []).length ∧ D.list (List.take d.len (List.take (0 + 0) [] ++ d.asList ++ List.drop (0 + 0 + d.len) [])) = d) ∧ (0 < 0 + d.len → 0 + d.len ≤ (List.take 0 [] ++ d.asList).length ∧ D.list (List.take d.len
(List.take 0 [] ++ d.asList)) = d)))) := by intros; kernel_rfl
theorem vc3s : ∀ (n e : Int) (sz : D), symFun (ctx pt1 noAnn) 4 (3 : FuncId) [V.int IntKind.i64 n, V.dat (22 : TypeId) sz, V.int IntKind.i64 e] (V.prop True) = ((14 < n → ((n ≤ 64 → False) → ((20 < (sz.len : Int) →
False) → (6 < e → (e ≤ 64 → (true = true ↔ True)) ∧ ((e ≤ 64 → False) → (rowQ sz ∧ sz.len ≤ 16777216) ∧ sz.len ≤ 16777216 ∧ sz.len ≤ 16777216 ∧ bigP (planD n sz e) ∧ (eqS3 (planD n sz e) (refD n sz e) → (planX n sz e =
planX n sz e → sz.len ≤ 16777216 ∧ (eqN sz sz → (true = true ↔ True)) ∧ ((eqN sz sz → False) → (false = true ↔ True))) ∧ ((planX n sz e = planX n sz e → False) → (false = true ↔ True))) ∧ ((eqS3 (planD n sz e) (refD n sz
e) → False) → (false = true ↔ True)))) ∧ ((6 < e → False) → (rowQ sz ∧ sz.len ≤ 16777216) ∧ sz.len ≤ 16777216 ∧ sz.len ≤ 16777216 ∧ bigP (planD n sz e) ∧ (eqS3 (planD n sz e) (refD n sz e) → (planX n sz e = planX n sz e
→ sz.len ≤ 16777216 ∧ (eqN sz sz → (true = true ↔ True)) ∧ ((eqN sz sz → False) → (false = true ↔ True))) ∧ ((planX n sz e = planX n sz e → False) → (false = true ↔ True))) ∧ ((eqS3 (planD n sz e) (refD n sz e) → False)
→ (false = true ↔ True)))) ∧ (20 < (sz.len : Int) → (true = true ↔ True))) ∧ (n ≤ 64 → (true = true ↔ True))) ∧ ((14 < n → False) → ((20 < (sz.len : Int) → False) → (6 < e → (e ≤ 64 → (true = true ↔ True)) ∧ ((e ≤ 64 →
False) → (rowQ sz ∧ sz.len ≤ 16777216) ∧ sz.len ≤ 16777216 ∧ sz.len ≤ 16777216 ∧ bigP (planD n sz e) ∧ (eqS3 (planD n sz e) (refD n sz e) → (planX n sz e = planX n sz e → sz.len ≤ 16777216 ∧ (eqN sz sz → (true = true ↔
True)) ∧ ((eqN sz sz → False) → (false = true ↔ True))) ∧ ((planX n sz e = planX n sz e → False) → (false = true ↔ True))) ∧ ((eqS3 (planD n sz e) (refD n sz e) → False) → (false = true ↔ True)))) ∧ ((6 < e → False) →
(rowQ sz ∧ sz.len ≤ 16777216) ∧ sz.len ≤ 16777216 ∧ sz.len ≤ 16777216 ∧ bigP (planD n sz e) ∧ (eqS3 (planD n sz e) (refD n sz e) → (planX n sz e = planX n sz e → sz.len ≤ 16777216 ∧ (eqN sz sz → (true = true ↔ True)) ∧
((eqN sz sz → False) → (false = true ↔ True))) ∧ ((planX n sz e = planX n sz e → False) → (false = true ↔ True))) ∧ ((eqS3 (planD n sz e) (refD n sz e) → False) → (false = true ↔ True)))) ∧ (20 < (sz.len : Int) → (true =
true ↔ True)))) := by intros; kernel_rfl
theorem s6c (d : D) (h : rowQ d) (hl : d.len ≤ 16777216) : symFun (ctx cc0 noAnn) 4 6 [.dat 22 d] (.dat 22 d) := by
 rw [vc6c]
 rcases h.out with rfl | ⟨l, rfl⟩
 ·exact ⟨fun _ => rfl, fun h => (h trivial).elim⟩
 ·have hl : l.length ≤ 16777216 := hl
  have e0 : (D.list l).len = l.length := rfl
  have e1 : (D.list l).asList = l := rfl
  rw [e0, e1]
  refine ⟨fun h => h.elim, fun _ => ⟨fun h => ⟨Nat.le_refl _, by cases l with | nil => rfl | cons a l => cases h⟩, fun h => ⟨Nat.le_refl _, by omega, fun h2 => by omega, fun _ => ⟨by show _ ≤ ([] ++ l).length; simp, by show D.list (List.take l.length ([] ++ l)) = _; rw [List.nil_append, List.take_length]⟩⟩⟩⟩
theorem eqS3_of {a b : D} (h : a.asList = b.asList) : eqS3 a b := by
 have e1 : a.len = b.len := by unfold D.len; rw [h]
 have e2 : ∀ i, el a i = el b i := fun i => by unfold el; rw [h]
 exact ⟨⟨e1, fun i _ => by rw [e2]; exact ⟨⟨rfl, fun _ _ => ⟨⟨rfl, fun _ _ => rfl⟩⟩⟩⟩⟩⟩
theorem plan_big (n e : Int) (sz : D) : bigP (planD n sz e) := by
 unfold planD
 split
 ·rename_i h
  exact (pl_pig h.1.1.1 h.1.1.2 h.1.2 (by omega)).good.big
 ·exact ⟨Nat.zero_le _, fun i hi => absurd hi (Nat.not_lt_zero _)⟩
theorem plan_ref (n e : Int) (sz : D) : eqS3 (planD n sz e) (refD n sz e) := eqS3_of (by
 unfold planD refD
 split
 ·rw [listD_list]; rfl
 ·rfl)
theorem sl3s (n e : Int) (sz : D) (hr : rowQ sz) : symFun (ctx pt1 noAnn) 4 3 [.int .i64 n, .dat 22 sz, .int .i64 e] (.prop True) := by
 rw [vc3s]
 have tt : (true = true ↔ True) := ⟨fun _ => trivial, fun _ => rfl⟩
 have blk : ((20 : Int) < (sz.len : Int) → False) → (rowQ sz ∧ sz.len ≤ (16777216 : Nat)) ∧ sz.len ≤ (16777216 : Nat) ∧ sz.len ≤ (16777216 : Nat) ∧ bigP (planD n sz e) ∧ (eqS3 (planD n sz e) (refD n sz e) → (planX n sz e = planX n sz e → sz.len ≤ (16777216 : Nat) ∧ (eqN sz sz → (true = true ↔ True)) ∧ ((eqN sz sz → False) → (false = true ↔ True))) ∧ ((planX n sz e = planX n sz e → False) → (false = true ↔ True))) ∧ ((eqS3 (planD n sz e) (refD n sz e) → False) → (false = true ↔ True)) := fun h => by
  have := not_of h
  exact ⟨⟨hr, by omega⟩, by omega, by omega, plan_big _ _ _, fun _ => ⟨fun _ => ⟨by omega, fun _ => tt, fun k => (k ⟨⟨rfl, fun _ _ => rfl⟩⟩).elim⟩, fun k => (k rfl).elim⟩, fun k => (k (plan_ref _ _ _)).elim⟩
 exact ⟨fun _ => ⟨fun _ => ⟨fun h => ⟨fun _ => ⟨fun _ => tt, fun _ => blk h⟩, fun _ => blk h⟩, fun _ => tt⟩, fun _ => tt⟩, fun _ => ⟨fun h => ⟨fun _ => ⟨fun _ => tt, fun _ => blk h⟩, fun _ => blk h⟩, fun _ => tt⟩⟩
end Go.Ev
