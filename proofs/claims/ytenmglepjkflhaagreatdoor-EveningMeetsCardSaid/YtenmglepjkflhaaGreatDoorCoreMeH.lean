/-
  Part of the engine that the claim is proved with: it states nothing of the document by itself.
-/
import Derived.Test.YtenmglepjkflhaaGreatDoorCoreMeG
open Go.Proofs
namespace Go.Ev
set_option maxRecDepth 100000
set_option maxHeartbeats 4000000
structure adjP (t : D) (a b : Nat) (k : Nat) : Prop where
 out : (nAt t (k - 1) = a ∧ nAt t k = b) ∨ (nAt t k = a ∧ nAt t (k - 1) = b)
theorem indN_yes {u v : Int} {a b : Nat} (hab : a ≠ b) (h : (u = a ∧ v = b) ∨ (v = a ∧ u = b)) : indN u v a b = 1 := by
 unfold indN
 rcases h with ⟨h1, h2⟩ | ⟨h1, h2⟩
 ·rw [if_pos ⟨h1, h2⟩, if_neg (by omega)]; rfl
 ·rw [if_neg (by omega), if_pos ⟨h1, h2⟩]; rfl
theorem indN_no {u v : Int} {a b : Nat} (h : ¬ ((u = a ∧ v = b) ∨ (v = a ∧ u = b))) : indN u v a b = 0 := by
 unfold indN
 rw [if_neg fun k => h (.inl k), if_neg fun k => h (.inr k)]; rfl
section
variable {t : D} {a b : Nat}
theorem adj_one (hd : ∀ p q, p < q → q < t.len → nAt t p ≠ nAt t q) {k l : Nat} (h1 : 1 ≤ k) (hkl : k < l) (hl : l < t.len) (hk : adjP t a b k) (hq : adjP t a b l) : False := by
 have d1 := hd k l hkl hl
 have d2 := hd (k - 1) l (by omega) hl
 rcases hk.out with ⟨x1, x2⟩ | ⟨x1, x2⟩ <;> rcases hq.out with ⟨y1, y2⟩ | ⟨y1, y2⟩ <;> omega
theorem nbN_if (hab : a ≠ b) (hd : ∀ p q, p < q → q < t.len → nAt t p ≠ nAt t q) : ∀ i, i ≤ t.len → ((∃ k, 1 ≤ k ∧ k < i ∧ adjP t a b k) → nbN t i a b = 1) ∧ ((¬ ∃ k, 1 ≤ k ∧ k < i ∧ adjP t a b k) → nbN t i a b = 0)
 | 0, _ => ⟨fun ⟨k, _, h, _⟩ => absurd h (Nat.not_lt_zero _), fun _ => rfl⟩
 | i + 1, hi => by
  obtain ⟨f1, f2⟩ := nbN_if hab hd i (by omega)
  have e : nbN t (i + 1) a b = nbN t i a b + (if i = 0 then 0 else indN (nAt t (i - 1)) (nAt t i) a b) := rfl
  rw [e]
  by_cases h0 : i = 0
  ·rw [if_pos h0]
   subst h0
   exact ⟨fun ⟨k, h1, h2, _⟩ => by omega, fun _ => rfl⟩
  ·rw [if_neg h0]
   by_cases hE : ∃ k, 1 ≤ k ∧ k < i ∧ adjP t a b k
   ·rw [f1 hE]
    obtain ⟨k, k1, k2, k3⟩ := hE
    rw [indN_no fun h => adj_one hd k1 k2 (by omega) k3 ⟨h⟩]
    exact ⟨fun _ => rfl, fun h => (h ⟨k, k1, by omega, k3⟩).elim⟩
   ·rw [f2 hE]
    by_cases hA : adjP t a b i
    ·rw [indN_yes hab hA.out]
     exact ⟨fun _ => rfl, fun h => (h ⟨i, by omega, by omega, hA⟩).elim⟩
    ·rw [indN_no fun h => hA ⟨h⟩]
     refine ⟨fun ⟨k, k1, k2, k3⟩ => ?_, fun _ => rfl⟩
     rcases Nat.lt_or_ge k i with h | h
     ·exact (hE ⟨k, k1, h, k3⟩).elim
     ·exact (hA (by rw [show i = k by omega]; exact k3)).elim
structure arP (t : D) (a b : Nat) : Prop where
 out : (∃ k, 1 ≤ k ∧ k < t.len ∧ adjP t a b k) ∨ (2 < t.len ∧ ((nAt t (t.len - 1) = a ∧ nAt t 0 = b) ∨ (nAt t 0 = a ∧ nAt t (t.len - 1) = b)))
theorem nbT_if (hab : a ≠ b) (hd : ∀ p q, p < q → q < t.len → nAt t p ≠ nAt t q) : (arP t a b → nbT t a b = 1) ∧ (¬ arP t a b → nbT t a b = 0) := by
 obtain ⟨f1, f2⟩ := nbN_if hab hd t.len (Nat.le_refl _)
 unfold nbT
 by_cases hE : ∃ k, 1 ≤ k ∧ k < t.len ∧ adjP t a b k
 ·rw [f1 hE]
  refine ⟨fun _ => ?_, fun h => (h ⟨.inl hE⟩).elim⟩
  obtain ⟨k, k1, k2, k3⟩ := hE
  by_cases h2 : 2 < t.len
  ·rw [if_pos h2, indN_no fun h => ?_]; rfl
   have d1 : k < t.len - 1 → nAt t k ≠ nAt t (t.len - 1) := fun q => hd _ _ q (by omega)
   have d2 := hd (k - 1) (t.len - 1) (by omega) (by omega)
   have d3 := hd 0 k (by omega) k2
   have d4 : 0 < k - 1 → nAt t 0 ≠ nAt t (k - 1) := fun q => hd _ _ q (by omega)
   by_cases e1 : k < t.len - 1
   ·have d1 := d1 e1
    rcases k3.out with ⟨x1, x2⟩ | ⟨x1, x2⟩ <;> rcases h with ⟨y1, y2⟩ | ⟨y1, y2⟩ <;> omega
   ·have d4 := d4 (by omega)
    rcases k3.out with ⟨x1, x2⟩ | ⟨x1, x2⟩ <;> rcases h with ⟨y1, y2⟩ | ⟨y1, y2⟩ <;> omega
  ·rw [if_neg h2]; rfl
 ·rw [f2 hE]
  by_cases h2 : 2 < t.len
  ·rw [if_pos h2]
   by_cases hW : (nAt t (t.len - 1) = a ∧ nAt t 0 = b) ∨ (nAt t 0 = a ∧ nAt t (t.len - 1) = b)
   ·rw [indN_yes hab hW]
    exact ⟨fun _ => rfl, fun h => (h ⟨.inr ⟨h2, hW⟩⟩).elim⟩
   ·rw [indN_no hW]
    exact ⟨fun h => h.out.elim (fun k => (hE k).elim) fun k => (hW k.2).elim, fun _ => rfl⟩
  ·rw [if_neg h2]
   exact ⟨fun h => h.out.elim (fun k => (hE k).elim) fun k => (h2 k.1).elim, fun _ => rfl⟩
theorem nx_ar (hab : a ≠ b) : (nxP t a b ∨ nxP t b a) ↔ arP t a b := by
 constructor
 ·rintro (⟨i, hi, h1, h2⟩ | ⟨i, hi, h1, h2⟩)
  ·by_cases e : i + 1 = t.len
   ·rw [if_pos e] at h2
    rw [show i = t.len - 1 by omega] at h1
    by_cases h3 : 2 < t.len
    ·exact ⟨.inr ⟨h3, .inl ⟨h1, h2⟩⟩⟩
    ·by_cases h4 : t.len = 1
     ·rw [h4] at h1
      have h1 : nAt t 0 = a := h1
      omega
     ·exact ⟨.inl ⟨1, Nat.le_refl _, by omega, ⟨.inr ⟨by rw [show 1 = t.len - 1 by omega]; exact h1, h2⟩⟩⟩⟩
   ·rw [if_neg e] at h2
    exact ⟨.inl ⟨i + 1, by omega, by omega, ⟨.inl ⟨h1, h2⟩⟩⟩⟩
  ·by_cases e : i + 1 = t.len
   ·rw [if_pos e] at h2
    rw [show i = t.len - 1 by omega] at h1
    by_cases h3 : 2 < t.len
    ·exact ⟨.inr ⟨h3, .inr ⟨h2, h1⟩⟩⟩
    ·by_cases h4 : t.len = 1
     ·rw [h4] at h1
      have h1 : nAt t 0 = b := h1
      omega
     ·exact ⟨.inl ⟨1, Nat.le_refl _, by omega, ⟨.inl ⟨h2, by rw [show 1 = t.len - 1 by omega]; exact h1⟩⟩⟩⟩
   ·rw [if_neg e] at h2
    exact ⟨.inl ⟨i + 1, by omega, by omega, ⟨.inr ⟨h2, h1⟩⟩⟩⟩
 ·rintro ⟨⟨k, k1, k2, ⟨⟨x1, x2⟩ | ⟨x1, x2⟩⟩⟩ | ⟨h2, ⟨x1, x2⟩ | ⟨x1, x2⟩⟩⟩
  ·exact .inl ⟨k - 1, by omega, x1, by rw [if_neg (by omega), show k - 1 + 1 = k by omega]; exact x2⟩
  ·exact .inr ⟨k - 1, by omega, x2, by rw [if_neg (by omega), show k - 1 + 1 = k by omega]; exact x1⟩
  ·exact .inl ⟨t.len - 1, by omega, x1, by rw [if_pos (by omega)]; exact x2⟩
  ·exact .inr ⟨t.len - 1, by omega, x2, by rw [if_pos (by omega)]; exact x1⟩
theorem nbT_self (hd : ∀ p q, p < q → q < t.len → nAt t p ≠ nAt t q) : nbT t a a = 0 := by
 have hN : ∀ i, i ≤ t.len → nbN t i a a = 0 := by
  intro i
  induction i with
  | zero => intro _; rfl
  | succ i ih =>
   intro hi
   show nbN t i a a + _ = 0
   rw [ih (by omega)]
   by_cases h0 : i = 0
   ·rw [if_pos h0]; rfl
   ·have := hd (i - 1) i (by omega) (by omega)
    rw [if_neg h0, indN_no (by omega)]; rfl
 unfold nbT
 rw [hN _ (Nat.le_refl _)]
 by_cases h2 : 2 < t.len
 ·have := hd 0 (t.len - 1) (by omega) (by omega)
  rw [if_pos h2, indN_no (by omega)]; rfl
 ·rw [if_neg h2]; rfl
end
theorem bsE_nb {n : Int} {s : D} (h : goodS n s) {i : Nat} (hi : i < s.len) (a b : Nat) : ∀ j, j ≤ (el s i).len → bsE (el s i) a b j = nbE (el s i) j a b
 | 0, _ => rfl
 | j + 1, hj => by
  have ih := bsE_nb h hi a b j (by omega)
  have hd : ∀ p q, p < q → q < (el (el s i) j).len → nAt (el (el s i) j) p ≠ nAt (el (el s i) j) q := fun p q hpq hq => good_ne h hi (by omega) hpq hq
  show _ = nbE (el s i) j a b + nbT (el (el s i) j) a b
  by_cases e : a = b
  ·subst e
   rw [bsE_no fun k => k.1 rfl, ih, nbT_self hd, Int.add_zero]
  ·have hT := nbT_if e hd
   by_cases k : nxP (el (el s i) j) a b ∨ nxP (el (el s i) j) b a
   ·rw [bsE_yes ⟨by omega, k⟩, ih, hT.1 ((nx_ar e).1 k)]
   ·rw [bsE_no fun q => k q.2, ih, hT.2 fun q => k ((nx_ar e).2 q), Int.add_zero]
theorem bsS_nb {n : Int} {s : D} (h : goodS n s) (a b : Nat) : ∀ i, i ≤ s.len → bsS s a b i = nbS s i a b
 | 0, _ => rfl
 | i + 1, hi => by
  show bsS s a b i + bsE _ _ _ _ = nbS s i a b + _
  rw [bsS_nb h a b i (by omega), bsE_nb h (by omega) a b _ (Nat.le_refl _)]
theorem rb_sq {n : Int} {s : D} (h : goodS n s) : rbL s n.toNat n.toNat = sqD n.toNat (nbS s s.len) := by
 unfold rbL sqD
 refine List.map_congr_left fun x _ => ?_
 congr 1
 unfold rbR
 refine List.map_congr_left fun y _ => ?_
 rw [bsS_nb h x y _ (Nat.le_refl _)]
end Go.Ev
