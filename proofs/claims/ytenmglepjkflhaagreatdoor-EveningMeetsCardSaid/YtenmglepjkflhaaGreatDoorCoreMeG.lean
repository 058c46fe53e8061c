/-
  Part of the engine that the claim is proved with: it states nothing of the document by itself.
-/
import Derived.Test.YtenmglepjkflhaaGreatDoorCoreQpS
open Go.Proofs
namespace Go.Ev
set_option maxRecDepth 100000
set_option maxHeartbeats 4000000
theorem mtI_cp (t : D) (i a b : Nat) : ∀ j, mtI (cpT t) i j a b = mtI t i j a b
 | 0 => rfl
 | j + 1 => by show mtI (cpT t) i j a b + _ = mtI t i j a b + _; rw [mtI_cp t i a b j]; rfl
theorem mtN_cp (t : D) (a b : Nat) : ∀ i, mtN (cpT t) i a b = mtN t i a b
 | 0 => rfl
 | i + 1 => by show mtN (cpT t) i a b + mtI (cpT t) i i a b = _; rw [mtN_cp t a b i, mtI_cp]; rfl
theorem mtE_cp (e : D) (a b : Nat) : ∀ j, j ≤ e.len → mtE (cpE e) j a b = mtE e j a b
 | 0, _ => rfl
 | j + 1, h => by
  show mtE (cpE e) j a b + mtN (el (cpE e) j) (el (cpE e) j).len a b = _
  rw [mtE_cp e a b j (by omega), cpE_el (by omega), mtN_cp]; rfl
theorem mtS_cp (s : D) (a b : Nat) : ∀ i, i ≤ s.len → mtS (cpS s) i a b = mtS s i a b
 | 0, _ => rfl
 | i + 1, h => by
  show mtS (cpS s) i a b + mtE (el (cpS s) i) (el (cpS s) i).len a b = _
  rw [mtS_cp s a b i (by omega), cpS_el (by omega), cpE_len, mtE_cp _ _ _ _ (Nat.le_refl _)]; rfl
theorem nbN_cp (t : D) (a b : Nat) : ∀ i, nbN (cpT t) i a b = nbN t i a b
 | 0 => rfl
 | i + 1 => by show nbN (cpT t) i a b + _ = nbN t i a b + _; rw [nbN_cp t a b i]; rfl
theorem nbT_cp (t : D) (a b : Nat) : nbT (cpT t) a b = nbT t a b := by
 unfold nbT
 rw [nbN_cp]; rfl
theorem nbE_cp (e : D) (a b : Nat) : ∀ j, j ≤ e.len → nbE (cpE e) j a b = nbE e j a b
 | 0, _ => rfl
 | j + 1, h => by
  show nbE (cpE e) j a b + nbT (el (cpE e) j) a b = _
  rw [nbE_cp e a b j (by omega), cpE_el (by omega), nbT_cp]; rfl
theorem nbS_cp (s : D) (a b : Nat) : ∀ i, i ≤ s.len → nbS (cpS s) i a b = nbS s i a b
 | 0, _ => rfl
 | i + 1, h => by
  show nbS (cpS s) i a b + nbE (el (cpS s) i) (el (cpS s) i).len a b = _
  rw [nbS_cp s a b i (by omega), cpS_el (by omega), cpE_len, nbE_cp _ _ _ _ (Nat.le_refl _)]; rfl
theorem hasT_cp (t : D) (a : Int) : hasT (cpT t) a ↔ hasT t a := ⟨fun h => ⟨h.out⟩, fun h => ⟨h.out⟩⟩
theorem bothE_cp (e : D) (a b : Int) : bothE (cpE e) a b ↔ bothE e a b := by
 constructor
 ·rintro ⟨j, hj, h⟩
  rw [cpE_len] at hj; rw [cpE_el hj] at h
  exact ⟨j, hj, (hasT_cp _ _).1 h.l, (hasT_cp _ _).1 h.r⟩
 ·rintro ⟨j, hj, h⟩
  exact ⟨j, by rw [cpE_len]; exact hj, by rw [cpE_el hj]; exact ⟨(hasT_cp _ _).2 h.l, (hasT_cp _ _).2 h.r⟩⟩
theorem togL_cp (s : D) (a b : Int) : ∀ x, x ≤ s.len → togL (cpS s) a b x = togL s a b x
 | 0, _ => rfl
 | x + 1, h => by
  have e : bothE (el (cpS s) x) a b ↔ bothE (el s x) a b := by rw [cpS_el (by omega)]; exact bothE_cp _ _ _
  have ih := togL_cp s a b x (by omega)
  by_cases hb : bothE (el s x) a b
  ·rw [show togL (cpS s) a b (x + 1) = _ from if_pos (e.2 hb), show togL s a b (x + 1) = _ from if_pos hb, ih]
  ·rw [show togL (cpS s) a b (x + 1) = _ from if_neg fun k => hb (e.1 k), show togL s a b (x + 1) = _ from if_neg hb, ih]
theorem good_cp {n : Int} {s : D} (hb : bigP s) : goodS n (cpS s) ↔ goodS n s :=
 ⟨fun h => ⟨h.n1, hb, by have := h.chk; rwa [cpS_chk] at this⟩, fun h => ⟨h.n1, cpS_big hb, by rw [cpS_chk]; exact h.chk⟩⟩
theorem tab_cnt {n : Int} {s : D} (h : goodS n s) {i j : Nat} (hi : i < s.len) (hj : j < (el s i).len) {v : Nat} (hv : (v : Int) < n) : 0 ≤ cntF (el (el s i) j).asList v ∧ cntF (el (el s i) j).asList v ≤ 1 :=
 ⟨(cntF_rng _ _).1, Int.le_trans (flat_cnt (el s i) v _ hj) (good_cnt h hi hv)⟩
theorem tab_mt {n : Int} {s : D} (h : goodS n s) {i j : Nat} (hi : i < s.len) (hj : j < (el s i).len) {a b : Nat} (hab : a ≠ b) (ha : (a : Int) < n) (hb : (b : Int) < n) :
  (hasT (el (el s i) j) a ∧ hasT (el (el s i) j) b → mtN (el (el s i) j) (el (el s i) j).len a b = 1) ∧ (¬ (hasT (el (el s i) j) a ∧ hasT (el (el s i) j) b) → mtN (el (el s i) j) (el (el s i) j).len a b = 0) := by
 have h1 := tab_cnt h hi hj ha
 have h2 := tab_cnt h hi hj hb
 rw [mtN_cnt hab _ (Nat.le_refl _), show List.take (el (el s i) j).len (el (el s i) j).asList = (el (el s i) j).asList from List.take_of_length_le (Nat.le_refl _)]
 rw [hasT_cnt, hasT_cnt]
 refine ⟨fun ⟨k1, k2⟩ => ?_, fun k => ?_⟩
 ·rw [show cntF (el (el s i) j).asList (a : Int) = 1 by omega, show cntF (el (el s i) j).asList (b : Int) = 1 by omega]; rfl
 ·by_cases k1 : 0 < cntF (el (el s i) j).asList (a : Int)
  ·rw [show cntF (el (el s i) j).asList (b : Int) = 0 by have : ¬ 0 < cntF (el (el s i) j).asList (b : Int) := fun q => k ⟨k1, q⟩; omega, Int.mul_zero]
  ·rw [show cntF (el (el s i) j).asList (a : Int) = 0 by omega, Int.zero_mul]
theorem rtE_mt {n : Int} {s : D} (h : goodS n s) {i : Nat} (hi : i < s.len) {a b : Nat} (hab : a ≠ b) (ha : (a : Int) < n) (hb : (b : Int) < n) : ∀ j, j ≤ (el s i).len → ((rtE (el s i) a b i j).length : Int) = mtE (el s i) j a b
 | 0, _ => rfl
 | j + 1, hj => by
  have ih := rtE_mt h hi hab ha hb j (by omega)
  have ht := tab_mt h hi (show j < (el s i).len by omega) hab ha hb
  show _ = mtE (el s i) j a b + mtN _ _ a b
  by_cases k : hasT (el (el s i) j) a ∧ hasT (el (el s i) j) b
  ·rw [show rtE (el s i) a b i (j + 1) = _ from if_pos k, ht.1 k, List.length_append, ← ih]; rfl
  ·rw [show rtE (el s i) a b i (j + 1) = _ from if_neg k, ht.2 k, ← ih, Int.add_zero]
theorem rtS_mt {n : Int} {s : D} (h : goodS n s) {a b : Nat} (hab : a ≠ b) (ha : (a : Int) < n) (hb : (b : Int) < n) : ∀ i, i ≤ s.len → ((rtS s a b i).length : Int) = mtS s i a b
 | 0, _ => rfl
 | i + 1, hi => by
  show ((rtS s a b i ++ rtE (el s i) a b i (el s i).len).length : Int) = mtS s i a b + _
  rw [List.length_append, Int.natCast_add, rtS_mt h hab ha hb i (by omega), rtE_mt h (by omega) hab ha hb _ (Nat.le_refl _)]
theorem rtE_all (ev : D) (a b : Int) (i : Nat) : ∀ j, ∀ d, d ∈ rtE ev a b i j → d = .int (i : Nat)
 | 0, d, h => by cases h
 | j + 1, d, h => by
  by_cases k : hasT (el ev j) a ∧ hasT (el ev j) b
  ·rw [show rtE ev a b i (j + 1) = _ from if_pos k] at h
   rcases List.mem_append.1 h with h | h
   ·exact rtE_all ev a b i j d h
   ·exact List.mem_singleton.1 h
  ·rw [show rtE ev a b i (j + 1) = _ from if_neg k] at h
   exact rtE_all ev a b i j d h
theorem rtE_none {ev : D} {a b : Int} (i : Nat) : ∀ j, j ≤ ev.len → ¬ bothE ev a b → rtE ev a b i j = []
 | 0, _, _ => rfl
 | j + 1, hj, h => by
  rw [show rtE ev a b i (j + 1) = _ from if_neg fun k => h ⟨j, by omega, k.1, k.2⟩]
  exact rtE_none i j (by omega) h
theorem has_in {n : Int} {s : D} (h : goodS n s) {i j : Nat} (hi : i < s.len) (hj : j < (el s i).len) {a : Int} (k : hasT (el (el s i) j) a) : 0 ≤ a ∧ a < n := by
 obtain ⟨p, hp, rfl⟩ := k.out
 exact (good_tab h hi hj).rng p hp
theorem rt_tog {n : Int} {s : D} (h : goodS n s) {a b : Int} (hab : a ≠ b) : ∀ x, x ≤ s.len → rtS s a b x = togL s a b x
 | 0, _ => rfl
 | x + 1, hx => by
  have ih := rt_tog h hab x (by omega)
  show rtS s a b x ++ rtE (el s x) a b x (el s x).len = _
  by_cases k : bothE (el s x) a b
  ·rw [show togL s a b (x + 1) = _ from if_pos k, ih]
   obtain ⟨j, hj, k1⟩ := k.out
   have ra := has_in h (show x < s.len by omega) hj k1.l
   have rb := has_in h (show x < s.len by omega) hj k1.r
   obtain ⟨A, rfl⟩ : ∃ A : Nat, a = A := ⟨a.toNat, by omega⟩
   obtain ⟨B, rfl⟩ : ∃ B : Nat, b = B := ⟨b.toNat, by omega⟩
   have hl := rtE_mt h (show x < s.len by omega) (a := A) (b := B) (fun e => hab (by rw [e])) ra.2 rb.2 _ (Nat.le_refl _)
   rcases mtE_good h (show x < s.len by omega) (a := A) (b := B) (fun e => hab (by rw [e])) ra.2 rb.2 with ⟨m1, _⟩ | ⟨_, m2⟩
   ·rw [m1] at hl
    have : rtE (el s x) A B x (el s x).len = List.replicate 1 (.int (x : Nat)) := List.eq_replicate_iff.2 ⟨by omega, rtE_all _ _ _ _ _⟩
    rw [this]; rfl
   ·exact (m2 k).elim
  ·rw [show togL s a b (x + 1) = _ from if_neg k, ih, rtE_none x _ (Nat.le_refl _) k, List.append_nil]
theorem mtN_self (t : D) (a : Nat) (h : ∀ p q, p < q → q < t.len → nAt t p ≠ nAt t q) : ∀ i, i ≤ t.len → mtN t i a a = 0
 | 0, _ => rfl
 | i + 1, hi => by
  have hI : ∀ j, j ≤ i → mtI t i j a a = 0 := by
   intro j
   induction j with
   | zero => intro _; rfl
   | succ j ih =>
    intro hj
    show mtI t i j a a + indN _ _ a a = 0
    have := h j i (by omega) (by omega)
    rw [ih (by omega)]
    unfold indN
    rw [if_neg (by omega), if_neg (by omega)]; rfl
  show mtN t i a a + mtI t i i a a = 0
  rw [mtN_self t a h i (by omega), hI i (Nat.le_refl _)]; rfl
theorem mtE_self {n : Int} {s : D} (h : goodS n s) {i : Nat} (hi : i < s.len) (a : Nat) : ∀ j, j ≤ (el s i).len → mtE (el s i) j a a = 0
 | 0, _ => rfl
 | j + 1, hj => by
  show mtE (el s i) j a a + mtN _ _ a a = 0
  rw [mtE_self h hi a j (by omega), mtN_self _ a (fun p q hpq hq => good_ne h hi (by omega) hpq hq) _ (Nat.le_refl _)]; rfl
theorem mtS_self {n : Int} {s : D} (h : goodS n s) (a : Nat) : ∀ i, i ≤ s.len → mtS s i a a = 0
 | 0, _ => rfl
 | i + 1, hi => by
  show mtS s i a a + mtE _ _ a a = 0
  rw [mtS_self h a i (by omega), mtE_self h (by omega) a _ (Nat.le_refl _)]; rfl
theorem rm_sq {n : Int} {s : D} (h : goodS n s) : rmL s n.toNat n.toNat = sqD n.toNat (mtS s s.len) := by
 have hn := h.n1
 unfold rmL sqD
 refine List.map_congr_left fun x hx => ?_
 have hx := List.mem_range.1 hx
 congr 1
 unfold rmR
 refine List.map_congr_left fun y hy => ?_
 have hy := List.mem_range.1 hy
 congr 1
 by_cases e : x = y
 ·rw [if_pos e, ← e, mtS_self h x _ (Nat.le_refl _)]
 ·rw [if_neg e, rtS_mt h e (by omega) (by omega) _ (Nat.le_refl _)]
end Go.Ev
