/-
  Part of the engine that the claim is proved with: it states nothing of the document by itself.
-/
import Derived.Test.YtenmglepjkflhaaDoorCoreOnM
namespace Go.Ev
theorem p2R_at {m e i k : Nat} (h : k < i - 1) : nthD (p2R m e i) k = .list [.int (p2A m e (k + 1) : Nat), .int (p2B m e (k + 1) : Nat)] := by
 unfold p2R nthD
 rw [List.getElem?_map, List.getElem?_range h]; rfl
theorem p2E_len (n m e : Nat) : (D.list (p2E n m e)).len = 1 + (m / 2 - 1) := by
 show (p2F n m e :: p2R m e (m / 2)).length = _
 unfold p2R
 rw [List.length_cons, List.length_map, List.length_range]; omega
theorem p2E_zero (n m e : Nat) : el (.list (p2E n m e)) 0 = p2F n m e := rfl
theorem p2E_at {n m e k : Nat} (h : k < m / 2 - 1) : el (.list (p2E n m e)) (k + 1) = .list [.int (p2A m e (k + 1) : Nat), .int (p2B m e (k + 1) : Nat)] := by
 show nthD (p2F n m e :: p2R m e (m / 2)) (k + 1) = _
 have : nthD (p2F n m e :: p2R m e (m / 2)) (k + 1) = nthD (p2R m e (m / 2)) k := rfl
 rw [this, p2R_at h]
theorem pv_pair {m e k : Nat} (h : robP m) (he : e < m - 1) (hk : k < m / 2 - 1) : p2A m e (k + 1) ≠ p2B m e (k + 1) ∧ p2A m e (k + 1) < m ∧ p2B m e (k + 1) < m := by
 have hmem : ∀ v, v ∈ [p2A m e (k + 1), p2B m e (k + 1)] → v ∈ pvE m e := fun v hv => List.mem_cons_of_mem _ (List.mem_cons_of_mem _ (List.mem_flatMap.2 ⟨k, List.mem_range.2 hk, hv⟩))
 refine ⟨fun e1 => ?_, (h.evM e _ he).1 (hmem _ (by simp)), (h.evM e _ he).1 (hmem _ (by simp))⟩
 have hn := h.evN e he
 unfold pvE at hn
 have h1 := (List.nodup_cons.1 (List.nodup_cons.1 hn).2).2
 have h2 : [p2A m e (k + 1), p2B m e (k + 1)].Nodup := by
  have := (List.pairwise_flatMap.1 h1).1 k (List.mem_range.2 hk)
  exact this
 rw [e1] at h2
 simp at h2
theorem rob_even {n m e a b : Nat} (h : robP m) (h2 : 2 ≤ m) (h64 : m ≤ 64) (hnm : n = m ∨ n + 1 = m) (he : e < m - 1) (ha : a < n) (hb : b < n) :
  ∀ j, j ≤ m / 2 - 1 → mtE (.list (p2E n m e)) (j + 1) a b = ((prC (m - 1) e :: (List.range j).map fun k => prC (p2A m e (k + 1)) (p2B m e (k + 1))).count (prC a b) : Nat)
 | 0, _ => by
  show 0 + mtN (el (.list (p2E n m e)) 0) (el (.list (p2E n m e)) 0).len a b = _
  rw [p2E_zero, Int.zero_add]
  have hi := ind_prC (x := m - 1) (y := e) (a := a) (b := b) (by omega) (by omega) (by omega) (by omega) (by omega)
  have hc : (([prC (m - 1) e].count (prC a b) : Nat) : Int) = if prC (m - 1) e = prC a b then 1 else 0 := by
   rw [List.count_singleton]
   by_cases hq : prC (m - 1) e = prC a b
   ·rw [if_pos (by simpa using hq), if_pos hq]; rfl
   ·rw [if_neg (by simpa using hq), if_neg hq]; rfl
  show mtN (p2F n m e) (p2F n m e).len a b = (([prC (m - 1) e].count (prC a b) : Nat) : Int)
  rw [hc]
  rcases hnm with rfl | hnm
  ·have e1 : p2F n n e = .list [.int ((n - 1 : Nat) : Int), .int (e : Int)] := by unfold p2F; rw [if_neg (by omega)]
   rw [e1]
   show mtN (.list [.int ((n - 1 : Nat) : Int), .int (e : Int)]) 2 a b = _
   rw [mtN_two, hi]
  ·have e1 : p2F n m e = .list [.int (e : Int)] := by unfold p2F; rw [if_pos (by omega)]
   rw [e1]
   show (0 : Int) = _
   rw [← hi]
   unfold indN
   rw [if_neg (by omega), if_neg (by omega)]; rfl
 | j + 1, hj => by
  have ih := rob_even h h2 h64 hnm he ha hb j (by omega)
  show mtE (.list (p2E n m e)) (j + 1) a b + mtN (el (.list (p2E n m e)) (j + 1)) (el (.list (p2E n m e)) (j + 1)).len a b = _
  obtain ⟨r1, r2, r3⟩ := pv_pair h he (show j < m / 2 - 1 by omega)
  rw [ih, p2E_at (show j < m / 2 - 1 by omega)]
  show _ + mtN (.list [.int (p2A m e (j + 1) : Nat), .int (p2B m e (j + 1) : Nat)]) 2 a b = _
  rw [mtN_two, ind_prC (by omega) (by omega) (by omega) (by omega) r1, List.range_succ, List.map_append, List.map_singleton, ← List.cons_append, count_snoc]
  split <;> omega
theorem p2S_at {n m x e : Nat} (h : e < x) : el (.list (p2S n m x)) e = .list (p2E n m e) := by
 unfold p2S el nthD
 show (((List.range x).map fun e => D.list (p2E n m e))[e]?).getD .nil = _
 rw [List.getElem?_map, List.getElem?_range h]; rfl
theorem rob_count {n m a b : Nat} (h : robP m) (h2 : 2 ≤ m) (h64 : m ≤ 64) (hnm : n = m ∨ n + 1 = m) (ha : a < n) (hb : b < n) :
  ∀ x, x ≤ m - 1 → mtS (.list (p2S n m (m - 1))) x a b = ((pcS m x).count (prC a b) : Nat)
 | 0, _ => by simp [mtS, pcS]
 | x + 1, hx => by
  unfold mtS
  rw [rob_count h h2 h64 hnm ha hb x (by omega), p2S_at (show x < m - 1 by omega), p2E_len, Nat.add_comm 1, rob_even h h2 h64 hnm (show x < m - 1 by omega) ha hb (m / 2 - 1) (Nat.le_refl _)]
  unfold pcS
  rw [List.range_succ, List.flatMap_append, List.count_append]
  simp [pcE]
theorem rob_meet {n a b : Nat} (h2 : 2 ≤ n) (h64 : n ≤ 64) (ha : a < n) (hb : b < n) : mtS (.list (p2S n (evM n) (evM n - 1))) (evM n - 1) a b = if a = b then 0 else 1 := by
 have hm : evM n % 2 = 0 ∧ 2 ≤ evM n ∧ evM n ≤ 64 ∧ (n = evM n ∨ n + 1 = evM n) := by unfold evM; omega
 have h := rob_ok hm.2.1 hm.2.2.1 hm.1
 rw [rob_count h hm.2.1 hm.2.2.1 hm.2.2.2 ha hb _ (Nat.le_refl _)]
 by_cases e : a = b
 ·subst e
  rw [if_pos rfl]
  have : (pcS (evM n) (evM n - 1)).count (prC a a) = 0 := by
   refine List.count_eq_zero.2 fun hmem => ?_
   have cne : ∀ x y : Nat, x < 64 → y < 64 → x ≠ y → prC x y ≠ prC a a := fun x y hx hy hxy => by
    have := ind_prC (a := a) (b := a) hx hy (by omega) (by omega) hxy
    intro he
    rw [if_pos he] at this
    unfold indN at this
    split at this <;> split at this <;> omega
   obtain ⟨i, hi, hp⟩ := List.mem_flatMap.1 hmem
   have hi := List.mem_range.1 hi
   rcases List.mem_cons.1 hp with hp | hp
   ·exact cne _ _ (by omega) (by omega) (by omega) hp.symm
   ·obtain ⟨k, hk, he⟩ := List.mem_map.1 hp
    obtain ⟨r1, r2, r3⟩ := pv_pair h hi (List.mem_range.1 hk)
    exact cne _ _ (by omega) (by omega) r1 he
  rw [this]; rfl
 ·rw [if_neg e, h.one a b (by omega) (by omega) e]; rfl
end Go.Ev
