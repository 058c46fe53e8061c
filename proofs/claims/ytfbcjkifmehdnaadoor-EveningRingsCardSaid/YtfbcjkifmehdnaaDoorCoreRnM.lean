/-
  Part of the engine that the claim is proved with: it states nothing of the document by itself.
-/
import Derived.Test.YtfbcjkifmehdnaaDoorCoreRnD
namespace Go.Ev
structure ringP (m : Nat) : Prop where
 rng : ∀ i p, i < m → p < 2 * m + 1 → rgN m i p < 2 * m + 1
 inj : ∀ i, i < m → ((List.range (2 * m + 1)).map (rgN m i)).Nodup
 all : ∀ i a, i < m → a < 2 * m + 1 → a ∈ (List.range (2 * m + 1)).map (rgN m i)
 one : ∀ a b, a < 2 * m + 1 → b < 2 * m + 1 → a ≠ b → (prS m m).count (prC a b) = 1
theorem ring_ok {m : Nat} (h0 : 0 < m) (h1 : m ≤ 31) : ringP m := by
 have hc : ckM m = true := by
  have := List.all_eq_true.1 ck_all (m - 1) (List.mem_range.2 (by omega))
  rwa [show m - 1 + 1 = m by omega] at this
 unfold ckM at hc
 rw [Bool.and_eq_true] at hc
 obtain ⟨hv, hf⟩ := hc
 have hv' : ∀ i, i < m → ckV m i = true := fun i hi => List.all_eq_true.1 hv i (List.mem_range.2 hi)
 have hvs : ∀ i, i < m → (∀ p, p < 2 * m + 1 → rgN m i p < 2 * m + 1) ∧ ((List.range (2 * m + 1)).map (rgN m i)).Nodup ∧ ∀ a, a < 2 * m + 1 → a ∈ (List.range (2 * m + 1)).map (rgN m i) := fun i hi => by
  have hck := hv' i hi
  unfold ckV at hck
  rw [Bool.and_eq_true] at hck
  obtain ⟨q1, q2⟩ := hck
  cases hin : insB ((List.range (2 * m + 1)).map (rgN m i)) 0 with
  | none => rw [hin] at q1; cases q1
  | some M =>
   rw [hin] at q1
   obtain ⟨r1, r2, _⟩ := insB_ok hin
   refine ⟨fun p hp => Nat.le_of_ble_eq_true (List.all_eq_true.1 q2 p (List.mem_range.2 hp)), r2, fun a ha => ?_⟩
   rcases (r1 a).1 (List.all_eq_true.1 q1 a (List.mem_range.2 ha)) with h | h
   ·simp at h
   ·exact h
 refine ⟨fun i p hi hp => (hvs i hi).1 p hp, fun i hi => (hvs i hi).2.1, fun i a hi ha => (hvs i hi).2.2 a ha, fun a b ha hb hab => ?_⟩
 cases hin : insB (prS m m) 0 with
 | none => rw [hin] at hf; cases hf
 | some M =>
  rw [hin] at hf
  refine count_one hin ?_
  have := List.all_eq_true.1 (List.all_eq_true.1 hf a (List.mem_range.2 ha)) b (List.mem_range.2 hb)
  rw [Bool.or_eq_true] at this
  rcases this with h | h
  ·exact absurd (Nat.eq_of_beq_eq_true h) hab
  ·exact h
theorem rgL_len (m i j : Nat) : (rgL m i j).length = j := by unfold rgL; rw [List.length_map, List.length_range]
theorem rgL_at (m i : Nat) {j p : Nat} (h : p < j) : nthD (rgL m i j) p = .int (rgN m i p : Nat) := by
 unfold rgL nthD
 rw [List.getElem?_map, List.getElem?_range h]; rfl
theorem rgS_len (m x : Nat) : (rgS m x).length = x := by unfold rgS; rw [List.length_map, List.length_range]
theorem rgS_at (m : Nat) {x i : Nat} (h : i < x) : nthD (rgS m x) i = .list [.list (rgL m i (2 * m + 1))] := by
 unfold rgS nthD
 rw [List.getElem?_map, List.getElem?_range h]; rfl
theorem rgN_inj {m i p q : Nat} (h : ringP m) (hi : i < m) (hpq : p < q) (hq : q < 2 * m + 1) : rgN m i p ≠ rgN m i q := fun e => by
 have := List.pairwise_iff_getElem.1 (h.inj i hi) p q (by rw [List.length_map, List.length_range]; omega) (by rw [List.length_map, List.length_range]; omega) hpq
 apply this
 rw [List.getElem_map, List.getElem_map, List.getElem_range, List.getElem_range, e]
theorem rgN_ne {m i p : Nat} (h : ringP m) (hi : i < m) (hp : p + 1 < 2 * m + 1) : rgN m i p ≠ rgN m i (p + 1) := rgN_inj h hi (by omega) hp
theorem rgN_ends {m i : Nat} (h : ringP m) (h0 : 0 < m) (hi : i < m) : rgN m i (2 * m) ≠ rgN m i 0 := fun e => rgN_inj h hi (p := 0) (q := 2 * m) (by omega) (by omega) e.symm
theorem ind_prC {x y a b : Nat} (hx : x < 64) (hy : y < 64) (ha : a < 64) (hb : b < 64) (hxy : x ≠ y) : indN x y a b = if prC x y = prC a b then 1 else 0 := by
 unfold indN prC
 have e1 : ∀ u v : Nat, (cond (Nat.blt u v) (64 * u + v) (64 * v + u)) = if u < v then 64 * u + v else 64 * v + u := fun u v => by
  by_cases h : u < v
  ·rw [show Nat.blt u v = true from Nat.ble_eq_true_of_le h, if_pos h]; rfl
  ·rw [show Nat.blt u v = false from Bool.eq_false_iff.2 fun hh => h (Nat.le_of_ble_eq_true hh), if_neg h]; rfl
 rw [e1, e1]
 repeat' split
 all_goals omega
theorem count_snoc (l : List Nat) (x q : Nat) : (l ++ [x]).count q = l.count q + if x = q then 1 else 0 := by
 rw [List.count_append, List.count_singleton]
 by_cases h : x = q
 ·rw [if_pos h, if_pos (by simpa using h)]
 ·rw [if_neg h, if_neg (by simpa using h)]
theorem nbN_count {m i a b : Nat} (h : ringP m) (hm : m ≤ 31) (hi : i < m) (ha : a < 2 * m + 1) (hb : b < 2 * m + 1) : ∀ j, j ≤ 2 * m → nbN (.list (rgL m i (2 * m + 1))) (j + 1) a b = (((List.range j).map (prP m i)).count (prC a b) : Nat)
 | 0, _ => by simp [nbN]
 | j + 1, hj => by
  have ih := nbN_count h hm hi ha hb j (by omega)
  unfold nbN
  rw [ih, List.range_succ, List.map_append, List.map_singleton, count_snoc, if_neg (by omega)]
  have e1 : nAt (.list (rgL m i (2 * m + 1))) (j + 1 - 1) = (rgN m i j : Nat) := by
   show (nthD (rgL m i (2 * m + 1)) (j + 1 - 1)).asInt = _
   rw [rgL_at m i (by omega)]; rfl
  have e2 : nAt (.list (rgL m i (2 * m + 1))) (j + 1) = (rgN m i (j + 1) : Nat) := by
   show (nthD (rgL m i (2 * m + 1)) (j + 1)).asInt = _
   rw [rgL_at m i (by omega)]; rfl
  have r1 := h.rng i j hi (by omega)
  have r2 := h.rng i (j + 1) hi (by omega)
  rw [e1, e2, ind_prC (by omega) (by omega) (by omega) (by omega) (rgN_ne h hi (by omega))]
  show _ + _ = ((_ + if prP m i j = prC a b then 1 else 0 : Nat) : Int)
  unfold prP
  split <;> omega
theorem nbT_count {m i a b : Nat} (h : ringP m) (h0 : 0 < m) (hm : m ≤ 31) (hi : i < m) (ha : a < 2 * m + 1) (hb : b < 2 * m + 1) : nbT (.list (rgL m i (2 * m + 1))) a b = ((prT m i).count (prC a b) : Nat) := by
 have hl : (D.list (rgL m i (2 * m + 1))).len = 2 * m + 1 := rgL_len _ _ _
 unfold nbT prT
 rw [hl, nbN_count h hm hi ha hb (2 * m) (Nat.le_refl _), if_pos (by omega), count_snoc]
 have e1 : nAt (.list (rgL m i (2 * m + 1))) (2 * m + 1 - 1) = (rgN m i (2 * m) : Nat) := by
  show (nthD (rgL m i (2 * m + 1)) (2 * m + 1 - 1)).asInt = _
  rw [rgL_at m i (by omega)]; rfl
 have e2 : nAt (.list (rgL m i (2 * m + 1))) 0 = (rgN m i 0 : Nat) := by
  show (nthD (rgL m i (2 * m + 1)) 0).asInt = _
  rw [rgL_at m i (by omega)]; rfl
 have r1 := h.rng i (2 * m) hi (by omega)
 have r2 := h.rng i 0 hi (by omega)
 rw [e1, e2, ind_prC (by omega) (by omega) (by omega) (by omega) (rgN_ends h h0 hi)]
 split <;> omega
theorem nbS_count {m a b : Nat} (h : ringP m) (h0 : 0 < m) (hm : m ≤ 31) (ha : a < 2 * m + 1) (hb : b < 2 * m + 1) : ∀ x, x ≤ m → nbS (.list (rgS m m)) x a b = ((prS m x).count (prC a b) : Nat)
 | 0, _ => by simp [nbS, prS]
 | x + 1, hx => by
  have ih := nbS_count h h0 hm ha hb x (by omega)
  unfold nbS
  have e : el (.list (rgS m m)) x = .list [.list (rgL m x (2 * m + 1))] := rgS_at m (by omega)
  rw [ih, e]
  have e1 : nbE (.list [.list (rgL m x (2 * m + 1))]) (D.list [.list (rgL m x (2 * m + 1))]).len a b = nbT (.list (rgL m x (2 * m + 1))) a b := by
   show 0 + nbT _ a b = _
   rw [Int.zero_add]; rfl
  rw [e1, nbT_count h h0 hm (by omega) ha hb]
  unfold prS
  rw [List.range_succ, List.flatMap_append, List.count_append]
  simp
theorem ring_beside {m a b : Nat} (h0 : 0 < m) (hm : m ≤ 31) (ha : a < 2 * m + 1) (hb : b < 2 * m + 1) : nbS (.list (rgS m m)) m a b = if a = b then 0 else 1 := by
 have h := ring_ok h0 hm
 rw [nbS_count h h0 hm ha hb m (Nat.le_refl _)]
 by_cases e : a = b
 ·subst e
  rw [if_pos rfl]
  have : (prS m m).count (prC a a) = 0 := by
   refine List.count_eq_zero.2 fun hmem => ?_
   have cne : ∀ x y : Nat, x < 64 → y < 64 → x ≠ y → prC x y ≠ prC a a := fun x y hx hy hxy => by
    have := ind_prC (a := a) (b := a) hx hy (by omega) (by omega) hxy
    intro he
    rw [if_pos he] at this
    unfold indN at this
    split at this <;> split at this <;> omega
   obtain ⟨i, hi, hp⟩ := List.mem_flatMap.1 hmem
   have hi := List.mem_range.1 hi
   rcases List.mem_append.1 hp with hp | hp
   ·obtain ⟨p, hp, he⟩ := List.mem_map.1 hp
    have hp := List.mem_range.1 hp
    have r1 := h.rng i p hi (by omega)
    have r2 := h.rng i (p + 1) hi (by omega)
    exact cne _ _ (by omega) (by omega) (rgN_ne h hi (by omega)) he
   ·have he := List.mem_singleton.1 hp
    have r1 := h.rng i (2 * m) hi (by omega)
    have r2 := h.rng i 0 hi (by omega)
    exact cne _ _ (by omega) (by omega) (rgN_ends h h0 hi) he.symm
  rw [this]; rfl
 ·rw [if_neg e, h.one a b ha hb e]; rfl
end Go.Ev
