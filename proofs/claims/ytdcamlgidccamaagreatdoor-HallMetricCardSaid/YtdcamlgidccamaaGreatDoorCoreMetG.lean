/-
  Part of the engine that the claim is proved with: it states nothing of the document by itself.
-/
import Derived.Test.YtdcamlgidccamaaGreatDoorCoreMetB
import Derived.Test.YtdcamlgidccamaaGreatDoorCoreLev
open Go.Proofs
namespace Go.Ev
set_option maxRecDepth 100000
set_option maxHeartbeats 4000000
/-! ### The table of distances -/
section
variable {n : Nat} {f : Nat → Nat → Int}
theorem g_len (x y : Nat) : (gridL n f x y).length = 576 := by simp [gridL]
theorem g_at {x y i : Nat} (h : i < 576) : nthD (gridL n f x y) i = D.int (if (i / 24 < x ∧ i % 24 < n) ∨ (i / 24 = x ∧ i % 24 < y) then f (i / 24) (i % 24) else 0) := nth_mapR _ _ _ h
theorem g_congr {x y x' y' : Nat} (h : ∀ i, i < 576 → ((i / 24 < x ∧ i % 24 < n) ∨ (i / 24 = x ∧ i % 24 < y) ↔ (i / 24 < x' ∧ i % 24 < n) ∨ (i / 24 = x' ∧ i % 24 < y'))) : gridL n f x y = gridL n f x' y' := by
  unfold gridL
  apply List.map_congr_left
  intro i hi
  simp only [h i (List.mem_range.1 hi)]
theorem g_zero : List.replicate (24 * 24) (D.int 0) = gridL n f 0 0 := by
  refine rows_ext (by rw [g_len, List.length_replicate]) fun i hi => ?_
  rw [List.length_replicate] at hi
  rw [g_at hi, if_neg (by omega)]
  unfold nthD; rw [List.getElem?_replicate, if_pos hi]; rfl
theorem g_set {x y : Nat} (hx : x < 24) (hy : y < n) (hn : n ≤ 24) : (gridL n f x y).set (x * 24 + y * 1) (D.int (f x y)) = gridL n f x (y + 1) := by
  refine rows_ext (by rw [List.length_set, g_len, g_len]) fun i hi => ?_
  rw [List.length_set, g_len] at hi
  rw [nth_setR _ _ _ _ (by rw [g_len]; exact hi), g_at hi, g_at hi]
  split
  · rename_i e
    have e1 : i / 24 = x := by omega
    have e2 : i % 24 = y := by omega
    rw [if_pos (.inr ⟨e1, by omega⟩), e1, e2]
  · rename_i e
    have : ((i / 24 < x ∧ i % 24 < n) ∨ (i / 24 = x ∧ i % 24 < y)) ↔ ((i / 24 < x ∧ i % 24 < n) ∨ (i / 24 = x ∧ i % 24 < y + 1)) := by omega
    simp only [this]
theorem g_row {x : Nat} : gridL n f x n = gridL n f (x + 1) 0 := g_congr fun i _ => by omega
theorem g_nth {p q : Nat} (hp : p < n) (hq : q < n) (hn : n ≤ 24) : (nthD (gridL n f n 0) (p * 24 + q * 1)).asInt = f p q := by
  have e1 : (p * 24 + q * 1) / 24 = p := by omega
  have e2 : (p * 24 + q * 1) % 24 = q := by omega
  rw [g_at (by omega), e1, e2, if_pos (.inl ⟨hp, hq⟩)]; rfl
end
/-! ### Blocks, as they are listed -/
theorem isIn_list {l : List D} {v : Int} : isIn (.list l) v ↔ ∃ d, d ∈ l ∧ d.asInt = v := by
  constructor
  · intro h
    obtain ⟨j, hj, he⟩ := h.out
    have hj : j < l.length := hj
    refine ⟨nthD l j, ?_, he⟩
    rw [nthD_get _ _ hj]; exact List.getElem_mem _
  · rintro ⟨d, hd, he⟩
    obtain ⟨j, hj, hg⟩ := List.getElem_of_mem hd
    exact ⟨j, hj, by show (nthD l j).asInt = v; rw [nthD_get _ _ hj, hg]; exact he⟩
section
variable {sh a b : Int} {n : Nat}
theorem bm_in {k y : Nat} (hy : y < n) : isIn (.list (blkMem sh a b 0 n k n)) (y : Int) ↔ reachP sh a b n k y := by
  rw [isIn_list]
  unfold blkMem
  constructor
  · rintro ⟨d, hd, he⟩
    obtain ⟨m, hm, rfl⟩ := List.mem_map.1 hd
    have hm := (List.mem_filter.1 hm).2
    have he : (0 : Int) + (m : Int) = (y : Int) := he
    have : m = y := by omega
    subst this
    simpa using hm
  · intro h
    exact ⟨.int (0 + (y : Int)), List.mem_map.2 ⟨y, List.mem_filter.2 ⟨List.mem_range.2 hy, by simpa using h⟩, rfl⟩, by show (0 : Int) + y = y; omega⟩
theorem bm_mem {k j : Nat} (hj : j < (D.list (blkMem sh a b 0 n k n)).len) : ∃ m : Nat, m < n ∧ reachP sh a b n k m ∧ (el (.list (blkMem sh a b 0 n k n)) j).asInt = m := by
  have hj : j < (blkMem sh a b 0 n k n).length := hj
  have hd : nthD (blkMem sh a b 0 n k n) j ∈ blkMem sh a b 0 n k n := by rw [nthD_get _ _ hj]; exact List.getElem_mem _
  have e : el (.list (blkMem sh a b 0 n k n)) j = nthD (blkMem sh a b 0 n k n) j := rfl
  rw [e]
  generalize nthD (blkMem sh a b 0 n k n) j = d at *
  unfold blkMem at hd
  obtain ⟨m, hm, rfl⟩ := List.mem_map.1 hd
  have h1 := List.mem_range.1 (List.mem_filter.1 hm).1
  have h2 := (List.mem_filter.1 hm).2
  exact ⟨m, h1, by simpa using h2, by show (0 : Int) + m = m; omega⟩
theorem bm_sorted (k : Nat) : sortedP (.list (blkMem sh a b 0 n k n)) := by
  have hp : (blkMem sh a b 0 n k n).Pairwise fun d e => d.asInt < e.asInt := by
    unfold blkMem
    rw [List.pairwise_map]
    refine (List.Pairwise.filter _ List.pairwise_lt_range).imp fun {x y} h => ?_
    show (0 : Int) + (x : Int) < 0 + (y : Int)
    omega
  refine ⟨fun i h0 hi => ?_⟩
  have hi : i < (blkMem sh a b 0 n k n).length := hi
  have := List.pairwise_iff_getElem.1 hp (i - 1) i (by omega) hi (by omega)
  show ¬ ((nthD (blkMem sh a b 0 n k n) i).asInt < (nthD (blkMem sh a b 0 n k n) (i - 1)).asInt)
  rw [nthD_get _ _ hi, nthD_get _ _ (by omega)]
  omega
theorem bl_el {i : Nat} (hi : i < (D.list (blkL sh a b 0 n n)).len) : ∃ k, k < n ∧ el (.list (blkL sh a b 0 n n)) i = .list (blkMem sh a b 0 n k n) := by
  have hi : i < (blkL sh a b 0 n n).length := hi
  have hd : nthD (blkL sh a b 0 n n) i ∈ blkL sh a b 0 n n := by rw [nthD_get _ _ hi]; exact List.getElem_mem _
  have e : el (.list (blkL sh a b 0 n n)) i = nthD (blkL sh a b 0 n n) i := rfl
  rw [e]
  generalize nthD (blkL sh a b 0 n n) i = d at *
  unfold blkL at hd
  obtain ⟨k, hk, rfl⟩ := List.mem_map.1 hd
  exact ⟨k, List.mem_range.1 (List.mem_filter.1 hk).1, rfl⟩
theorem sumLen_take (l : List D) : ∀ x, x ≤ l.length → sumLen (.list l) x = ((((l.take x).map D.len).sum : Nat) : Int)
  | 0, _ => rfl
  | x + 1, h => by
    have ih := sumLen_take l x (by omega)
    show sumLen (.list l) x + ((el (.list l) x).len : Int) = _
    have hx : x < l.length := by omega
    rw [ih, List.take_succ_eq_append_getElem hx, List.map_append, List.sum_append]
    have e : el (.list l) x = l[x] := nthD_get l x hx
    rw [e]; simp
theorem sum_filter (p : Nat → Bool) (g : Nat → Nat) : ∀ l : List Nat, ((l.filter p).map g).sum = (l.map fun k => if p k then g k else 0).sum
  | [] => rfl
  | k :: l => by
    rw [List.map_cons, List.sum_cons, ← sum_filter p g l]
    cases hp : p k <;> simp [List.filter_cons, hp]
theorem bl_sum : sumLen (.list (blkL sh a b 0 n n)) (D.list (blkL sh a b 0 n n)).len = n := by
  have h := sumLen_take (blkL sh a b 0 n n) (blkL sh a b 0 n n).length (Nat.le_refl _)
  rw [List.take_length] at h
  show sumLen (.list (blkL sh a b 0 n n)) (blkL sh a b 0 n n).length = n
  rw [h]
  have e : (blkL sh a b 0 n n).map D.len = ((List.range n).filter (lead sh a b n)).map fun k => (List.range n).countP (hits sh a b n k) := by
    unfold blkL
    rw [List.map_map]
    apply List.map_congr_left
    intro k _
    show (blkMem sh a b 0 n k n).length = _
    unfold blkMem
    rw [List.length_map, ← List.countP_eq_length_filter]; rfl
  rw [e, sum_filter, sum_leads (List.range n) fun m hm => List.mem_range.1 hm, List.length_range]
end
end Go.Ev
