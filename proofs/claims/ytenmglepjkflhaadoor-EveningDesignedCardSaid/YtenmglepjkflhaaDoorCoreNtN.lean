/-
  Part of the engine that the claim is proved with: it states nothing of the document by itself.
-/
import Derived.Test.YtenmglepjkflhaaDoorCoreNtM
namespace Go.Ev
structure netP (q k : Nat) : Prop where
 qq : q ∈ qsL
 lim : k * q ≤ 64
 pos : 0 < k
 kq : k ≤ q
 evN : ∀ a, a < q → (evV q k a q).Nodup
 evM : ∀ a x, a < q → (x ∈ evV q k a q ↔ x < k * q)
 cnt : ∀ x y, x < k * q → y < k * q → (ncS q k q).count (prC x y) = if x / q = y / q then 0 else 1
theorem qs_pos {q : Nat} (h : q ∈ qsL) : 0 < q := by
 unfold qsL at h
 simp only [List.mem_cons, List.not_mem_nil, or_false] at h
 omega
theorem net_ok {q k : Nat} (hq : q ∈ qsL) (h0 : 0 < k) (h1 : k ≤ kMax q) : netP q k := by
 have hqp := qs_pos hq
 have hkq : k * q ≤ 64 := by
  have h2 : k ≤ 64 / q := by unfold kMax at h1; omega
  exact (Nat.le_div_iff_mul_le hqp).1 h2
 have hc : ckN q k = true := by
  have := List.all_eq_true.1 (List.all_eq_true.1 ckN_all q hq) (k - 1) (List.mem_range.2 (by omega))
  rwa [show k - 1 + 1 = k by omega] at this
 unfold ckN at hc
 rw [Bool.and_eq_true] at hc
 obtain ⟨he, hf⟩ := hc
 have hev : ∀ a, a < q → (evV q k a q).Nodup ∧ ∀ x, x ∈ evV q k a q ↔ x < k * q := fun a ha => by
  have h2 := List.all_eq_true.1 he a (List.mem_range.2 ha)
  unfold ckE at h2
  cases hin : insB (evV q k a q) 0 with
  | none => rw [hin] at h2; cases h2
  | some M =>
   rw [hin] at h2
   obtain ⟨r1, r2, _⟩ := insB_ok hin
   refine ⟨r2, fun x => ?_⟩
   have e := Nat.eq_of_beq_eq_true h2
   have r3 := r1 x
   rw [e, Nat.testBit_two_pow_sub_one] at r3
   simp only [decide_eq_true_eq, Nat.zero_testBit, Bool.false_eq_true, false_or] at r3
   exact r3.symm
 refine ⟨hq, hkq, h0, by unfold kMax at h1; omega, fun a ha => (hev a ha).1, fun a x ha => (hev a ha).2 x, fun x y hx hy => ?_⟩
 cases hin : insB (ncS q k q) 0 with
 | none => rw [hin] at hf; cases hf
 | some M =>
  rw [hin] at hf
  obtain ⟨r1, r2, _⟩ := insB_ok hin
  have h3 := List.all_eq_true.1 (List.all_eq_true.1 hf x (List.mem_range.2 hx)) y (List.mem_range.2 hy)
  have h3 := eq_of_beq h3
  have r4 := r1 (prC x y)
  simp only [Nat.zero_testBit, Bool.false_eq_true, false_or] at r4
  rw [h3] at r4
  rw [List.Nodup.count r2]
  by_cases e : x / q = y / q
  ·rw [if_pos e, if_neg (fun hm => by have := r4.2 hm; rw [e, Nat.beq_refl] at this; cases this)]
  ·rw [if_neg e, if_pos (r4.1 (by
    cases hb : Nat.beq (x / q) (y / q) with
    | true => exact absurd (Nat.eq_of_beq_eq_true hb) e
    | false => rfl))]
theorem nV_row {q k a b r : Nat} (h : netP q k) (ha : a < q) (hb : b < q) (hr : r < k) : nV q a b r / q = r ∧ nV q a b r < k * q := by
 have hqp := qs_pos h.qq
 have hm : nV q a b r ∈ evV q k a q := List.mem_flatMap.2 ⟨b, List.mem_range.2 hb, List.mem_map.2 ⟨r, List.mem_range.2 hr, rfl⟩⟩
 have hlt := (h.evM a _ ha).1 hm
 refine ⟨?_, hlt⟩
 unfold nV at hlt ⊢
 have hel : aN q (mN q a r) b < q := by
  have hrq : r < q := Nat.lt_of_lt_of_le hr h.kq
  have h1 := get2 rngB h.qq ha hrq
  rw [Bool.and_eq_true] at h1
  have h2 := get2 rngB h.qq (Nat.le_of_ble_eq_true h1.2) hb
  rw [Bool.and_eq_true] at h2
  exact Nat.le_of_ble_eq_true h2.1
 rw [Nat.mul_comm, Nat.mul_add_div hqp, Nat.div_eq_of_lt hel, Nat.add_zero]
theorem netT_len (q a b j : Nat) : (netT q a b j).length = j := by unfold netT; rw [List.length_map, List.length_range]
theorem netT_at (q a b : Nat) {j r : Nat} (h : r < j) : nAt (.list (netT q a b j)) r = (nV q a b r : Nat) := by
 unfold netT nAt nthD
 show ((((List.range j).map fun r => D.int (nV q a b r : Nat))[r]?).getD .nil).asInt = _
 rw [List.getElem?_map, List.getElem?_range h]; rfl
theorem netE_len (q k a x : Nat) : (netE q k a x).length = x := by unfold netE; rw [List.length_map, List.length_range]
theorem netE_at (q k a : Nat) {x b : Nat} (h : b < x) : el (.list (netE q k a x)) b = .list (netT q a b k) := by
 unfold netE el nthD
 show (((List.range x).map fun b => D.list (netT q a b k))[b]?).getD .nil = _
 rw [List.getElem?_map, List.getElem?_range h]; rfl
theorem netS_len (q k x : Nat) : (netS q k x).length = x := by unfold netS; rw [List.length_map, List.length_range]
theorem netS_at (q k : Nat) {x a : Nat} (h : a < x) : el (.list (netS q k x)) a = .list (netE q k a q) := by
 unfold netS el nthD
 show (((List.range x).map fun a => D.list (netE q k a q))[a]?).getD .nil = _
 rw [List.getElem?_map, List.getElem?_range h]; rfl
theorem mtI_count {q k a b i x y : Nat} (h : netP q k) (ha : a < q) (hb : b < q) (hi : i < k) (hx : x < k * q) (hy : y < k * q) : ∀ j, j ≤ i → mtI (.list (netT q a b k)) i j x y = ((ncI q a b i j).count (prC x y) : Nat)
 | 0, _ => by simp [mtI, ncI]
 | j + 1, hj => by
  have ih := mtI_count h ha hb hi hx hy j (by omega)
  have r1 := nV_row h ha hb (r := j) (by omega)
  have r2 := nV_row h ha hb hi
  have hl := h.lim
  unfold mtI
  rw [ih, netT_at q a b (show j < k by omega), netT_at q a b hi, ind_prC (by omega) (by omega) (by omega) (by omega) (fun e => by rw [e, r2.1] at r1; omega)]
  unfold ncI
  rw [List.range_succ, List.map_append, List.map_singleton, count_snoc]
  split <;> omega
theorem mtN_count {q k a b x y : Nat} (h : netP q k) (ha : a < q) (hb : b < q) (hx : x < k * q) (hy : y < k * q) : ∀ i, i ≤ k → mtN (.list (netT q a b k)) i x y = ((ncT q a b i).count (prC x y) : Nat)
 | 0, _ => by simp [mtN, ncT]
 | i + 1, hi => by
  unfold mtN
  rw [mtN_count h ha hb hx hy i (by omega), mtI_count h ha hb (show i < k by omega) hx hy i (Nat.le_refl _)]
  unfold ncT
  rw [List.range_succ, List.flatMap_append, List.count_append]
  simp
theorem mtE_count {q k a x y : Nat} (h : netP q k) (ha : a < q) (hx : x < k * q) (hy : y < k * q) : ∀ b, b ≤ q → mtE (.list (netE q k a q)) b x y = ((ncE q k a b).count (prC x y) : Nat)
 | 0, _ => by simp [mtE, ncE]
 | b + 1, hb => by
  unfold mtE
  have hl : (D.list (netT q a b k)).len = k := netT_len _ _ _ _
  rw [mtE_count h ha hx hy b (by omega), netE_at q k a (show b < q by omega), hl, mtN_count h ha (show b < q by omega) hx hy k (Nat.le_refl _)]
  unfold ncE
  rw [List.range_succ, List.flatMap_append, List.count_append]
  simp
theorem mtS_count {q k x y : Nat} (h : netP q k) (hx : x < k * q) (hy : y < k * q) : ∀ a, a ≤ q → mtS (.list (netS q k q)) a x y = ((ncS q k a).count (prC x y) : Nat)
 | 0, _ => by simp [mtS, ncS]
 | a + 1, ha => by
  unfold mtS
  have hl : (D.list (netE q k a q)).len = q := netE_len _ _ _ _
  rw [mtS_count h hx hy a (by omega), netS_at q k (show a < q by omega), hl, mtE_count h (show a < q by omega) hx hy q (Nat.le_refl _)]
  unfold ncS
  rw [List.range_succ, List.flatMap_append, List.count_append]
  simp
theorem net_meet {q k x y : Nat} (h : netP q k) (hx : x < k * q) (hy : y < k * q) : mtS (.list (netS q k q)) q x y = if x / q = y / q then 0 else 1 := by
 rw [mtS_count h hx hy q (Nat.le_refl _), h.cnt x y hx hy]
 split <;> rfl
end Go.Ev
