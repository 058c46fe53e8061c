/-
  Part of the engine that the claim is proved with: it states nothing of the document by itself.
-/
import Derived.Test.YtenmglepjkflhaaDoorCoreNtN
namespace Go.Ev
def rwT (q r j : Nat) : List D := (List.range j).map fun i => .int (r * q + i : Nat)
def rwE (q x : Nat) : List D := (List.range x).map fun r => .list (rwT q r q)
def plS (q : Nat) : List D := netS q q q ++ [.list (rwE q q)]
def rcT (q r i : Nat) : List Nat := (List.range i).flatMap fun i => (List.range i).map fun j => prC (r * q + j) (r * q + i)
def rcE (q x : Nat) : List Nat := (List.range x).flatMap fun r => rcT q r q
def ckR (q : Nat) : Bool := match insB (rcE q q) 0 with | some M => (List.range (q * q)).all fun a => (List.range (q * q)).all fun b => Nat.testBit M (prC a b) == (Nat.beq (a / q) (b / q) && !Nat.beq a b) | none => false
def plL : List Nat := [2, 3, 4, 5, 7, 8]
theorem ckR_all : (plL.all ckR) = true := by decide +kernel
theorem rwT_len (q r j : Nat) : (rwT q r j).length = j := by unfold rwT; rw [List.length_map, List.length_range]
theorem rwT_at (q r : Nat) {j i : Nat} (h : i < j) : nAt (.list (rwT q r j)) i = (r * q + i : Nat) := by
 unfold rwT nAt nthD
 show ((((List.range j).map fun i => D.int (r * q + i : Nat))[i]?).getD .nil).asInt = _
 rw [List.getElem?_map, List.getElem?_range h]; rfl
theorem rwE_len (q x : Nat) : (rwE q x).length = x := by unfold rwE; rw [List.length_map, List.length_range]
theorem rwE_at (q : Nat) {x r : Nat} (h : r < x) : el (.list (rwE q x)) r = .list (rwT q r q) := by
 unfold rwE el nthD
 show (((List.range x).map fun r => D.list (rwT q r q))[r]?).getD .nil = _
 rw [List.getElem?_map, List.getElem?_range h]; rfl
theorem row_lt {q r i : Nat} (hr : r < q) (hi : i < q) : r * q + i < q * q := by
 have := Nat.mul_le_mul_right q (show r + 1 ≤ q by omega)
 rw [Nat.succ_mul] at this
 omega
theorem rowI_count {q r i x y : Nat} (h64 : q * q ≤ 64) (hr : r < q) (hi : i < q) (hx : x < q * q) (hy : y < q * q) : ∀ j, j ≤ i → mtI (.list (rwT q r q)) i j x y = (((List.range j).map fun j => prC (r * q + j) (r * q + i)).count (prC x y) : Nat)
 | 0, _ => by simp [mtI]
 | j + 1, hj => by
  have ih := rowI_count h64 hr hi hx hy j (by omega)
  have r1 := row_lt hr (show j < q by omega)
  have r2 := row_lt hr hi
  unfold mtI
  rw [ih, rwT_at q r (show j < q by omega), rwT_at q r hi, ind_prC (by omega) (by omega) (by omega) (by omega) (by omega), List.range_succ, List.map_append, List.map_singleton, count_snoc]
  split <;> omega
theorem rowN_count {q r x y : Nat} (h64 : q * q ≤ 64) (hr : r < q) (hx : x < q * q) (hy : y < q * q) : ∀ i, i ≤ q → mtN (.list (rwT q r q)) i x y = ((rcT q r i).count (prC x y) : Nat)
 | 0, _ => by simp [mtN, rcT]
 | i + 1, hi => by
  unfold mtN
  rw [rowN_count h64 hr hx hy i (by omega), rowI_count h64 hr (show i < q by omega) hx hy i (Nat.le_refl _)]
  unfold rcT
  rw [List.range_succ, List.flatMap_append, List.count_append]
  simp
theorem rowE_count {q x y : Nat} (h64 : q * q ≤ 64) (hx : x < q * q) (hy : y < q * q) : ∀ r, r ≤ q → mtE (.list (rwE q q)) r x y = ((rcE q r).count (prC x y) : Nat)
 | 0, _ => by simp [mtE, rcE]
 | r + 1, hr => by
  unfold mtE
  have hl : (D.list (rwT q r q)).len = q := rwT_len _ _ _
  rw [rowE_count h64 hx hy r (by omega), rwE_at q (show r < q by omega), hl, rowN_count h64 (show r < q by omega) hx hy q (Nat.le_refl _)]
  unfold rcE
  rw [List.range_succ, List.flatMap_append, List.count_append]
  simp
theorem row_meet {q x y : Nat} (hq : q ∈ plL) (hx : x < q * q) (hy : y < q * q) : mtE (.list (rwE q q)) q x y = if x / q = y / q ∧ x ≠ y then 1 else 0 := by
 have h64 : q * q ≤ 64 := by
  unfold plL at hq
  simp only [List.mem_cons, List.not_mem_nil, or_false] at hq
  rcases hq with rfl | rfl | rfl | rfl | rfl | rfl <;> decide
 rw [rowE_count h64 hx hy q (Nat.le_refl _)]
 have hc := List.all_eq_true.1 ckR_all q hq
 unfold ckR at hc
 cases hin : insB (rcE q q) 0 with
 | none => rw [hin] at hc; cases hc
 | some M =>
  rw [hin] at hc
  obtain ⟨r1, r2, _⟩ := insB_ok hin
  have h3 := eq_of_beq (List.all_eq_true.1 (List.all_eq_true.1 hc x (List.mem_range.2 hx)) y (List.mem_range.2 hy))
  have r4 := r1 (prC x y)
  simp only [Nat.zero_testBit, Bool.false_eq_true, false_or] at r4
  rw [h3] at r4
  rw [List.Nodup.count r2]
  have hb : (Nat.beq (x / q) (y / q) && !Nat.beq x y) = true ↔ (x / q = y / q ∧ x ≠ y) := by
   rw [Bool.and_eq_true, Bool.not_eq_true', beqN]
   constructor
   ·rintro ⟨h1, h2⟩; exact ⟨h1, fun e => by rw [e, Nat.beq_refl] at h2; cases h2⟩
   ·rintro ⟨h1, h2⟩; exact ⟨h1, by cases hc2 : Nat.beq x y with | true => exact absurd (Nat.eq_of_beq_eq_true hc2) h2 | false => rfl⟩
  by_cases e : x / q = y / q ∧ x ≠ y
  ·rw [if_pos e, if_pos (r4.1 (hb.2 e))]; rfl
  ·rw [if_neg e, if_neg (fun hm => e (hb.1 (r4.2 hm)))]; rfl
theorem el_app {l l' : List D} {i : Nat} (h : i < l.length) : el (.list (l ++ l')) i = el (.list l) i := by
 unfold el nthD
 show (((l ++ l')[i]?).getD .nil) = ((l[i]?).getD .nil)
 rw [List.getElem?_append_left h]
theorem mtS_app {l l' : List D} (a b : Nat) : ∀ x, x ≤ l.length → mtS (.list (l ++ l')) x a b = mtS (.list l) x a b
 | 0, _ => rfl
 | x + 1, h => by
  unfold mtS
  rw [mtS_app a b x (by omega), el_app (show x < l.length by omega)]
theorem plane_meet {q x y : Nat} (hq : q ∈ plL) (hx : x < q * q) (hy : y < q * q) : mtS (.list (plS q)) (q + 1) x y = if x = y then 0 else 1 := by
 have hqs : q ∈ qsL ∧ 1 ≤ q ∧ q ≤ kMax q := by
  unfold plL at hq
  simp only [List.mem_cons, List.not_mem_nil, or_false] at hq
  rcases hq with rfl | rfl | rfl | rfl | rfl | rfl <;> decide
 have hn := net_ok hqs.1 (show 0 < q by omega) hqs.2.2
 have hlast : el (.list (plS q)) q = .list (rwE q q) := by
  unfold el nthD plS
  show (((netS q q q ++ [D.list (rwE q q)])[q]?).getD .nil) = _
  rw [List.getElem?_append_right (by rw [netS_len]; exact Nat.le_refl _), netS_len, Nat.sub_self]; rfl
 have hl : (D.list (rwE q q)).len = q := rwE_len _ _
 unfold mtS
 rw [hlast, hl, row_meet hq hx hy]
 have := mtS_app (l := netS q q q) (l' := [D.list (rwE q q)]) x y q (by rw [netS_len]; exact Nat.le_refl _)
 show mtS (.list (netS q q q ++ [D.list (rwE q q)])) q x y + _ = _
 rw [this, net_meet hn hx hy]
 by_cases e : x = y
 ·subst e; simp
 ·by_cases e2 : x / q = y / q
  ·rw [if_pos e2, if_pos ⟨e2, e⟩, if_neg e]; rfl
  ·rw [if_neg e2, if_neg (fun q => e2 q.1), if_neg e]; rfl
end Go.Ev
