/-
  Part of the engine that the claim is proved with: it states nothing of the document by itself.
-/
import Derived.Test.YtenmglepjkflhaaGreatDoorCoreMeF
open Go.Proofs
namespace Go.Ev
set_option maxRecDepth 100000
set_option maxHeartbeats 4000000
def sR (f : Nat → Nat → Int) (x : Nat) : Nat → Int
 | 0 => 0
 | y + 1 => sR f x y + f x y
def s2 (f : Nat → Nat → Int) (m : Nat) : Nat → Int
 | 0 => 0
 | x + 1 => s2 f m x + sR f x m
def oneZ (x y : Int) : Int := if x = y then 1 else 0
theorem oneZ_ne {x a b : Int} (h : a ≠ b) : oneZ x a * oneZ x b = 0 := by
 unfold oneZ
 by_cases e : x = a
 ·rw [if_neg (show ¬ x = b by omega), Int.mul_zero]
 ·rw [if_neg e, Int.zero_mul]
theorem indN_one (x y : Int) (a b : Nat) : indN x y a b = oneZ y a * oneZ x b + oneZ y b * oneZ x a := by
 unfold indN oneZ
 split <;> split <;> split <;> split <;> split <;> split <;> omega
theorem cnt_step {l : List D} {i : Nat} (hi : i < l.length) (x : Int) : cntF (l.take (i + 1)) x = cntF (l.take i) x + oneZ (nthD l i).asInt x := cntF_succ hi x
theorem mtI_cnt {t : D} {i : Nat} (a b : Nat) : ∀ j, j ≤ t.len → mtI t i j a b = oneZ (nAt t i) a * cntF (t.asList.take j) b + oneZ (nAt t i) b * cntF (t.asList.take j) a
 | 0, _ => by show (0 : Int) = _ * 0 + _ * 0; omega
 | j + 1, hj => by
  show mtI t i j a b + indN (nAt t j) (nAt t i) a b = _
  rw [mtI_cnt a b j (by omega), indN_one, cnt_step (show j < t.asList.length from hj), cnt_step (show j < t.asList.length from hj)]
  show _ = oneZ (nAt t i) a * (_ + oneZ (nAt t j) b) + oneZ (nAt t i) b * (_ + oneZ (nAt t j) a)
  rw [Int.mul_add, Int.mul_add]; omega
theorem mtN_cnt {t : D} {a b : Nat} (hab : a ≠ b) : ∀ i, i ≤ t.len → mtN t i a b = cntF (t.asList.take i) a * cntF (t.asList.take i) b
 | 0, _ => rfl
 | i + 1, hi => by
  show mtN t i a b + mtI t i i a b = _
  have h0 := oneZ_ne (x := nAt t i) (show (a : Int) ≠ (b : Int) by omega)
  rw [mtN_cnt hab i (by omega), mtI_cnt a b i (by omega), cnt_step (show i < t.asList.length from hi), cnt_step (show i < t.asList.length from hi)]
  show _ = (_ + oneZ (nAt t i) a) * (_ + oneZ (nAt t i) b)
  generalize cntF (t.asList.take i) a = p
  generalize cntF (t.asList.take i) b = q
  generalize oneZ (nAt t i) a = u at h0 ⊢
  generalize oneZ (nAt t i) b = v at h0 ⊢
  rw [Int.add_mul, Int.mul_add, Int.mul_add, h0, Int.mul_comm p v]; omega
theorem cnt_pos {x : Int} : ∀ {l : List D}, 0 < cntF l x ↔ ∃ k, k < l.length ∧ (nthD l k).asInt = x
 | [] => ⟨fun h => absurd h (by show ¬ (0 : Int) < 0; omega), fun ⟨k, hk, _⟩ => absurd hk (Nat.not_lt_zero _)⟩
 | d :: l => by
  rw [cntF_cons]
  have ih := cnt_pos (x := x) (l := l)
  have hr := cntF_rng l x
  constructor
  ·intro h
   by_cases e : d.asInt = x
   ·exact ⟨0, Nat.zero_lt_succ _, e⟩
   ·rw [if_neg e] at h
    obtain ⟨k, hk, he⟩ := ih.1 (by omega)
    exact ⟨k + 1, Nat.succ_lt_succ hk, he⟩
  ·rintro ⟨k, hk, he⟩
   cases k with
   | zero => rw [if_pos (show d.asInt = x from he)]; omega
   | succ k =>
    have := ih.2 ⟨k, Nat.lt_of_succ_lt_succ hk, he⟩
    split <;> omega
theorem hasT_cnt {t : D} {a : Int} : hasT t a ↔ 0 < cntF t.asList a := ⟨fun ⟨h⟩ => cnt_pos.2 h, fun h => ⟨cnt_pos.1 h⟩⟩
theorem flat_cnt (ev : D) (x : Int) {j : Nat} : ∀ m, j < m → cntF (el ev j).asList x ≤ cntF (flatL ev m) x
 | 0, h => absurd h (Nat.not_lt_zero _)
 | m + 1, h => by
  show _ ≤ cntF (flatL ev m ++ (el ev m).asList) x
  rw [cntF_app]
  have h1 := cntF_rng (flatL ev m) x
  have h2 := cntF_rng (el ev m).asList x
  by_cases e : j = m
  ·subst e; omega
  ·have := flat_cnt ev x (j := j) m (by omega); omega
theorem mtE_one {ev : D} {a b : Nat} (hab : a ≠ b) : ∀ m, cntF (flatL ev m) a ≤ 1 → cntF (flatL ev m) b ≤ 1 → (mtE ev m a b = 1 ∧ ∃ j, j < m ∧ bothT (el ev j) a b) ∨ (mtE ev m a b = 0 ∧ ∀ j, j < m → ¬ bothT (el ev j) a b)
 | 0, _, _ => .inr ⟨rfl, fun j hj => absurd hj (Nat.not_lt_zero _)⟩
 | m + 1, ha, hb => by
  have ha' : cntF (flatL ev m ++ (el ev m).asList) a ≤ 1 := ha
  have hb' : cntF (flatL ev m ++ (el ev m).asList) b ≤ 1 := hb
  rw [cntF_app] at ha' hb'
  have r1 := cntF_rng (flatL ev m) a
  have r2 := cntF_rng (flatL ev m) b
  have r3 := cntF_rng (el ev m).asList a
  have r4 := cntF_rng (el ev m).asList b
  have e1 : mtE ev (m + 1) a b = mtE ev m a b + cntF (el ev m).asList a * cntF (el ev m).asList b := by
   show mtE ev m a b + mtN (el ev m) (el ev m).len a b = _
   rw [mtN_cnt hab _ (Nat.le_refl _)]
   show _ + cntF (List.take (el ev m).asList.length _) _ * cntF (List.take (el ev m).asList.length _) _ = _
   rw [List.take_length]
  by_cases hA : 0 < cntF (el ev m).asList a
  ·by_cases hB : 0 < cntF (el ev m).asList b
   ·left
    refine ⟨?_, m, by omega, hasT_cnt.2 hA, hasT_cnt.2 hB⟩
    rcases mtE_one (ev := ev) hab m (by omega) (by omega) with ⟨_, j, hj, hl, _⟩ | ⟨h0, _⟩
    ·have := flat_cnt ev a m hj
     have := hasT_cnt.1 hl
     omega
    ·rw [e1, h0, show cntF (el ev m).asList a = 1 by omega, show cntF (el ev m).asList b = 1 by omega]; rfl
   ·have hz : cntF (el ev m).asList b = 0 := by omega
    rw [e1, hz, Int.mul_zero, Int.add_zero]
    rcases mtE_one (ev := ev) hab m (by omega) (by omega) with ⟨h1, j, hj, hq⟩ | ⟨h0, hq⟩
    ·exact .inl ⟨h1, j, by omega, hq⟩
    ·refine .inr ⟨h0, fun j hj hq' => ?_⟩
     by_cases e : j = m
     ·subst e; exact hB (hasT_cnt.1 hq'.r)
     ·exact hq j (by omega) hq'
  ·have hz : cntF (el ev m).asList a = 0 := by omega
   rw [e1, hz, Int.zero_mul, Int.add_zero]
   rcases mtE_one (ev := ev) hab m (by omega) (by omega) with ⟨h1, j, hj, hq⟩ | ⟨h0, hq⟩
   ·exact .inl ⟨h1, j, by omega, hq⟩
   ·refine .inr ⟨h0, fun j hj hq' => ?_⟩
    by_cases e : j = m
    ·subst e; exact hA (hasT_cnt.1 hq'.l)
    ·exact hq j (by omega) hq'
theorem good_cnt {n : Int} {s : D} (h : goodS n s) {i : Nat} (hi : i < s.len) {v : Nat} (hv : (v : Int) < n) : cntF (flatL (el s i) (el s i).len) v ≤ 1 := (errG_all (errE_all (good_err h hi)).2).2.1 v hv
theorem mtE_good {n : Int} {s : D} (h : goodS n s) {i : Nat} (hi : i < s.len) {a b : Nat} (hab : a ≠ b) (ha : (a : Int) < n) (hb : (b : Int) < n) :
  (mtE (el s i) (el s i).len a b = 1 ∧ bothE (el s i) a b) ∨ (mtE (el s i) (el s i).len a b = 0 ∧ ¬ bothE (el s i) a b) := by
 rcases mtE_one hab (ev := el s i) _ (good_cnt h hi ha) (good_cnt h hi hb) with ⟨h1, hq⟩ | ⟨h0, hq⟩
 ·exact .inl ⟨h1, ⟨hq⟩⟩
 ·exact .inr ⟨h0, fun ⟨⟨j, hj, hq'⟩⟩ => hq j hj hq'⟩
theorem mtS_rng {n : Int} {s : D} (h : goodS n s) {a b : Nat} (hab : a ≠ b) (ha : (a : Int) < n) (hb : (b : Int) < n) : ∀ x, x ≤ s.len → 0 ≤ mtS s x a b ∧ mtS s x a b ≤ x
 | 0, _ => ⟨Int.le_refl _, Int.le_refl _⟩
 | x + 1, hx => by
  have ih := mtS_rng h hab ha hb x (by omega)
  show 0 ≤ mtS s x a b + mtE (el s x) (el s x).len a b ∧ mtS s x a b + mtE (el s x) (el s x).len a b ≤ _
  rcases mtE_good h (show x < s.len by omega) hab ha hb with ⟨h1, _⟩ | ⟨h0, _⟩ <;> omega
theorem cnt_two {l : List D} {p q : Nat} (hpq : p < q) (hq : q < l.length) (he : (nthD l p).asInt = (nthD l q).asInt) : 2 ≤ cntF l (nthD l q).asInt := by
 have h1 := cnt_step hq (nthD l q).asInt
 have h2 := cntF_take l (q + 1) (nthD l q).asInt
 have h3 : 0 < cntF (l.take q) (nthD l q).asInt := cnt_pos.2 ⟨p, by rw [List.length_take]; omega, by
  rw [← he]; unfold nthD; rw [List.getElem?_take, if_pos hpq]⟩
 rw [show oneZ (nthD l q).asInt (nthD l q).asInt = 1 by unfold oneZ; rw [if_pos rfl]] at h1
 omega
theorem good_ne {n : Int} {s : D} (h : goodS n s) {i j : Nat} (hi : i < s.len) (hj : j < (el s i).len) {p q : Nat} (hpq : p < q) (hq : q < (el (el s i) j).len) : nAt (el (el s i) j) p ≠ nAt (el (el s i) j) q := fun he => by
 have h1 := cnt_two (l := (el (el s i) j).asList) hpq hq he
 have hr := (good_tab h hi hj).rng q hq
 have h2 := good_cnt h hi (v := (nAt (el (el s i) j) q).toNat) (by omega)
 have h3 := flat_cnt (el s i) (nAt (el (el s i) j) q) _ hj
 rw [show (((nAt (el (el s i) j) q).toNat : Nat) : Int) = nAt (el (el s i) j) q by omega] at h2
 have h4 : 2 ≤ cntF (el (el s i) j).asList (nAt (el (el s i) j) q) := h1
 omega
theorem mx_ge {l : D} : ∀ x i, i < x → nAt l i ≤ mxZ l x
 | 0, i, h => absurd h (Nat.not_lt_zero _)
 | x + 1, i, h => by
  show _ ≤ max (mxZ l x) (nAt l x)
  by_cases e : i = x
  ·subst e; omega
  ·have := mx_ge (l := l) x i (by omega); omega
end Go.Ev
