/-
  Part of the engine that the claim is proved with: it states nothing of the document by itself.
-/
import Derived.Test.YtcnjngiaoomecaaDoorCoreG26
import Derived.Test.YtcnjngiaoomecaaDoorCoreG25

section
open Go.Proofs
namespace Go.Ev
set_option maxRecDepth 100000
set_option maxHeartbeats 4000000
def sR (f : Nat → Nat → Int) (x : Nat) : Nat → Int
 | 0 => 0
 | y + 1 => sR f x y + f x y
def sP (f : Nat → Nat → Int) : Nat → Int
 | 0 => 0
 | x + 1 => sP f x + sR f x x
def s2 (f : Nat → Nat → Int) (m : Nat) : Nat → Int
 | 0 => 0
 | x + 1 => s2 f m x + sR f x m
theorem sR_add (f g : Nat → Nat → Int) (x : Nat) : ∀ y, sR (fun a b => f a b + g a b) x y = sR f x y + sR g x y
 | 0 => rfl
 | y + 1 => by
  show sR _ x y + (f x y + g x y) = sR f x y + f x y + (sR g x y + g x y)
  rw [sR_add f g x y]; omega
theorem sP_add (f g : Nat → Nat → Int) : ∀ x, sP (fun a b => f a b + g a b) x = sP f x + sP g x
 | 0 => rfl
 | x + 1 => by
  show sP _ x + sR _ x x = sP f x + sR f x x + (sP g x + sR g x x)
  rw [sP_add f g x, sR_add]; omega
theorem sR_zero (x : Nat) : ∀ y, sR (fun _ _ => 0) x y = 0
 | 0 => rfl
 | y + 1 => by show sR _ x y + 0 = 0; rw [sR_zero x y]; rfl
theorem sP_zero : ∀ x, sP (fun _ _ => 0) x = 0
 | 0 => rfl
 | x + 1 => by show sP _ x + sR _ x x = 0; rw [sP_zero x, sR_zero]; rfl
theorem sR_ind {u v x : Nat} (huv : u ≠ v) : ∀ y, y ≤ x → sR (indN (u : Int) (v : Int)) x y = if (x = u ∧ v < y) ∨ (x = v ∧ u < y) then 1 else 0
 | 0, _ => by rw [if_neg (by omega)]; rfl
 | y + 1, hy => by
  show sR _ x y + indN (u : Int) (v : Int) x y = _
  rw [sR_ind huv y (by omega)]
  unfold indN
  by_cases h1 : (x = u ∧ v < y) ∨ (x = v ∧ u < y)
  ·rw [if_pos h1, if_neg (by omega), if_neg (by omega), if_pos (by omega)]; rfl
  ·rw [if_neg h1]
   by_cases h2 : (u : Int) = x ∧ (v : Int) = y
   ·rw [if_pos h2, if_neg (by omega), if_pos (by omega)]; rfl
   ·rw [if_neg h2]
    by_cases h3 : (v : Int) = x ∧ (u : Int) = y
    ·rw [if_pos h3, if_pos (by omega)]; rfl
    ·rw [if_neg h3, if_neg (by omega)]; rfl
theorem sP_ind {u v : Nat} (huv : u ≠ v) : ∀ x, sP (indN (u : Int) (v : Int)) x = if u < x ∧ v < x then 1 else 0
 | 0 => by rw [if_neg (by omega)]; rfl
 | x + 1 => by
  show sP _ x + sR _ x x = _
  rw [sP_ind huv x, sR_ind huv x (Nat.le_refl _)]
  by_cases h1 : u < x ∧ v < x
  ·rw [if_pos h1, if_neg (by omega), if_pos (by omega)]; rfl
  ·rw [if_neg h1]
   by_cases h2 : (x = u ∧ v < x) ∨ (x = v ∧ u < x)
   ·rw [if_pos h2, if_pos (by omega)]; rfl
   ·rw [if_neg h2, if_neg (by omega)]; rfl
theorem sR_le {f : Nat → Nat → Int} {m : Int} {x : Nat} : ∀ y, (∀ b, b < y → f x b ≤ m) → sR f x y ≤ m * (y : Nat)
 | 0, _ => by show (0 : Int) ≤ m * 0; omega
 | y + 1, h => by
  show sR f x y + f x y ≤ _
  have := sR_le y fun b hb => h b (by omega)
  have := h y (by omega)
  rw [Int.natCast_add, Int.mul_add]; simp; omega
theorem sP_le {f : Nat → Nat → Int} {m : Int} : ∀ x, (∀ a b, b < a → a < x → f a b ≤ m) → sP f x ≤ m * triZ (x : Nat)
 | 0, _ => by show (0 : Int) ≤ m * 0; omega
 | 1, _ => by show (0 : Int) + 0 ≤ m * 0; omega
 | x + 2, h => by
  show sP f (x + 1) + sR f (x + 1) (x + 1) ≤ _
  have h1 := sP_le (x + 1) fun a b h1 h2 => h a b h1 (by omega)
  have h2 := sR_le (f := f) (m := m) (x := x + 1) (x + 1) fun b hb => h (x + 1) b hb (by omega)
  rw [show ((x + 2 : Nat) : Int) = ((x + 1 : Nat) : Int) + 1 by omega, tri_succ (by omega), Int.mul_add]
  omega
def oneZ (x y : Int) : Int := if x = y then 1 else 0
theorem cnt_step {l : List D} {i : Nat} (hi : i < l.length) (x : Int) : cntF (l.take (i + 1)) x = cntF (l.take i) x + oneZ (nthD l i).asInt x := cntF_succ hi x
theorem cnt_pos {x : Int} : ∀ {l : List D}, 0 < cntF l x ↔ ∃ k, k < l.length ∧ (nthD l k).asInt = x
 | [] => ⟨fun h => absurd h (by show ¬ (0 : Int) < 0; omega), fun ⟨k, hk, _⟩ => absurd hk (Nat.not_lt_zero _)⟩
 | d :: l => by
  rw [cntF_cons]
  have ih := cnt_pos (x := x) (l := l)
  have hr := cntF_rng l x
  constructor
  ·intro h
   by_cases e : d.asInt = x
   ·exact ⟨0, Nat.zero_lt_succ _, e⟩
   ·rw [if_neg e] at h
    obtain ⟨k, hk, he⟩ := ih.1 (by omega)
    exact ⟨k + 1, Nat.succ_lt_succ hk, he⟩
  ·rintro ⟨k, hk, he⟩
   cases k with
   | zero => rw [if_pos (show d.asInt = x from he)]; omega
   | succ k =>
    have := ih.2 ⟨k, Nat.lt_of_succ_lt_succ hk, he⟩
    split <;> omega
theorem flat_cnt (ev : D) (x : Int) {j : Nat} : ∀ m, j < m → cntF (el ev j).asList x ≤ cntF (flatL ev m) x
 | 0, h => absurd h (Nat.not_lt_zero _)
 | m + 1, h => by
  show _ ≤ cntF (flatL ev m ++ (el ev m).asList) x
  rw [cntF_app]
  have h1 := cntF_rng (flatL ev m) x
  have h2 := cntF_rng (el ev m).asList x
  by_cases e : j = m
  ·subst e; omega
  ·have := flat_cnt ev x (j := j) m (by omega); omega
theorem good_cnt {n : Int} {s : D} (h : goodS n s) {i : Nat} (hi : i < s.len) {v : Nat} (hv : (v : Int) < n) : cntF (flatL (el s i) (el s i).len) v ≤ 1 := (errG_all (errE_all (good_err h hi)).2).2.1 v hv
theorem cnt_two {l : List D} {p q : Nat} (hpq : p < q) (hq : q < l.length) (he : (nthD l p).asInt = (nthD l q).asInt) : 2 ≤ cntF l (nthD l q).asInt := by
 have h1 := cnt_step hq (nthD l q).asInt
 have h2 := cntF_take l (q + 1) (nthD l q).asInt
 have h3 : 0 < cntF (l.take q) (nthD l q).asInt := cnt_pos.2 ⟨p, by rw [List.length_take]; omega, by
  rw [← he]; unfold nthD; rw [List.getElem?_take, if_pos hpq]⟩
 rw [show oneZ (nthD l q).asInt (nthD l q).asInt = 1 by unfold oneZ; rw [if_pos rfl]] at h1
 omega
theorem good_ne {n : Int} {s : D} (h : goodS n s) {i j : Nat} (hi : i < s.len) (hj : j < (el s i).len) {p q : Nat} (hpq : p < q) (hq : q < (el (el s i) j).len) : nAt (el (el s i) j) p ≠ nAt (el (el s i) j) q := fun he => by
 have h1 := cnt_two (l := (el (el s i) j).asList) hpq hq he
 have hr := (good_tab h hi hj).rng q hq
 have h2 := good_cnt h hi (v := (nAt (el (el s i) j) q).toNat) (by omega)
 have h3 := flat_cnt (el s i) (nAt (el (el s i) j) q) _ hj
 rw [show (((nAt (el (el s i) j) q).toNat : Nat) : Int) = nAt (el (el s i) j) q by omega] at h2
 have h4 : 2 ≤ cntF (el (el s i) j).asList (nAt (el (el s i) j) q) := h1
 omega
theorem sP_mtI {N : Nat} {t : D} (hr : ∀ k, k < t.len → 0 ≤ nAt t k ∧ nAt t k < N) (hd : ∀ p q, p < q → q < t.len → nAt t p ≠ nAt t q) {i : Nat} (hi : i < t.len) : ∀ j, j ≤ i → sP (mtI t i j) N = (j : Nat)
 | 0, _ => sP_zero N
 | j + 1, hj => by
  have e : sP (mtI t i (j + 1)) N = sP (fun a b => mtI t i j a b + indN (nAt t j) (nAt t i) a b) N := rfl
  rw [e, sP_add, sP_mtI hr hd hi j (by omega)]
  have r1 := hr j (by omega)
  have r2 := hr i hi
  have hne := hd j i (by omega) hi
  have := sP_ind (u := (nAt t j).toNat) (v := (nAt t i).toNat) (by omega) N
  rw [show (((nAt t j).toNat : Nat) : Int) = nAt t j by omega, show (((nAt t i).toNat : Nat) : Int) = nAt t i by omega, if_pos (by omega)] at this
  show _ + sP (fun a b => indN (nAt t j) (nAt t i) a b) N = _
  rw [show sP (fun a b => indN (nAt t j) (nAt t i) a b) N = sP (indN (nAt t j) (nAt t i)) N from rfl, this]; rfl
theorem sP_mtN {N : Nat} {t : D} (hr : ∀ k, k < t.len → 0 ≤ nAt t k ∧ nAt t k < N) (hd : ∀ p q, p < q → q < t.len → nAt t p ≠ nAt t q) : ∀ i, i ≤ t.len → sP (mtN t i) N = triZ (i : Nat)
 | 0, _ => sP_zero N
 | i + 1, hi => by
  have e : sP (mtN t (i + 1)) N = sP (fun a b => mtN t i a b + mtI t i i a b) N := rfl
  rw [e, sP_add, sP_mtN hr hd i (by omega)]
  show _ + sP (fun a b => mtI t i i a b) N = _
  rw [show sP (fun a b => mtI t i i a b) N = sP (mtI t i i) N from rfl, sP_mtI hr hd (show i < t.len by omega) i (Nat.le_refl _)]
  cases i with
  | zero => rfl
  | succ i => rw [show ((i + 1 + 1 : Nat) : Int) = ((i + 1 : Nat) : Int) + 1 by omega, tri_succ (by omega)]
def trE (ev : D) : Nat → Int
 | 0 => 0
 | j + 1 => trE ev j + triZ ((el ev j).len : Nat)
theorem sP_mtE {n : Int} {s : D} (h : goodS n s) {i : Nat} (hi : i < s.len) : ∀ j, j ≤ (el s i).len → sP (mtE (el s i) j) n.toNat = trE (el s i) j
 | 0, _ => sP_zero _
 | j + 1, hj => by
  have e : sP (mtE (el s i) (j + 1)) n.toNat = sP (fun a b => mtE (el s i) j a b + mtN (el (el s i) j) (el (el s i) j).len a b) n.toNat := rfl
  have hn := h.n1
  rw [e, sP_add, sP_mtE h hi j (by omega)]
  show _ + sP (fun a b => mtN (el (el s i) j) (el (el s i) j).len a b) n.toNat = _
  rw [show sP (fun a b => mtN (el (el s i) j) (el (el s i) j).len a b) n.toNat = sP (mtN (el (el s i) j) (el (el s i) j).len) n.toNat from rfl,
   sP_mtN (fun k hk => by have := (good_tab h hi (show j < (el s i).len by omega)).rng k hk; omega) (fun p q hpq hq => good_ne h hi (show j < (el s i).len by omega) hpq hq) _ (Nat.le_refl _)]
  rfl
theorem sP_mtS {n : Int} {s : D} {M : Int} (h : goodS n s) (hM : ∀ i, i < s.len → trE (el s i) (el s i).len = M) : ∀ x, x ≤ s.len → sP (mtS s x) n.toNat = (x : Nat) * M
 | 0, _ => by rw [show sP (mtS s 0) n.toNat = 0 from sP_zero _]; simp
 | x + 1, hx => by
  have e : sP (mtS s (x + 1)) n.toNat = sP (fun a b => mtS s x a b + mtE (el s x) (el s x).len a b) n.toNat := rfl
  rw [e, sP_add, sP_mtS h hM x (by omega)]
  show _ + sP (fun a b => mtE (el s x) (el s x).len a b) n.toNat = _
  rw [show sP (fun a b => mtE (el s x) (el s x).len a b) n.toNat = sP (mtE (el s x) (el s x).len) n.toNat from rfl, sP_mtE h (show x < s.len by omega) _ (Nat.le_refl _), hM x (by omega), Int.natCast_add, Int.add_mul]; simp
theorem trE_sz {ev sz : D} (h : ∀ j, j < sz.len → ((el ev j).len : Int) = nAt sz j) : ∀ j, j ≤ sz.len → trE ev j = triS sz j
 | 0, _ => rfl
 | j + 1, hj => by
  show trE ev j + triZ ((el ev j).len : Nat) = triS sz j + triZ (nAt sz j)
  rw [trE_sz h j (by omega), h j (by omega)]
theorem mx_ge {l : D} : ∀ x i, i < x → nAt l i ≤ mxZ l x
 | 0, i, h => absurd h (Nat.not_lt_zero _)
 | x + 1, i, h => by
  show _ ≤ max (mxZ l x) (nAt l x)
  by_cases e : i = x
  ·subst e; omega
  ·have := mx_ge (l := l) x i (by omega); omega
theorem mx_nn (l : D) : ∀ x, 0 ≤ mxZ l x
 | 0 => Int.le_refl _
 | x + 1 => by show 0 ≤ max (mxZ l x) (nAt l x); have := mx_nn l x; omega
theorem mt_at {n : Int} {s : D} (h : goodS n s) {a b : Nat} (hb : b < a) (ha : a < n.toNat) : ∃ i, i < (mtL n s).len ∧ nAt (mtL n s) i = mtS s s.len a b := by
 have hm := (mt_mem h (d := .int (mtS s s.len a b))).2 ⟨a, b, hb, ha, rfl⟩
 obtain ⟨i, hi, he⟩ := mem_nthD hm
 exact ⟨i, hi, by unfold nAt; rw [he]; rfl⟩
theorem mt_mx {n : Int} {s : D} (h : goodS n s) {a b : Nat} (hb : b < a) (ha : a < n.toNat) : mtS s s.len a b ≤ mxZ (mtL n s) (mtL n s).len := by
 obtain ⟨i, hi, he⟩ := mt_at h hb ha
 rw [← he]; exact mx_ge _ i hi
end Go.Ev

end

section
open Go.Proofs
namespace Go.Ev
set_option maxRecDepth 100000
set_option maxHeartbeats 4000000
theorem cnt_id (x : Int) : ∀ m : Nat, cntF (idL m) x = if 0 ≤ x ∧ x < m then 1 else 0
 | 0 => by rw [if_neg (by omega)]; rfl
 | m + 1 => by
  rw [← id_succ, cntF_app, cnt_id x m]
  show _ + (0 + if (m : Int) = x then 1 else 0) = _
  by_cases h1 : (m : Int) = x
  ·rw [if_pos h1, if_neg (by omega), if_pos (by omega)]; rfl
  ·rw [if_neg h1]
   by_cases h2 : 0 ≤ x ∧ x < m
   ·rw [if_pos h2, if_pos (by omega)]; rfl
   ·rw [if_neg h2, if_neg (by omega)]; rfl
theorem flat_map (ev : D) : ∀ n, n ≤ ev.len → flatL ev n = ((ev.asList.take n).map D.asList).flatten
 | 0, _ => rfl
 | n + 1, h => by
  show flatL ev n ++ (el ev n).asList = _
  rw [flat_map ev n (by omega), take_succ_nth (show n < ev.asList.length from h), List.map_append, List.flatten_append]
  show _ = _ ++ ([(nthD ev.asList n).asList].flatten)
  simp [el]
theorem scan_zero {n : Int} {sz s : D} : ∀ f i, (∀ k, i ≤ k → k < i + f → errE n sz (el s k) = 0) → scanK n sz s f i = (0, 0)
 | 0, _, _ => rfl
 | f + 1, i, h => by
  unfold scanK
  rw [if_neg (fun hne => hne (h i (Nat.le_refl _) (by omega)))]
  exact scan_zero f (i + 1) fun k h1 h2 => h k (by omega) (by omega)
theorem off_sum (sz : D) : ∀ x, offZ sz x = sumZ sz x
 | 0 => rfl
 | x + 1 => by show offZ sz x + nAt sz x = sumZ sz x + nAt sz x; rw [off_sum sz x]
structure pigF (n : Int) (sz s : D) : Prop where
 good : goodS n s
 ok : okS n sz
 chk1 : chk n sz s = (0, 0)
 tab : ∀ i, i < s.len → (el s i).len = sz.len ∧ ∀ j, j < sz.len → ((el (el s i) j).len : Int) = nAt sz j
section
variable {n : Int} {sz s : D}
theorem pig_M (h : pigF n sz s) : 0 ≤ triS sz sz.len := (ok_tri h.ok).1.1
theorem pig_A (h : pigF n sz s) : 0 ≤ triZ n ∧ triZ n ≤ 2016 := (ok_tri h.ok).2.1
theorem pig_L (h : pigF n sz s) : s.len ≤ 64 := good_lim h.good
theorem pig_tr (h : pigF n sz s) : ∀ i, i < s.len → trE (el s i) (el s i).len = triS sz sz.len := fun i hi => by
 rw [(h.tab i hi).1]; exact trE_sz (h.tab i hi).2 _ (Nat.le_refl _)
theorem pig_sum (h : pigF n sz s) : sP (mtS s s.len) n.toNat = (s.len : Nat) * triS sz sz.len := sP_mtS h.good (pig_tr h) _ (Nat.le_refl _)
theorem pig_toNat (h : pigF n sz s) : ((n.toNat : Nat) : Int) = n := by have := h.good.n1; omega
theorem pig_mx (h : pigF n sz s) : (s.len : Nat) * triS sz sz.len ≤ mxZ (mtL n s) (mtL n s).len * triZ n := by
 have := sP_le (f := mtS s s.len) (m := mxZ (mtL n s) (mtL n s).len) n.toNat fun a b h1 h2 => mt_mx h.good h1 h2
 rw [pig_sum h, pig_toNat h] at this
 exact this
theorem lm_spec (h : pigF n sz s) : 0 ≤ lmZ n sz (s.len : Nat) ∧ (s.len : Nat) * triS sz sz.len ≤ lmZ n sz (s.len : Nat) * triZ n ∧ (lmZ n sz (s.len : Nat) = 0 ∨ (1 ≤ lmZ n sz (s.len : Nat) ∧ 0 < triS sz sz.len ∧ 0 < s.len ∧ (lmZ n sz (s.len : Nat) - 1) * triZ n < (s.len : Nat) * triS sz sz.len)) := by
 have hM := pig_M h
 have hA := pig_A h
 have hL := pig_L h
 by_cases h0 : ((s.len : Nat) : Int) < 1 ∨ triS sz sz.len = 0
 ·rw [← lm_zero (n := n) (l := sz) (e := (s.len : Nat)) (h0.elim (fun k => .inr (.inl k)) (fun k => .inr (.inr k)))]
  refine ⟨Int.le_refl _, ?_, .inl rfl⟩
  rw [Int.zero_mul]
  rcases h0 with k | k
  ·rw [show ((s.len : Nat) : Int) = 0 by omega, Int.zero_mul]; exact Int.le_refl _
  ·rw [k, Int.mul_zero]; exact Int.le_refl _
 ·have h1 : ¬ ((s.len : Nat) : Int) < 1 := fun k => h0 (.inl k)
  have h2 : triS sz sz.len ≠ 0 := fun k => h0 (.inr k)
  have hA1 := (ok_tri h.ok).2.2 h2
  rw [lm_some h.ok h1 h2, show min ((s.len : Nat) : Int) 64 = (s.len : Nat) by omega]
  have hX : 1 ≤ (s.len : Nat) * triS sz sz.len := by
   have := Int.mul_le_mul (show (1 : Int) ≤ (s.len : Nat) by omega) (show (1 : Int) ≤ triS sz sz.len by omega) (by omega) (by omega)
   omega
  generalize ((s.len : Nat) : Int) * triS sz sz.len = X at hX ⊢
  generalize triZ n = A at hA1 hA ⊢
  rw [Int.tdiv_eq_ediv_of_nonneg (by omega)]
  have hd := Int.mul_ediv_add_emod (X + A - 1) A
  have hr := Int.emod_lt_of_pos (X + A - 1) (show 0 < A by omega)
  have hr0 := Int.emod_nonneg (X + A - 1) (show A ≠ 0 by omega)
  have hq1 : 1 ≤ (X + A - 1) / A := (Int.le_ediv_iff_mul_le (show 0 < A by omega)).2 (by omega)
  generalize (X + A - 1) / A = q at hd hq1 ⊢
  rw [Int.mul_comm A q] at hd
  refine ⟨by omega, by omega, .inr ⟨hq1, by omega, by omega, ?_⟩⟩
  rw [Int.sub_mul]; omega
theorem pig_b1 (h : pigF n sz s) : ¬ mxZ (mtL n s) (mtL n s).len < lmZ n sz (s.len : Nat) := fun hlt => by
 have hm := pig_mx h
 have hn := mx_nn (mtL n s) (mtL n s).len
 have hA := pig_A h
 obtain ⟨_, _, h0 | ⟨h1, _, _, h2⟩⟩ := lm_spec h
 ·omega
 ·have := Int.mul_le_mul_of_nonneg_right (show mxZ (mtL n s) (mtL n s).len ≤ lmZ n sz (s.len : Nat) - 1 by omega) hA.1
  omega
end
theorem tt : (true = true ↔ True) := ⟨fun _ => trivial, fun _ => rfl⟩
end Go.Ev

end

section
open Go.Proofs
namespace Go.Ev
set_option maxRecDepth 100000
set_option maxHeartbeats 4000000
structure stP (n : Nat) (st L : List D) : Prop where
 len : st.length = n
 rng : ∀ a, a ∈ L → ∃ v : Nat, v < n ∧ a = .int (v : Nat)
 one : ∀ v : Nat, cntF L v ≤ 1
 iff : ∀ v : Nat, v < n → ((nthD st v).asProp ↔ 0 < cntF L v)
open Classical in
theorem nx_inv (q st T : List D) : ∀ g, ((∀ v, v < g → (nthD st v).asProp) ∧ nxB q st T g = -1) ∨ ∃ w : Nat, w < g ∧ nxB q st T g = (w : Nat) ∧ ¬ (nthD st w).asProp
 | 0 => .inl ⟨fun _ h => absurd h (Nat.not_lt_zero _), rfl⟩
 | g + 1 => by
  have e : nxF q st T (g + 1) = if (nthD st g).asProp then nxF q st T g else if lessP (nxF q st T g).1 (moP (nthD q g).asList T T.length) (nxF q st T g).2.1 (suP (nthD q g).asList T T.length) (nxF q st T g).2.2 then ((g : Nat), moP (nthD q g).asList T T.length, suP (nthD q g).asList T T.length) else nxF q st T g := rfl
  by_cases h : (nthD st g).asProp
  ·rw [if_pos h] at e
   rcases nx_inv q st T g with ⟨h1, h2⟩ | ⟨w, h1, h2, h3⟩
   ·exact .inl ⟨fun v hv => by rcases Nat.lt_or_ge v g with k | k; exact h1 v k; rw [show v = g by omega]; exact h, by unfold nxB at h2 ⊢; rw [e]; exact h2⟩
   ·exact .inr ⟨w, by omega, by unfold nxB at h2 ⊢; rw [e]; exact h2, h3⟩
  ·rw [if_neg h] at e
   by_cases hl : lessP (nxF q st T g).1 (moP (nthD q g).asList T T.length) (nxF q st T g).2.1 (suP (nthD q g).asList T T.length) (nxF q st T g).2.2
   ·rw [if_pos hl] at e
    exact .inr ⟨g, by omega, by unfold nxB; rw [e], h⟩
   ·rw [if_neg hl] at e
    rcases nx_inv q st T g with ⟨h1, h2⟩ | ⟨w, h1, h2, h3⟩
    ·exact (hl ⟨.inl (by unfold nxB at h2; omega)⟩).elim
    ·exact .inr ⟨w, by omega, by unfold nxB at h2 ⊢; rw [e]; exact h2, h3⟩
theorem nx_ok {n : Nat} {q st L T : List D} (h : stP n st L) (hl : L.length < n) (hq : q.length = n) : ∃ w : Nat, w < n ∧ nxB q st T q.length = (w : Nat) ∧ ¬ (nthD st w).asProp := by
 rcases nx_inv q st T q.length with ⟨h1, _⟩ | ⟨w, h1, h2, h3⟩
 ·exfalso
  have h2 := sumC_ge (l := L) n fun v hv h0 => by have := (h.iff v hv).1 (h1 v (by omega)); omega
  have h3 := sumC_all (n := n) (l := L) fun a ha => by obtain ⟨v, hv, rfl⟩ := h.rng a ha; show 0 ≤ (v : Int) ∧ (v : Int) < n; omega
  omega
 ·exact ⟨w, by omega, h2, h3⟩
theorem stP.push {n w : Nat} {st L : List D} (h : stP n st L) (hw : w < n) (hn : ¬ (nthD st w).asProp) : stP n (st.set w (.bool (true = true))) (L ++ [.int (w : Nat)]) := by
 have h0 : cntF L w = 0 := by have := mt (h.iff w hw).2 hn; have := (cntF_rng L w).1; omega
 have hc : ∀ v : Nat, cntF (L ++ [.int (w : Nat)]) v = cntF L v + if (w : Int) = v then 1 else 0 := fun v => by
  rw [cntF_app, cntF_cons]; show _ + (0 + if (w : Int) = v then (1 : Int) else 0) = _; omega
 refine ⟨by rw [List.length_set]; exact h.len, fun a ha => ?_, fun v => ?_, fun v hv => ?_⟩
 ·rcases List.mem_append.1 ha with k | k
  ·exact h.rng a k
  ·exact ⟨w, hw, List.mem_singleton.1 k⟩
 ·rw [hc]
  split
  ·rename_i e
   have e : w = v := by omega
   rw [← e, h0]; omega
  ·have := h.one v; omega
 ·rw [hc, nthD_set _ _ _ _ (by rw [h.len]; exact hw)]
  by_cases e : w = v
  ·rw [if_pos e, if_pos (by omega)]
   have := (cntF_rng L v).1
   exact ⟨fun _ => by omega, fun _ => rfl⟩
  ·rw [if_neg e, if_neg (by omega), h.iff v hv]; omega
theorem fl_ok {n : Nat} {q st L : List D} (h : stP n st L) (hq : q.length = n) : ∀ x, L.length + x ≤ n → stP n (flS q st x) (L ++ flG q st x) ∧ (flG q st x).length = x
 | 0, _ => ⟨by show stP n st (L ++ []); rw [List.append_nil]; exact h, rfl⟩
 | x + 1, hx => by
  obtain ⟨h1, h2⟩ := fl_ok h hq x (by omega)
  obtain ⟨w, hw, he, hn⟩ := nx_ok (T := flG q st x) h1 (by rw [List.length_append, h2]; omega) hq
  have e1 : flS q st (x + 1) = (flS q st x).set (nxB q (flS q st x) (flG q st x) q.length).toNat (.bool (true = true)) := rfl
  have e2 : flG q st (x + 1) = flG q st x ++ [.int (nxB q (flS q st x) (flG q st x) q.length)] := rfl
  rw [e1, e2, he]
  refine ⟨?_, by rw [List.length_append, h2]; rfl⟩
  rw [← List.append_assoc]
  exact h1.push hw hn
theorem fl_nx {n : Nat} {q st L : List D} (h : stP n st L) (hq : q.length = n) (x : Nat) (hx : L.length + x < n) : ∃ w : Nat, w < n ∧ nxB q (flS q st x) (flG q st x) q.length = (w : Nat) := by
 obtain ⟨h1, h2⟩ := fl_ok h hq x (by omega)
 obtain ⟨w, hw, he, _⟩ := nx_ok (T := flG q st x) h1 (by rw [List.length_append, h2]; omega) hq
 exact ⟨w, hw, he⟩
def flt (l : List D) : List D := (l.map D.asList).flatten
theorem flt_app (a : List D) (b : List D) : flt (a ++ [.list b]) = flt a ++ b := by
 unfold flt; rw [List.map_append, List.flatten_append]
 show _ ++ (b ++ []) = _
 rw [List.append_nil]
structure evP (n : Nat) (sz : D) (st tb : List D) (j : Nat) : Prop where
 st : stP n st (flt tb)
 tot : ((flt tb).length : Int) = sumZ sz j
 len : tb.length = j
 tab : ∀ i, i < j → ∃ l, nthD tb i = .list l ∧ (l.length : Int) = nAt sz i
theorem ft_ok {n : Nat} {q : List D} {sz : D} (hf : fitP (n : Nat) sz) (hq : q.length = n) : ∀ j, j ≤ sz.len → evP n sz (ftS q sz j) (ftT q sz j) j
 | 0, _ => by
  have h0 : ∀ v : Nat, v < n → ((nthD (List.replicate q.length (D.bool (false = true))) v).asProp ↔ (0 : Int) < 0) := fun v hv => by
   have e : nthD (List.replicate q.length (D.bool (false = true))) v = .bool (false = true) := by
    unfold nthD; rw [List.getElem?_replicate_of_lt (by omega)]; rfl
   rw [e]; exact ⟨fun h => absurd (show false = true from h) (by decide), fun h => absurd h (by decide)⟩
  exact ⟨⟨by show (List.replicate q.length _).length = n; rw [List.length_replicate, hq], (fun a ha => by cases ha), fun v => by show (0 : Int) ≤ 1; decide, h0⟩, rfl, rfl, fun i hi => absurd hi (Nat.not_lt_zero _)⟩
 | j + 1, hj => by
  have h := ft_ok hf hq j (by omega)
  have hp := hf.out.1 j (by omega)
  have hl := fit_le hf (x := j) (by omega)
  have ht := h.tot
  obtain ⟨h1, h2⟩ := fl_ok h.st hq (nAt sz j).toNat (by omega)
  have e1 : ftS q sz (j + 1) = flS q (ftS q sz j) (nAt sz j).toNat := rfl
  have e2 : ftT q sz (j + 1) = ftT q sz j ++ [.list (flG q (ftS q sz j) (nAt sz j).toNat)] := rfl
  rw [e1, e2]
  refine ⟨by rw [flt_app]; exact h1, ?_, by rw [List.length_append, h.len]; rfl, fun i hi => ?_⟩
  ·rw [flt_app, List.length_append, h2]
   have : sumZ sz (j + 1) = sumZ sz j + nAt sz j := rfl
   omega
  ·rcases Nat.lt_or_ge i j with k | k
   ·obtain ⟨l, h3, h4⟩ := h.tab i k
    refine ⟨l, ?_, h4⟩
    rw [← h3]; unfold nthD; rw [List.getElem?_append_left (by rw [h.len]; exact k)]
   ·have e : i = j := by omega
    subst e
    refine ⟨_, ?_, by rw [h2]; omega⟩
    unfold nthD; rw [List.getElem?_append_right (by rw [h.len]; exact Nat.le_refl _), h.len, Nat.sub_self]; rfl
theorem incZ_len (q : List D) (x y : Int) : (incZ q x y).length = q.length := by unfold incZ; rw [List.length_set]
theorem pqI_len (q : List D) (t : D) (i : Nat) : ∀ j, (pqI q t i j).length = q.length
 | 0 => rfl
 | j + 1 => by show (updP _ _ _).length = _; unfold updP; rw [incZ_len, incZ_len, pqI_len q t i j]
theorem pqN_len (q : List D) (t : D) : ∀ i, (pqN q t i).length = q.length
 | 0 => rfl
 | i + 1 => by show (pqI _ _ _ _).length = _; rw [pqI_len, pqN_len q t i]
theorem pqE_len (q : List D) (ev : D) : ∀ i, (pqE q ev i).length = q.length
 | 0 => rfl
 | i + 1 => by show (pqN _ _ _).length = _; rw [pqN_len, pqE_len q ev i]
theorem pqS_len (q : List D) (s : D) : ∀ i, (pqS q s i).length = q.length
 | 0 => rfl
 | i + 1 => by show (pqE _ _ _).length = _; rw [pqE_len, pqS_len q s i]
theorem pmQ_len (n : Nat) (sz : D) (e : Nat) : (pmQ n sz e).length = n := by unfold pmQ; rw [pqS_len, zr_len _ _ (Nat.le_refl _)]
theorem pqS_cong (q : List D) {s s' : D} : ∀ i, (∀ k, k < i → el s k = el s' k) → pqS q s i = pqS q s' i
 | 0, _ => rfl
 | i + 1, h => by
  show pqE (pqS q s i) (el s i) _ = pqE (pqS q s' i) (el s' i) _
  rw [pqS_cong q i fun k hk => h k (by omega), h i (by omega)]
theorem pnL_len (n : Nat) (sz : D) : ∀ e, (pnL n sz e).length = e
 | 0 => rfl
 | e + 1 => by show (pnL n sz e ++ [_]).length = _; rw [List.length_append, pnL_len n sz e]; rfl
theorem pnL_succ (n : Nat) (sz : D) (e : Nat) : pnL n sz (e + 1) = pnL n sz e ++ [.list (ftT (pmQ n sz e) sz sz.len)] := rfl
theorem pnL_pre (n : Nat) (sz : D) (m : Nat) : ∀ k, nthD (pnL n sz (m + k + 1)) m = .list (ftT (pmQ n sz m) sz sz.len)
 | 0 => by
  show nthD (pnL n sz m ++ [_]) m = _
  unfold nthD; rw [List.getElem?_append_right (by rw [pnL_len]; exact Nat.le_refl _), pnL_len, Nat.sub_self]; rfl
 | k + 1 => by
  have := pnL_pre n sz m k
  rw [show m + (k + 1) + 1 = (m + k + 1) + 1 by omega, pnL_succ, ← this]
  unfold nthD; rw [List.getElem?_append_left (by rw [pnL_len]; omega)]
theorem pnL_at {n : Nat} {sz : D} {e i : Nat} (h : i < e) : nthD (pnL n sz e) i = .list (ftT (pmQ n sz i) sz sz.len) := by
 have := pnL_pre n sz i (e - i - 1)
 rwa [show i + (e - i - 1) + 1 = e by omega] at this
theorem pm_step (n : Nat) (sz : D) (e : Nat) : pmQ n sz (e + 1) = pqE (pmQ n sz e) (.list (ftT (pmQ n sz e) sz sz.len)) (ftT (pmQ n sz e) sz sz.len).length := by
 have h1 : el (.list (pnL n sz (e + 1))) e = .list (ftT (pmQ n sz e) sz sz.len) := pnL_at (Nat.lt_succ_self e)
 show pqE (pqS (zrL n n) (.list (pnL n sz (e + 1))) e) (el (.list (pnL n sz (e + 1))) e) (el (.list (pnL n sz (e + 1))) e).len = _
 rw [h1, pqS_cong (s' := .list (pnL n sz e)) _ e fun k hk => by
  show nthD (pnL n sz (e + 1)) k = nthD (pnL n sz e) k
  rw [pnL_at (Nat.lt_succ_of_lt hk), pnL_at hk]]
 rfl
theorem toN {n : Int} (h : 1 ≤ n) : ((n.toNat : Nat) : Int) = n := by omega
theorem ev_zero {n : Int} {q : List D} {sz : D} (h1 : 1 ≤ n) (hf : fitP n sz) (hq : q.length = n.toNat) : ∀ z : D, (0 < z.len → z = sz) → errE n z (.list (ftT q sz sz.len)) = 0 := fun z hz => by
 have hev := ft_ok (n := n.toNat) (by rw [toN h1]; exact hf) hq sz.len (Nat.le_refl _)
 have hl : (D.list (ftT q sz sz.len)).len = sz.len := hev.len
 have ht : ∀ i, i < sz.len → ((el (.list (ftT q sz sz.len)) i).len : Int) = nAt sz i := fun i hi => by
  obtain ⟨l, h3, h4⟩ := hev.tab i hi
  rw [show el (.list (ftT q sz sz.len)) i = .list l from h3]; exact h4
 rw [errE_g (fun ⟨j, hj, h0⟩ => by
   have := ht j (by omega)
   have := hf.out.1 j (by omega)
   omega) (fun h => by rw [hz h]; exact ⟨hl, fun i hi => ht i (by omega)⟩)]
 have hfl : flatL (.list (ftT q sz sz.len)) (D.list (ftT q sz sz.len)).len = flt (ftT q sz sz.len) := by
  rw [flat_map _ _ (Nat.le_refl _)]
  show ((List.take (ftT q sz sz.len).length (ftT q sz sz.len)).map D.asList).flatten = _
  rw [List.take_length]; rfl
 have hlen := hev.tot
 rw [hfl, errG_len (by omega) (fun ⟨a, ha, hna⟩ => hna (by obtain ⟨v, hv, rfl⟩ := hev.st.rng a ha; show 0 ≤ (v : Int) ∧ (v : Int) < n; omega)) (fun v _ => hev.st.one v), if_neg (by rw [hlen, hf.out.2]; omega)]
theorem pl_el {n : Nat} {sz : D} {e i : Nat} (h : i < e) : el (.list (pnL n sz e)) i = .list (ftT (pmQ n sz i) sz sz.len) := pnL_at h
theorem pl_pig {n : Int} {sz : D} {e : Nat} (h1 : 1 ≤ n) (h64 : n ≤ 64) (hf : fitP n sz) (he : e ≤ 64) : pigF n sz (.list (pnL n.toNat sz e)) := by
 have hlen : (D.list (pnL n.toNat sz e)).len = e := pnL_len _ _ _
 have hev : ∀ i, i < e → evP n.toNat sz (ftS (pmQ n.toNat sz i) sz sz.len) (ftT (pmQ n.toNat sz i) sz sz.len) sz.len := fun i _ => ft_ok (by rw [toN h1]; exact hf) (pmQ_len _ _ _) sz.len (Nat.le_refl _)
 have htab : ∀ i, i < e → (el (.list (pnL n.toNat sz e)) i).len = sz.len ∧ ∀ j, j < sz.len → ((el (el (.list (pnL n.toNat sz e)) i) j).len : Int) = nAt sz j := fun i hi => by
  rw [pl_el hi]
  refine ⟨(hev i hi).len, fun j hj => ?_⟩
  obtain ⟨l, h3, h4⟩ := (hev i hi).tab j hj
  rw [show el (.list (ftT (pmQ n.toNat sz i) sz sz.len)) j = .list l from h3]; exact h4
 have hsz := (fit_sum hf (Nat.le_refl sz.len)).1
 have hs2 := (fit_sum hf (Nat.le_refl sz.len)).2
 have hbig : bigP (.list (pnL n.toNat sz e)) := ⟨by omega, fun i hi => ⟨by rw [(htab i (by omega)).1]; omega, fun j hj => by
  rw [(htab i (by omega)).1] at hj
  have := (htab i (by omega)).2 j hj
  have := fit_le hf hj
  have := (fit_sum hf (Nat.le_of_lt hj)).1
  omega⟩⟩
 have h0 : ∀ z : D, (0 < z.len → z = sz) → ∀ k, k < e → errE n z (el (.list (pnL n.toNat sz e)) k) = 0 := fun z hz k hk => by rw [pl_el hk]; exact ev_zero h1 hf (pmQ_len _ _ _) z hz
 refine ⟨⟨⟨h1, h64⟩, hbig, ?_⟩, ⟨h1, h64, hf⟩, ?_, fun i hi => htab i (by omega)⟩
 ·unfold chk
  rw [if_neg (fun h => by rcases h with h | h; exact h ⟨h1, h64⟩; exact absurd h.1 (Nat.lt_irrefl 0)), if_neg (by omega)]
  exact scan_zero _ _ fun k _ hk => h0 .nil (fun h => absurd h (Nat.lt_irrefl 0)) k (by omega)
 ·unfold chk
  rw [if_neg (fun h => by rcases h with h | h; exact h ⟨h1, h64⟩; exact h.2 hf), if_neg (by omega)]
  exact scan_zero _ _ fun k _ hk => h0 _ (fun _ => rfl) k (by omega)
theorem pm_sq {n : Int} {sz : D} {e : Nat} (h1 : 1 ≤ n) (h64 : n ≤ 64) (hf : fitP n sz) (he : e ≤ 64) : sqF n.toNat 12800000000 (mtS (.list (pnL n.toNat sz e)) e) (pmQ n.toNat sz e) := by
 have hg := (pl_pig h1 h64 hf he).good
 have hlen : (D.list (pnL n.toNat sz e)).len = e := pnL_len _ _ _
 exact (pqS_sq hg (zr_sq _) e (by omega)).cong (by omega) fun _ _ _ _ => rfl
end Go.Ev

end

section
open Go.Proofs
namespace Go.Ev
set_option maxRecDepth 100000
set_option maxHeartbeats 4000000
theorem vc70 : ∀ (Q T : D) (x : Int), symFun (ctx cc0 pwAnn) 4 (70 : FuncId) [V.dat (51 : TypeId) Q, V.int IntKind.i64 x, V.dat (22 : TypeId) T] (V.int IntKind.i64 (moP (nthD Q.asList x.toNat).asList T.asList T.len)) =
(0 ≤ x ∧ x < (Q.len : Int) ∧ (∃ (x_1 : Nat), x_1.le T.len ∧ (0 = (x_1 : Int) ∧ 0 = moP (el Q x.toNat).asList T.asList x_1 ∧ True) ∧ True) ∧ ∀ (x_1 : Nat), x_1.le T.len → T.len - x_1 < LIM ∧ ((x_1 : Int) < (T.len : Int) →
0 ≤ (x_1 : Int) ∧ (x_1 : Int) < (T.len : Int) ∧ 0 ≤ nAt T x_1 ∧ nAt T x_1 < (↑(el Q x.toNat).len : Int) ∧ fits64 ((x_1 : Int) + 1) ∧ ∃ (y : Nat), y.le T.len ∧ T.len - y < T.len - x_1 ∧ ((x_1 : Int) + 1 = (y : Int) ∧ max
(moP (el Q x.toNat).asList T.asList x_1) (nAt (el Q x.toNat) (nAt T x_1).toNat) = moP (el Q x.toNat).asList T.asList y ∧ True) ∧ True) ∧ (((x_1 : Int) < (T.len : Int) → False) → moP (el Q x.toNat).asList T.asList x_1 =
moP (el Q x.toNat).asList T.asList T.len)) := by intros; kernel_rfl
theorem vc71 : ∀ (Q T : D) (x : Int), symFun (ctx cc0 pwAnn) 4 (71 : FuncId) [V.dat (51 : TypeId) Q, V.int IntKind.i64 x, V.dat (22 : TypeId) T] (V.int IntKind.i64 (suP (nthD Q.asList x.toNat).asList T.asList T.len)) =
(0 ≤ x ∧ x < (Q.len : Int) ∧ (∃ (x_1 : Nat), x_1.le T.len ∧ (0 = (x_1 : Int) ∧ 0 = suP (el Q x.toNat).asList T.asList x_1 ∧ True) ∧ True) ∧ ∀ (x_1 : Nat), x_1.le T.len → T.len - x_1 < LIM ∧ ((x_1 : Int) < (T.len : Int) →
0 ≤ (x_1 : Int) ∧ (x_1 : Int) < (T.len : Int) ∧ 0 ≤ nAt T x_1 ∧ nAt T x_1 < (↑(el Q x.toNat).len : Int) ∧ fits64 (suP (el Q x.toNat).asList T.asList x_1 + nAt (el Q x.toNat) (nAt T x_1).toNat) ∧ fits64 ((x_1 : Int) + 1)
∧ ∃ (y : Nat), y.le T.len ∧ T.len - y < T.len - x_1 ∧ ((x_1 : Int) + 1 = (y : Int) ∧ suP (el Q x.toNat).asList T.asList x_1 + nAt (el Q x.toNat) (nAt T x_1).toNat = suP (el Q x.toNat).asList T.asList y ∧ True) ∧ True) ∧
(((x_1 : Int) < (T.len : Int) → False) → suP (el Q x.toNat).asList T.asList x_1 = suP (el Q x.toNat).asList T.asList T.len)) := by intros; kernel_rfl
theorem vc72 : ∀ (d : D), symFun (ctx cc0 orAnn) 4 (72 : FuncId) [V.dat (22 : TypeId) d] (V.int IntKind.i64 (orZ (nAt d 0) (nAt d 1))) = ((∃ (x : Nat), (x ≤ 2 ∧ d.len = 2 ∧ ∀ (i : Nat), i < x → nAt d i = 0) ∧ (0 = (x :
Int) ∧ True) ∧ True) ∧ ∀ (x : Nat), (x ≤ 2 ∧ d.len = 2 ∧ ∀ (i : Nat), i < x → nAt d i = 0) → 2 - x < LIM ∧ ((x : Int) < (d.len : Int) → 0 ≤ (x : Int) ∧ (x : Int) < (d.len : Int) ∧ ((nAt d x = 0 → False) → nAt d x = orZ
(nAt d 0) (nAt d 1)) ∧ (((nAt d x = 0 → False) → False) → fits64 ((x : Int) + 1) ∧ ∃ (y : Nat), (y ≤ 2 ∧ d.len = 2 ∧ ∀ (i : Nat), i < y → nAt d i = 0) ∧ 2 - y < 2 - x ∧ ((x : Int) + 1 = (y : Int) ∧ True) ∧ True)) ∧ (((x
: Int) < (d.len : Int) → False) → 0 = orZ (nAt d 0) (nAt d 1))) := by intros; kernel_rfl
theorem vc73 : ∀ (a b : Int), symFun (ctx cc0 orAnn) 4 (73 : FuncId) [V.int IntKind.i64 a, V.int IntKind.i64 b] (V.int IntKind.i64 (cmpZ a b)) = (((a = a → False) → ((b = b → False) → 0 = cmpZ a b) ∧ (((b = b → False) →
False) → (-1) = cmpZ a b)) ∧ (((a = a → False) → False) → ((b = b → False) → 1 = cmpZ a b) ∧ (((b = b → False) → False) → (a < b → (-1) = cmpZ a b) ∧ ((a < b → False) → (b < a → 1 = cmpZ a b) ∧ ((b < a → False) → 0 =
cmpZ a b))))) := by intros; kernel_rfl
theorem vc51 : ∀ (Q st T : D), symFun (ctx pn1 pwAnn) 4 (51 : FuncId) [V.dat (51 : TypeId) Q, V.dat (86 : TypeId) st, V.dat (22 : TypeId) T] (V.int IntKind.i64 (nxB Q.asList st.asList T.asList Q.len)) = ((∃ (x : Nat),
x.le Q.len ∧ (0 = (x : Int) ∧ (-1) = nxB Q.asList st.asList T.asList x ∧ 0 = nxL Q.asList st.asList T.asList x ∧ 0 = nxS Q.asList st.asList T.asList x ∧ True) ∧ True) ∧ ∀ (x : Nat), x.le Q.len → Q.len - x < LIM ∧ ((x :
Int) < (Q.len : Int) → 0 ≤ (x : Int) ∧ (x : Int) < (st.len : Int) ∧ ((el st x).asProp → fits64 ((x : Int) + 1) ∧ ∃ (y : Nat), y.le Q.len ∧ Q.len - y < Q.len - x ∧ ((x : Int) + 1 = (y : Int) ∧ nxB Q.asList st.asList
T.asList x = nxB Q.asList st.asList T.asList y ∧ nxL Q.asList st.asList T.asList x = nxL Q.asList st.asList T.asList y ∧ nxS Q.asList st.asList T.asList x = nxS Q.asList st.asList T.asList y ∧ True) ∧ True) ∧ (((el st
x).asProp → False) → ((∃ (st : D), nxO Q st T) ∧ 0 ≤ (x : Int) ∧ (x : Int) < (Q.len : Int)) ∧ ((∃ (st : D), nxO Q st T) ∧ 0 ≤ (x : Int) ∧ (x : Int) < (Q.len : Int)) ∧ ((nxB Q.asList st.asList T.asList x < 0 → False) →
True ∧ True ∧ 0 + 2 ≤ [D.int (cmpZ (moP (el Q x).asList T.asList T.len) (nxL Q.asList st.asList T.asList x)), D.int (cmpZ (suP (el Q x).asList T.asList T.len) (nxS Q.asList st.asList T.asList x))].length ∧ (List.take 2
[D.int (cmpZ (moP (el Q x).asList T.asList T.len) (nxL Q.asList st.asList T.asList x)), D.int (cmpZ (suP (el Q x).asList T.asList T.len) (nxS Q.asList st.asList T.asList x))]).length = 2 ∧ (orZ (nAt (D.list (List.take 2
[D.int (cmpZ (moP (el Q x).asList T.asList T.len) (nxL Q.asList st.asList T.asList x)), D.int (cmpZ (suP (el Q x).asList T.asList T.len) (nxS Q.asList st.asList T.asList x))])) 0) (nAt (D.list (List.take 2 [D.int (cmpZ
(moP (el Q x).asList T.asList T.len) (nxL Q.asList st.asList T.asList x)), D.int (cmpZ (suP (el Q x).asList T.asList T.len) (nxS Q.asList st.asList T.asList x))])) 1) < 0 → fits64 ((x : Int) + 1) ∧ ∃ (y : Nat), y.le
Q.len ∧ Q.len - y < Q.len - x ∧ ((x : Int) + 1 = (y : Int) ∧ (x : Int) = nxB Q.asList st.asList T.asList y ∧ moP (el Q x).asList T.asList T.len = nxL Q.asList st.asList T.asList y ∧ suP (el Q x).asList T.asList T.len =
nxS Q.asList st.asList T.asList y ∧ True) ∧ True) ∧ ((orZ (nAt (D.list (List.take 2 [D.int (cmpZ (moP (el Q x).asList T.asList T.len) (nxL Q.asList st.asList T.asList x)), D.int (cmpZ (suP (el Q x).asList T.asList T.len)
(nxS Q.asList st.asList T.asList x))])) 0) (nAt (D.list (List.take 2 [D.int (cmpZ (moP (el Q x).asList T.asList T.len) (nxL Q.asList st.asList T.asList x)), D.int (cmpZ (suP (el Q x).asList T.asList T.len) (nxS Q.asList
st.asList T.asList x))])) 1) < 0 → False) → fits64 ((x : Int) + 1) ∧ ∃ (y : Nat), y.le Q.len ∧ Q.len - y < Q.len - x ∧ ((x : Int) + 1 = (y : Int) ∧ nxB Q.asList st.asList T.asList x = nxB Q.asList st.asList T.asList y ∧
nxL Q.asList st.asList T.asList x = nxL Q.asList st.asList T.asList y ∧ nxS Q.asList st.asList T.asList x = nxS Q.asList st.asList T.asList y ∧ True) ∧ True)) ∧ (nxB Q.asList st.asList T.asList x < 0 → fits64 ((x : Int)
+ 1) ∧ ∃ (y : Nat), y.le Q.len ∧ Q.len - y < Q.len - x ∧ ((x : Int) + 1 = (y : Int) ∧ (x : Int) = nxB Q.asList st.asList T.asList y ∧ moP (el Q x).asList T.asList T.len = nxL Q.asList st.asList T.asList y ∧ suP (el Q
x).asList T.asList T.len = nxS Q.asList st.asList T.asList y ∧ True) ∧ True))) ∧ (((x : Int) < (Q.len : Int) → False) → nxB Q.asList st.asList T.asList x = nxB Q.asList st.asList T.asList Q.len)) := by intros; kernel_rfl
theorem lim16 {n : Nat} (h : n ≤ 16777216) : n < LIM := by unfold LIM; omega
theorem s70 (Q T : D) (x : Int) (h : ∃ st, nxO Q st T) (hx0 : 0 ≤ x) (hx1 : x < Q.len) : symFun (ctx cc0 pwAnn) 4 70 [.dat 51 Q, .int .i64 x, .dat 22 T] (.int .i64 (moP (nthD Q.asList x.toNat).asList T.asList T.len)) := by
 obtain ⟨st, h⟩ := h
 have hr := h.row x.toNat (by omega)
 have hq := h.q64
 have ht := h.tl
 rw [vc70]
 refine ⟨hx0, hx1, ⟨0, Nat.zero_le _, ⟨rfl, rfl, trivial⟩, trivial⟩, fun k (hk : k ≤ T.len) => ⟨lim16 (by omega), fun hlt => ?_, fun hge => by have := not_of hge; rw [show k = T.len by omega]⟩⟩
 have hb := h.tr k (by omega)
 exact ⟨by omega, hlt, hb.1, by rw [hr]; exact hb.2, ⟨by omega, by omega⟩, k + 1, (by omega : k + 1 ≤ T.len), by omega, ⟨by omega, rfl, trivial⟩, trivial⟩
theorem su_rng {Q st T : D} (h : nxO Q st T) {x : Nat} (hx : x < Q.len) : ∀ k, k ≤ T.len → 0 ≤ suP (el Q x).asList T.asList k ∧ suP (el Q x).asList T.asList k ≤ 1000000000000 * (k : Nat)
 | 0, _ => ⟨Int.le_refl _, Int.le_refl _⟩
 | k + 1, hk => by
  have h1 := su_rng h hx k (by omega)
  have h2 := h.tr k (by omega)
  have h3 := h.rng x (nAt T k).toNat hx (by omega)
  show 0 ≤ suP _ _ k + nAt (el Q x) (nAt T k).toNat ∧ suP _ _ k + nAt (el Q x) (nAt T k).toNat ≤ _
  omega
theorem s71 (Q T : D) (x : Int) (h : ∃ st, nxO Q st T) (hx0 : 0 ≤ x) (hx1 : x < Q.len) : symFun (ctx cc0 pwAnn) 4 71 [.dat 51 Q, .int .i64 x, .dat 22 T] (.int .i64 (suP (nthD Q.asList x.toNat).asList T.asList T.len)) := by
 obtain ⟨st, h⟩ := h
 have hr := h.row x.toNat (by omega)
 have hq := h.q64
 have ht := h.tl
 rw [vc71]
 refine ⟨hx0, hx1, ⟨0, Nat.zero_le _, ⟨rfl, rfl, trivial⟩, trivial⟩, fun k (hk : k ≤ T.len) => ⟨lim16 (by omega), fun hlt => ?_, fun hge => by have := not_of hge; rw [show k = T.len by omega]⟩⟩
 have hb := h.tr k (by omega)
 have h1 := su_rng h (x := x.toNat) (by omega) (k + 1) (by omega)
 have h2 : suP (el Q x.toNat).asList T.asList (k + 1) = suP (el Q x.toNat).asList T.asList k + nAt (el Q x.toNat) (nAt T k).toNat := rfl
 exact ⟨by omega, hlt, hb.1, by rw [hr]; exact hb.2, ⟨by omega, by omega⟩, ⟨by omega, by omega⟩, k + 1, (by omega : k + 1 ≤ T.len), by omega, ⟨by omega, rfl, trivial⟩, trivial⟩
theorem s72 (d : D) (h : d.len = 2) : symFun (ctx cc0 orAnn) 4 72 [.dat 22 d] (.int .i64 (orZ (nAt d 0) (nAt d 1))) := by
 rw [vc72]
 refine ⟨⟨0, ⟨by omega, h, fun i hi => absurd hi (Nat.not_lt_zero _)⟩, ⟨rfl, trivial⟩, trivial⟩, fun k ⟨hk, _, hz⟩ => ⟨lim16 (by omega), fun hlt => ⟨by omega, hlt, fun hne => ?_, fun he => ⟨⟨by omega, by omega⟩, k + 1, ⟨by omega, h, fun i hi => ?_⟩, by omega, ⟨by omega, trivial⟩, trivial⟩⟩, fun hge => ?_⟩⟩
 ·unfold orZ
  rcases (by omega : k = 0 ∨ k = 1) with rfl | rfl
  ·rw [if_pos hne]
  ·rw [if_neg (fun k => k (hz 0 (by omega)))]
 ·rcases Nat.lt_or_ge i k with j | j
  ·exact hz i j
  ·rw [show i = k by omega]; exact Classical.not_not.1 he
 ·have := not_of hge
  have : k = 2 := by omega
  unfold orZ
  rw [if_neg (fun k => k (hz 0 (by omega))), hz 1 (by omega)]
theorem s73 (a b : Int) : symFun (ctx cc0 orAnn) 4 73 [.int .i64 a, .int .i64 b] (.int .i64 (cmpZ a b)) := by
 rw [vc73]
 unfold cmpZ
 exact ⟨fun h => (h rfl).elim, fun _ => ⟨fun h => (h rfl).elim, fun _ => ⟨fun h => by rw [if_pos h], fun h => ⟨fun h2 => by rw [if_neg h, if_pos h2], fun h2 => by rw [if_neg h, if_neg h2]⟩⟩⟩⟩
theorem or_less {mo le su ls b : Int} (hb : ¬ b < 0) : orZ (cmpZ mo le) (cmpZ su ls) < 0 ↔ lessP b mo le su ls := by
 have e : lessP b mo le su ls ↔ (mo < le ∨ (mo = le ∧ su < ls)) := ⟨fun ⟨h⟩ => by omega, fun h => ⟨.inr h⟩⟩
 rw [e]
 unfold orZ cmpZ
 constructor
 ·intro h; repeat' split at h
  all_goals omega
 ·intro h; repeat' split
  all_goals omega
open Classical in
theorem nx_succ (q st T : List D) (g : Nat) : nxF q st T (g + 1) = if (nthD st g).asProp then nxF q st T g else if lessP (nxF q st T g).1 (moP (nthD q g).asList T T.length) (nxF q st T g).2.1 (suP (nthD q g).asList T T.length) (nxF q st T g).2.2 then ((g : Nat), moP (nthD q g).asList T T.length, suP (nthD q g).asList T T.length) else nxF q st T g := rfl
theorem nx_a {q st T : List D} {g : Nat} (h : (nthD st g).asProp) : nxB q st T g = nxB q st T (g + 1) ∧ nxL q st T g = nxL q st T (g + 1) ∧ nxS q st T g = nxS q st T (g + 1) := by
 unfold nxB nxL nxS; rw [nx_succ, if_pos h]; exact ⟨rfl, rfl, rfl⟩
theorem nx_b {q st T : List D} {g : Nat} (h : ¬ (nthD st g).asProp) (hl : lessP (nxB q st T g) (moP (nthD q g).asList T T.length) (nxL q st T g) (suP (nthD q g).asList T T.length) (nxS q st T g)) : ((g : Nat) : Int) = nxB q st T (g + 1) ∧ moP (nthD q g).asList T T.length = nxL q st T (g + 1) ∧ suP (nthD q g).asList T T.length = nxS q st T (g + 1) := by
 unfold nxB nxL nxS at hl ⊢; rw [nx_succ, if_neg h, if_pos hl]; exact ⟨rfl, rfl, rfl⟩
theorem nx_c {q st T : List D} {g : Nat} (h : ¬ (nthD st g).asProp) (hl : ¬ lessP (nxB q st T g) (moP (nthD q g).asList T T.length) (nxL q st T g) (suP (nthD q g).asList T T.length) (nxS q st T g)) : nxB q st T g = nxB q st T (g + 1) ∧ nxL q st T g = nxL q st T (g + 1) ∧ nxS q st T g = nxS q st T (g + 1) := by
 unfold nxB nxL nxS at hl ⊢; rw [nx_succ, if_neg h, if_neg hl]; exact ⟨rfl, rfl, rfl⟩
theorem s51 (Q st T : D) (h : nxO Q st T) : symFun (ctx pn1 pwAnn) 4 51 [.dat 51 Q, .dat 86 st, .dat 22 T] (.int .i64 (nxB Q.asList st.asList T.asList Q.len)) := by
 have hq := h.q64
 rw [vc51]
 refine ⟨⟨0, Nat.zero_le _, ⟨rfl, rfl, rfl, rfl, trivial⟩, trivial⟩, fun k (hk : k ≤ Q.len) => ⟨lim16 (by omega), fun hlt => ?_, fun hge => by have := not_of hge; rw [show k = Q.len by omega]⟩⟩
 have nxt : ∀ {A B C D' E F : Int}, A = D' ∧ B = E ∧ C = F → ((-9223372036854775808 : Int) ≤ (k : Int) + 1 ∧ (k : Int) + 1 < 9223372036854775808) ∧ (k + 1 ≤ Q.len ∧ Q.len - (k + 1) < Q.len - k ∧ ((k : Int) + 1 = ((k + 1 : Nat) : Int) ∧ A = D' ∧ B = E ∧ C = F ∧ True) ∧ True) := fun ⟨a, b, c⟩ => ⟨⟨by omega, by omega⟩, by omega, by omega, ⟨by omega, a, b, c, trivial⟩, trivial⟩
 have hin : (∃ st, nxO Q st T) ∧ (0 : Int) ≤ (k : Int) ∧ (k : Int) < (Q.len : Int) := ⟨⟨st, h⟩, by omega, hlt⟩
 refine ⟨by omega, by rw [h.stl]; exact hlt, fun hs => ?_, fun hs => ⟨hin, hin, fun hb => ⟨trivial, trivial, Nat.le_refl _, rfl, fun ho => ?_, fun ho => ?_⟩, fun hb => ?_⟩⟩
 ·have := nxt (nx_a (q := Q.asList) (T := T.asList) hs); exact ⟨this.1, k + 1, this.2⟩
 ·have := nxt (nx_b (q := Q.asList) (T := T.asList) hs ((or_less hb).1 ho)); exact ⟨this.1, k + 1, this.2⟩
 ·have := nxt (nx_c (q := Q.asList) (T := T.asList) hs (mt (or_less hb).2 ho)); exact ⟨this.1, k + 1, this.2⟩
 ·have := nxt (nx_b (q := Q.asList) (T := T.asList) hs ⟨.inl hb⟩); exact ⟨this.1, k + 1, this.2⟩
end Go.Ev

end
