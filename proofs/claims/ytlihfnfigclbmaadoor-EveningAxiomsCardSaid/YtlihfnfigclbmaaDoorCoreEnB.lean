/-
  Part of the engine that the claim is proved with: it states nothing of the document by itself.
-/
import Derived.Test.YtlihfnfigclbmaaDoorCoreEnDefs
open Go.Proofs
namespace Go.Ev
theorem digP.ints {p : Int} {l : List D} (h : digP p l) : (l.map fun d => D.int d.asInt) = l := by
 have : ∀ l : List D, (∀ x, x ∈ l → ∃ n : Int, x = .int n ∧ 0 ≤ n ∧ n < p) → (l.map fun d => D.int d.asInt) = l := by
  intro l
  induction l with
  | nil => intro _; rfl
  | cons a l ih =>
   intro h
   obtain ⟨n, rfl, _⟩ := h a (List.mem_cons.2 (Or.inl rfl))
   rw [List.map_cons, ih fun x hx => h x (List.mem_cons.2 (Or.inr hx))]; rfl
 exact this l h.out
theorem digP.at {p : Int} {l : List D} (h : digP p l) {i : Nat} (hi : i < l.length) : 0 ≤ (nthD l i).asInt ∧ (nthD l i).asInt < p := by
 unfold nthD
 rw [List.getElem?_eq_getElem hi]
 obtain ⟨n, e, h1, h2⟩ := h.out _ (List.getElem_mem hi)
 rw [Option.getD_some, e]; exact ⟨h1, h2⟩
theorem upd_eq {p : Int} {l : List D} (h : digP p l) (j : Nat) (z : Int → Int) : upd l j z = l.set j (.int (z (nthD l j).asInt)) := by
 unfold upd; rw [forceDs_eq, h.ints]
theorem upd_len (l : List D) (j : Nat) (z : Int → Int) : (upd l j z).length = l.length := by unfold upd; rw [forceDs_eq]; simp
theorem upd_dig {p : Int} {l : List D} (h : digP p l) {j : Nat} {z : Int → Int} (hz : ∀ v, 0 ≤ v → v < p → 0 ≤ z v ∧ z v < p) (hj : j < l.length) : digP p (upd l j z) := by
 refine ⟨fun x hx => ?_⟩
 rw [upd_eq h] at hx
 rcases List.mem_or_eq_of_mem_set hx with hx | hx
 ·exact h.out x hx
 ·have := h.at hj
  exact ⟨_, hx, hz _ this.1 this.2⟩
theorem tmod_rng {p z : Int} (hp : 0 < p) (hz : 0 ≤ z) : 0 ≤ z.tmod p ∧ z.tmod p < p := ⟨Int.tmod_nonneg _ hz, Int.tmod_lt_of_pos _ hp⟩
theorem div_rng {a p : Int} (hp : 0 < p) (ha : 0 ≤ a) : ∀ n, 0 ≤ divI a p n ∧ divI a p n ≤ a
 | 0 => ⟨ha, Int.le_refl _⟩
 | n + 1 => by
  have := div_rng hp ha n
  show 0 ≤ (divI a p n).tdiv p ∧ (divI a p n).tdiv p ≤ a
  exact ⟨Int.tdiv_nonneg this.1 (Int.le_of_lt hp), Int.le_trans (Int.tdiv_le_self _ this.1) this.2⟩
theorem dig_len (a p : Int) : ∀ n, (digL a p n).length = n
 | 0 => rfl
 | n + 1 => by show (digL a p n ++ [_]).length = _; rw [List.length_append, dig_len a p n]; rfl
theorem dig_dig {a p : Int} (hp : 0 < p) (ha : 0 ≤ a) : ∀ n, digP p (digL a p n)
 | 0 => ⟨fun x hx => by cases hx⟩
 | n + 1 => ⟨fun x hx => by
   rcases List.mem_append.1 hx with hx | hx
   ·exact (dig_dig hp ha n).out x hx
   ·rw [List.mem_singleton] at hx
    exact ⟨_, hx, tmod_rng hp (div_rng hp ha n).1⟩⟩
theorem addL_len (p : Int) (xs ys : List D) : ∀ k, (addL p xs ys k).length = xs.length
 | 0 => rfl
 | k + 1 => by show (upd _ _ _).length = _; rw [upd_len, addL_len p xs ys k]
theorem addL_dig {p : Int} {xs ys : List D} (hp : 0 < p) (hx : digP p xs) (hy : digP p ys) (h : xs.length = ys.length) : ∀ k, k ≤ xs.length → digP p (addL p xs ys k)
 | 0, _ => hx
 | k + 1, hk => upd_dig (addL_dig hp hx hy h k (by omega)) (fun v h1 h2 => tmod_rng hp (by have := hy.at (i := k) (by omega); omega)) (by rw [addL_len]; omega)
theorem mulI_len (p : Int) (xs ys : List D) (i : Nat) (d : List D) : ∀ k, (mulI p xs ys i d k).length = d.length
 | 0 => rfl
 | k + 1 => by show (upd _ _ _).length = _; rw [upd_len, mulI_len p xs ys i d k]
theorem mulI_dig {p : Int} {xs ys d : List D} {i : Nat} (hp : 0 < p) (hx : digP p xs) (hy : digP p ys) (hd : digP p d) (hi : i < xs.length) (hl : xs.length + ys.length ≤ d.length) : ∀ k, k ≤ ys.length → digP p (mulI p xs ys i d k)
 | 0, _ => hd
 | k + 1, hk => upd_dig (mulI_dig hp hx hy hd hi hl k (by omega)) (fun v h1 h2 => tmod_rng hp (by
   have h3 := hy.at (i := k) (by omega); have h4 := hx.at hi
   have := Int.mul_nonneg h4.1 h3.1; omega)) (by rw [mulI_len]; omega)
theorem mulO_len (p : Int) (xs ys : List D) (m : Nat) (d : List D) : ∀ k, (mulO p xs ys m d k).length = d.length
 | 0 => rfl
 | k + 1 => by show (mulI _ _ _ _ _ _).length = _; rw [mulI_len, mulO_len p xs ys m d k]
theorem mulO_dig {p : Int} {xs ys d : List D} (hp : 0 < p) (hx : digP p xs) (hy : digP p ys) (hd : digP p d) (hl : xs.length + ys.length ≤ d.length) : ∀ k, k ≤ xs.length → digP p (mulO p xs ys ys.length d k)
 | 0, _ => hd
 | k + 1, hk => mulI_dig hp hx hy (mulO_dig hp hx hy hd hl k (by omega)) (by omega) (by rw [mulO_len]; omega) _ (Nat.le_refl _)
structure polP (poly : D) : Prop where
 out : ∀ i, 0 ≤ nAt poly i ∧ nAt poly i ≤ 1
theorem redI_len (p : Int) (poly : D) (base : Nat) (k : Int) (d : List D) : ∀ i, (redI p poly base k d i).length = d.length
 | 0 => rfl
 | i + 1 => by show (upd _ _ _).length = _; rw [upd_len, redI_len p poly base k d i]
theorem redI_dig {p : Int} {poly : D} {base : Nat} {k : Int} {d : List D} (hp : 0 < p) (hpol : polP poly) (hd : digP p d) (hk : k < p) : ∀ i, base + i ≤ d.length → digP p (redI p poly base k d i)
 | 0, _ => hd
 | i + 1, h => upd_dig (redI_dig hp hpol hd hk i (by omega)) (fun v h1 h2 => tmod_rng hp (by
   have := Int.mul_nonneg (show 0 ≤ p - k by omega) (hpol.out i).1; omega)) (by rw [redI_len]; omega)
theorem redO_eq {p : Int} {poly : D} {m : Nat} {d : List D} {x : Nat} (h : digP p (redO p poly m d x)) : redO p poly m d (x + 1) = redI p poly (m - 1 - x) (nthD (redO p poly m d x) (2 * m - 1 - x)).asInt (redO p poly m d x) (m + 1) := by
 show forceDs _ _ = _; rw [forceDs_eq, h.ints]
theorem redO_all {p : Int} {poly : D} {m : Nat} {d : List D} (hp : 0 < p) (hpol : polP poly) (hd : digP p d) (hl : d.length = 2 * m) : ∀ x, x ≤ m → digP p (redO p poly m d x) ∧ (redO p poly m d x).length = 2 * m
 | 0, _ => ⟨hd, hl⟩
 | x + 1, hx => by
  have ih := redO_all hp hpol hd hl x (by omega)
  rw [redO_eq ih.1]
  exact ⟨redI_dig hp hpol ih.1 (ih.1.at (by omega)).2 _ (by rw [ih.2]; omega), by rw [redI_len]; exact ih.2⟩
theorem pow_rng {p m : Int} (h : pmP p m) : ∀ n, n ≤ m.toNat → 1 ≤ powI p n ∧ powI p n ≤ 16 := by
 intro n hn
 rcases h.out with ⟨rfl, rfl⟩ | ⟨rfl, rfl⟩ | ⟨rfl, rfl⟩ | ⟨rfl, rfl⟩
 ·match n, hn with
  | 0, _ | 1, _ | 2, _ => decide
 ·match n, hn with
  | 0, _ | 1, _ | 2, _ | 3, _ => decide
 ·match n, hn with
  | 0, _ | 1, _ | 2, _ => decide
 ·match n, hn with
  | 0, _ | 1, _ | 2, _ | 3, _ | 4, _ => decide
theorem pm_rng {p m : Int} (h : pmP p m) : (2 ≤ p ∧ p ≤ 3) ∧ 2 ≤ m ∧ m ≤ 4 := by rcases h.out with h | h | h | h <;> omega
theorem num_rng {d : List D} {p m : Int} (h : pmP p m) (hd : digP p d) (hm : m ≤ d.length) : ∀ n, n ≤ m.toNat → 0 ≤ numL d p n ∧ numL d p n ≤ 100 * n
 | 0, _ => ⟨Int.le_refl _, Int.le_refl _⟩
 | n + 1, hn => by
  have ih := num_rng h hd hm n (by omega)
  have h1 := hd.at (i := n) (by omega)
  have h2 := pow_rng h n (by omega)
  have h3 := pm_rng h
  have h4 := Int.mul_nonneg h1.1 (show 0 ≤ powI p n by omega)
  have h5 : (nthD d n).asInt * powI p n ≤ 3 * 16 := Int.mul_le_mul (by omega) h2.2 (by omega) (by omega)
  show 0 ≤ numL d p n + (nthD d n).asInt * powI p n ∧ numL d p n + (nthD d n).asInt * powI p n ≤ _
  omega
theorem not_of {p : Prop} (h : p → False) : ¬ p := h
theorem addL_succ (p : Int) (xs ys : List D) (k : Nat) : addL p xs ys (k + 1) = upd (addL p xs ys k) k fun v => (v + (nthD ys k).asInt).tmod p := rfl
theorem mulI_succ (p : Int) (xs ys : List D) (i : Nat) (d : List D) (k : Nat) : mulI p xs ys i d (k + 1) = upd (mulI p xs ys i d k) (i + k) fun v => (v + (nthD xs i).asInt * (nthD ys k).asInt).tmod p := rfl
theorem redI_succ (p : Int) (poly : D) (base : Nat) (k : Int) (d : List D) (i : Nat) : redI p poly base k d (i + 1) = upd (redI p poly base k d i) (base + i) fun v => (v + (p - k) * nAt poly i).tmod p := rfl
theorem mulO_succ (p : Int) (xs ys : List D) (m : Nat) (d : List D) (i : Nat) : mulO p xs ys m d (i + 1) = mulI p xs ys i (mulO p xs ys m d i) m := rfl
theorem lim_of {n : Nat} (h : n ≤ 100000) : n < LIM := by unfold LIM; omega
theorem polP_of {q : Int} (h : q = 4 ∨ q = 8 ∨ q = 9 ∨ q = 16) : polP (polyD q) := by
 rcases h with rfl | rfl | rfl | rfl <;> refine ⟨fun i => ?_⟩
 ·match i with
  | 0 | 1 | 2 => decide
  | n + 3 => show (0 : Int) ≤ 0 ∧ (0 : Int) ≤ 1; decide
 ·match i with
  | 0 | 1 | 2 | 3 => decide
  | n + 4 => show (0 : Int) ≤ 0 ∧ (0 : Int) ≤ 1; decide
 ·match i with
  | 0 | 1 | 2 => decide
  | n + 3 => show (0 : Int) ≤ 0 ∧ (0 : Int) ≤ 1; decide
 ·match i with
  | 0 | 1 | 2 | 3 | 4 => decide
  | n + 5 => show (0 : Int) ≤ 0 ∧ (0 : Int) ≤ 1; decide
theorem fld_cases {q : Int} (h : fldP q) : ((polyD q).len = 0 ∧ fpZ q = q ∧ 2 ≤ q ∧ q ≤ 13) ∨ ((q = 4 ∨ q = 8 ∨ q = 9 ∨ q = 16) ∧ pmP (fpZ q) (((polyD q).len : Int) - 1) ∧ polP (polyD q)) := by
 rcases h.out with rfl | rfl | rfl | rfl | rfl | rfl | rfl | rfl | rfl | rfl
 ·exact .inl (by decide)
 ·exact .inl (by decide)
 ·exact .inr ⟨.inl rfl, ⟨by decide⟩, polP_of (.inl rfl)⟩
 ·exact .inl (by decide)
 ·exact .inl (by decide)
 ·exact .inr ⟨.inr (.inl rfl), ⟨by decide⟩, polP_of (.inr (.inl rfl))⟩
 ·exact .inr ⟨.inr (.inr (.inl rfl)), ⟨by decide⟩, polP_of (.inr (.inr (.inl rfl)))⟩
 ·exact .inl (by decide)
 ·exact .inl (by decide)
 ·exact .inr ⟨.inr (.inr (.inr rfl)), ⟨by decide⟩, polP_of (.inr (.inr (.inr rfl)))⟩
theorem priB : ([2, 3, 5, 7, 11, 13].all fun q => two q fun a b => decide (((a : Int) + b).tmod q = addZ q a b) && decide (((a : Int) * b).tmod q = mulZ q a b)) = true := by kernel_rfl
noncomputable def refA (q a b : Int) (m : Nat) : Int := numL (addL (fpZ q) (digL a (fpZ q) m) (digL b (fpZ q) m) m) (fpZ q) m
noncomputable def refM (q a b : Int) (m k : Nat) : Int := numL (redO (fpZ q) (polyD q) m (mulO (fpZ q) (digL a (fpZ q) m) (digL b (fpZ q) m) m (digL 0 (fpZ q) k) m) m) (fpZ q) m
theorem powB : ([4, 8, 9, 16].all fun q => two q fun a b => decide (refA q a b ((polyD q).len - 1) = addZ q a b) && decide (refM q a b ((polyD q).len - 1) (2 * ((polyD q).len - 1)) = mulZ q a b)) = true := by kernel_rfl
theorem getL {l : List Nat} {f : Nat → Nat → Nat → Bool} (h : (l.all fun q => two q (f q)) = true) {q a b : Nat} (hq : q ∈ l) (ha : a < q) (hb : b < q) : f q a b = true := upto_all (upto_all (List.all_eq_true.1 h q hq) a ha) b hb
theorem ref_pri {q a b : Int} (hq : fldP q) (h0 : (polyD q).len = 0) (ha : eltP q a) (hb : eltP q b) : (a + b).tmod q = addZ q a b ∧ (a * b).tmod q = mulZ q a b := by
 obtain ⟨n, hn, rfl⟩ := fld_nat hq
 obtain ⟨a, h1, rfl⟩ := elt_nat ha
 obtain ⟨b, h2, rfl⟩ := elt_nat hb
 have hm : n ∈ [2, 3, 5, 7, 11, 13] := by
  have : n = 2 ∨ n = 3 ∨ n = 4 ∨ n = 5 ∨ n = 7 ∨ n = 8 ∨ n = 9 ∨ n = 11 ∨ n = 13 ∨ n = 16 := by simpa [qsL] using hn
  rcases this with rfl | rfl | rfl | rfl | rfl | rfl | rfl | rfl | rfl | rfl <;> first | decide | exact absurd h0 (by decide)
 have := getL priB hm h1 h2
 simp only [Bool.and_eq_true, decide_eq_true_eq] at this
 exact this
theorem ref_pow {q a b : Int} {m k : Nat} (hq : q = 4 ∨ q = 8 ∨ q = 9 ∨ q = 16) (hm : m = (polyD q).len - 1) (hk : k = 2 * m) (ha : eltP q a) (hb : eltP q b) : refA q a b m = addZ q a b ∧ refM q a b m k = mulZ q a b := by
 subst hk; subst hm
 have hn : ∃ n : Nat, n ∈ [4, 8, 9, 16] ∧ q = n := by
  rcases hq with rfl | rfl | rfl | rfl
  ·exact ⟨4, by decide, rfl⟩
  ·exact ⟨8, by decide, rfl⟩
  ·exact ⟨9, by decide, rfl⟩
  ·exact ⟨16, by decide, rfl⟩
 obtain ⟨n, hn, rfl⟩ := hn
 obtain ⟨a, h1, rfl⟩ := elt_nat ha
 obtain ⟨b, h2, rfl⟩ := elt_nat hb
 have := getL powB hn h1 h2
 simp only [Bool.and_eq_true, decide_eq_true_eq] at this
 exact this
end Go.Ev
