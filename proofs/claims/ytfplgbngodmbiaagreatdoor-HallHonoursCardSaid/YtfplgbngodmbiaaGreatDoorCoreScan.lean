/-
  Part of the engine that the claim is proved with: it states nothing of the document by itself.
-/
import Derived.Test.YtfplgbngodmbiaaGreatDoorCoreBfs
namespace Go.Ev
section
variable {n : Nat} {near : Nat → Nat → Prop} {s : Nat}
theorem distZ_ge (m : Nat) : -1 ≤ distZ n near s m := by
 rcases distZ_cases (n := n) (near := near) (s := s) m with ⟨d, _, h⟩ | ⟨_, h⟩ <;> omega
theorem distZ_is {m : Nat} {d : Nat} (h : distZ n near s m = d) : isDist n near s d m := by
 rcases distZ_cases (n := n) (near := near) (s := s) m with ⟨e, h1, h2⟩ | ⟨_, h2⟩
 ·have : e = d := by omega
  subst this; exact h1
 ·omega
theorem distZ_self : distZ n near s s = 0 := distZ_of (d := 0) ⟨rfl, fun e he => absurd he (Nat.not_lt_zero _)⟩
theorem distZ_zero {m : Nat} (h : distZ n near s m = 0) : m = s := (distZ_is (d := 0) h).1
theorem distZ_next {a b : Nat} {d : Nat} (ha : a < n) (h : distZ n near s a = d) (hn : near a b) : 0 ≤ distZ n near s b ∧ distZ n near s b ≤ d + 1 := by
 have hw : walk n near s (d + 1) b := ⟨a, ha, (distZ_is h).1, hn⟩
 obtain ⟨e, he, h2⟩ := least_dist _ _ hw
 rw [distZ_of h2]; omega
theorem distZ_pred {m : Nat} {d : Nat} (h : distZ n near s m = ((d + 1 : Nat) : Int)) : ∃ a, a < n ∧ distZ n near s a = d ∧ near a m := by
 obtain ⟨h1, h2⟩ := distZ_is h
 obtain ⟨a, ha, hw, hn⟩ := h1
 refine ⟨a, ha, distZ_of ⟨hw, fun e he hwe => h2 (e + 1) (by omega) ⟨a, ha, hwe, hn⟩⟩, hn⟩
theorem negs_mono {L L' : Nat → Int} (h : ∀ x, x < n → L' x < 0 → L x < 0) : negs n L' ≤ negs n L := by
 unfold negs
 rw [← List.countP_eq_length_filter, ← List.countP_eq_length_filter]
 apply List.countP_mono_left
 intro x hx hd
 have := List.mem_range.1 hx
 simp only [decide_eq_true_eq] at hd ⊢
 exact h x this hd
theorem negs_less {L L' : Nat → Int} {m : Nat} (hm : m < n) (h : ∀ x, x < n → L' x < 0 → L x < 0) (h0 : L m < 0) (h1 : 0 ≤ L' m) : negs n L' < negs n L := by
 have e := negs_upd (n := n) (L := L) hm h0 (z := 0) (by omega)
 have := negs_mono (n := n) (L := upd L m 0) (L' := L') (fun x hx hl => by
  unfold upd; split
  ·rename_i he; subst he; omega
  ·exact h x hx hl)
 omega
theorem dist_low (hs : s < n) : ∀ (d : Nat), (∃ m, m < n ∧ distZ n near s m = d) → negs n (fun m => (d : Int) - distZ n near s m) + d < n
 | 0, _ => by
  have := negs_less (n := n) (L := fun _ => -1) (L' := fun m => ((0 : Nat) : Int) - distZ n near s m) hs (fun _ _ _ => by show (-1 : Int) < 0; omega) (by show (-1 : Int) < 0; omega) (by show (0 : Int) ≤ ((0 : Nat) : Int) - distZ n near s s; rw [distZ_self]; omega)
  have := negs_le (n := n) (fun _ => -1)
  omega
 | d + 1, ⟨m, hm, h⟩ => by
  obtain ⟨a, ha, h1, _⟩ := distZ_pred h
  have ih := dist_low hs d ⟨a, ha, h1⟩
  have := negs_less (n := n) (L := fun m => (d : Int) - distZ n near s m) (L' := fun m => ((d + 1 : Nat) : Int) - distZ n near s m) hm (fun x _ hl => by show (d : Int) - distZ n near s x < 0; have : ((d + 1 : Nat) : Int) - distZ n near s x < 0 := hl; omega) (by show (d : Int) - distZ n near s m < 0; omega) (by show 0 ≤ ((d + 1 : Nat) : Int) - distZ n near s m; omega)
  omega
theorem distZ_lt (hs : s < n) {m : Nat} (hm : m < n) : distZ n near s m < n := by
 rcases distZ_cases (n := n) (near := near) (s := s) m with ⟨d, _, h⟩ | ⟨_, h⟩
 ·have := dist_low (near := near) hs d ⟨m, hm, h⟩; omega
 ·omega
variable (n near s)
def midP (d a b m : Nat) : Prop := distZ n near s m = d + 1 ∧ ((∃ a', a' < a ∧ distZ n near s a' = d ∧ near a' m) ∨ (distZ n near s a = d ∧ near a m ∧ m < b))
open Classical in
noncomputable def midL (d a b m : Nat) : Int :=
 if distZ n near s m ≤ d then distZ n near s m else if midP n near s d a b m then d + 1 else -1
variable {n near s}
theorem lt_back {m b : Nat} (h : m < b + 1) (hm : ¬ m = b) : m < b := by omega
theorem mid_congr {d a b a' b' m : Nat} (h : midP n near s d a b m ↔ midP n near s d a' b' m) : midL n near s d a b m = midL n near s d a' b' m := by
 unfold midL; rw [propext h]
theorem mid_eq_d {d a b m : Nat} : midL n near s d a b m = d ↔ distZ n near s m = d := by
 have := distZ_ge (n := n) (near := near) (s := s) m
 unfold midL
 split
 ·exact Iff.rfl
 ·split <;> constructor <;> intro h <;> omega
theorem mid_zero {m : Nat} : midL n near s 0 0 0 m = if m = s then 0 else -1 := by
 have hg := distZ_ge (n := n) (near := near) (s := s) m
 unfold midL
 by_cases h : m = s
 ·subst h; rw [if_pos rfl, distZ_self]; rfl
 ·have h0 : distZ n near s m ≠ 0 := fun h' => h (distZ_zero h')
  rw [if_neg h]
  split
  ·omega
  ·rw [if_neg]
   rintro ⟨_, ⟨a', h1, _⟩ | ⟨_, _, h1⟩⟩ <;> exact absurd h1 (Nat.not_lt_zero _)
theorem mid_set {d a b : Nat} (ha : a < n) (h1 : midL n near s d a b a = d) (h2 : midL n near s d a b b < 0) (h3 : near a b) : midL n near s d a (b + 1) = upd (midL n near s d a b) b (d + 1) := by
 have hda := mid_eq_d.1 h1
 obtain ⟨h4, h5⟩ := distZ_next ha hda h3
 have h6 : distZ n near s b = d + 1 := by
  unfold midL at h2
  split at h2
  ·omega
  ·omega
 funext m
 unfold upd
 by_cases hm : m = b
 ·subst hm
  rw [if_pos rfl]; unfold midL
  rw [if_neg (by omega), if_pos ⟨h6, .inr ⟨hda, h3, by omega⟩⟩]
 ·rw [if_neg hm]; apply mid_congr
  unfold midP
  constructor
  ·exact fun ⟨x, y⟩ => ⟨x, y.imp id fun h' => ⟨h'.1, h'.2.1, lt_back h'.2.2 hm⟩⟩
  ·exact fun ⟨x, y⟩ => ⟨x, y.imp id fun h' => ⟨h'.1, h'.2.1, Nat.lt_succ_of_lt h'.2.2⟩⟩
theorem mid_skip {d a b : Nat} (h : ¬ (midL n near s d a b a = d ∧ midL n near s d a b b < 0 ∧ near a b)) : midL n near s d a (b + 1) = midL n near s d a b := by
 funext m
 by_cases hm : m = b
 ·subst hm
  by_cases h2 : midL n near s d a m m < 0
  ·have h3 : ¬ (distZ n near s a = d ∧ near a m) := fun ⟨h4, h5⟩ => h ⟨mid_eq_d.2 h4, h2, h5⟩
   apply mid_congr
   unfold midP
   constructor
   ·exact fun ⟨x, y⟩ => ⟨x, y.imp id fun h' => absurd ⟨h'.1, h'.2.1⟩ h3⟩
   ·exact fun ⟨x, y⟩ => ⟨x, y.imp id fun h' => absurd ⟨h'.1, h'.2.1⟩ h3⟩
  ·unfold midL at h2 ⊢
   split
   ·rfl
   ·rename_i hd
    rw [if_neg hd] at h2
    split at h2
    ·rename_i hc
     rw [if_pos hc, if_pos]
     exact ⟨hc.1, hc.2.imp id fun h' => ⟨h'.1, h'.2.1, by omega⟩⟩
    ·exact absurd (by omega) h2
 ·apply mid_congr
  unfold midP
  constructor
  ·exact fun ⟨x, y⟩ => ⟨x, y.imp id fun h' => ⟨h'.1, h'.2.1, lt_back h'.2.2 hm⟩⟩
  ·exact fun ⟨x, y⟩ => ⟨x, y.imp id fun h' => ⟨h'.1, h'.2.1, Nat.lt_succ_of_lt h'.2.2⟩⟩
theorem mid_row {d a m : Nat} (hm : m < n) : midL n near s d a n m = midL n near s d (a + 1) 0 m := by
 apply mid_congr
 unfold midP
 constructor
 ·rintro ⟨x, ⟨a', h1, h2⟩ | ⟨h1, h2, _⟩⟩
  ·exact ⟨x, .inl ⟨a', by omega, h2⟩⟩
  ·exact ⟨x, .inl ⟨a, by omega, h1, h2⟩⟩
 ·rintro ⟨x, ⟨a', h1, h2⟩ | ⟨_, _, h3⟩⟩
  ·by_cases e : a' = a
   ·subst e; exact ⟨x, .inr ⟨h2.1, h2.2, hm⟩⟩
   ·exact ⟨x, .inl ⟨a', by omega, h2⟩⟩
  ·exact absurd h3 (Nat.not_lt_zero _)
theorem mid_lvl {d m : Nat} : midL n near s d n 0 m = midL n near s (d + 1) 0 0 m := by
 have hg := distZ_ge (n := n) (near := near) (s := s) m
 unfold midL
 by_cases h : distZ n near s m ≤ d
 ·rw [if_pos h, if_pos (by omega)]
 ·rw [if_neg h]
  by_cases h1 : distZ n near s m = d + 1
  ·obtain ⟨a, h2, h3, h4⟩ := distZ_pred (n := n) (near := near) (s := s) (m := m) (d := d) (by omega)
   rw [if_pos ⟨h1, .inl ⟨a, h2, h3, h4⟩⟩, if_pos (by omega), h1]
  ·rw [if_neg (fun hc => h1 hc.1), if_neg (by omega), if_neg]
   rintro ⟨_, ⟨a', h5, _⟩ | ⟨_, _, h5⟩⟩ <;> exact absurd h5 (Nat.not_lt_zero _)
theorem mid_end (hs : s < n) {m : Nat} (hm : m < n) : midL n near s n 0 0 m = distZ n near s m := by
 have := distZ_lt (near := near) hs hm
 unfold midL
 rw [if_pos (by omega)]
end
end Go.Ev
