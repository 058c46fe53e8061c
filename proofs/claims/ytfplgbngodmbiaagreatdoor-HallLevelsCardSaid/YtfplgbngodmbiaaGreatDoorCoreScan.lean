/-
  Part of the engine that the claim is proved with: it states nothing of the document by itself.
-/
import Derived.Test.YtfplgbngodmbiaaGreatDoorCoreBfs
namespace Go.Ev
section
variable {n : Nat} {near : Nat → Nat → Prop} {s : Nat}
theorem distZ_ge (m : Nat) : -1 ≤ distZ n near s m := by
  rcases distZ_cases (n := n) (near := near) (s := s) m with ⟨d, _, h⟩ | ⟨_, h⟩ <;> omega
theorem distZ_is {m : Nat} {d : Nat} (h : distZ n near s m = d) : isDist n near s d m := by
  rcases distZ_cases (n := n) (near := near) (s := s) m with ⟨e, h1, h2⟩ | ⟨_, h2⟩
  · have : e = d := by omega
    subst this; exact h1
  · omega
theorem distZ_self : distZ n near s s = 0 := distZ_of (d := 0) ⟨rfl, fun e he => absurd he (Nat.not_lt_zero _)⟩
theorem distZ_zero {m : Nat} (h : distZ n near s m = 0) : m = s := (distZ_is (d := 0) h).1
theorem distZ_next {a b : Nat} {d : Nat} (ha : a < n) (h : distZ n near s a = d) (hn : near a b) : 0 ≤ distZ n near s b ∧ distZ n near s b ≤ d + 1 := by
  have hw : walk n near s (d + 1) b := ⟨a, ha, (distZ_is h).1, hn⟩
  obtain ⟨e, he, h2⟩ := least_dist _ _ hw
  rw [distZ_of h2]; omega
theorem distZ_pred {m : Nat} {d : Nat} (h : distZ n near s m = ((d + 1 : Nat) : Int)) : ∃ a, a < n ∧ distZ n near s a = d ∧ near a m := by
  obtain ⟨h1, h2⟩ := distZ_is h
  obtain ⟨a, ha, hw, hn⟩ := h1
  refine ⟨a, ha, distZ_of ⟨hw, fun e he hwe => h2 (e + 1) (by omega) ⟨a, ha, hwe, hn⟩⟩, hn⟩
theorem negs_mono {L L' : Nat → Int} (h : ∀ x, x < n → L' x < 0 → L x < 0) : negs n L' ≤ negs n L := by
  unfold negs
  rw [← List.countP_eq_length_filter, ← List.countP_eq_length_filter]
  apply List.countP_mono_left
  intro x hx hd
  have := List.mem_range.1 hx
  simp only [decide_eq_true_eq] at hd ⊢
  exact h x this hd
theorem negs_less {L L' : Nat → Int} {m : Nat} (hm : m < n) (h : ∀ x, x < n → L' x < 0 → L x < 0) (h0 : L m < 0) (h1 : 0 ≤ L' m) : negs n L' < negs n L := by
  have e := negs_upd (n := n) (L := L) hm h0 (z := 0) (by omega)
  have := negs_mono (n := n) (L := upd L m 0) (L' := L') (fun x hx hl => by
    unfold upd; split
    · rename_i he; subst he; omega
    · exact h x hx hl)
  omega
theorem dist_low (hs : s < n) : ∀ (d : Nat), (∃ m, m < n ∧ distZ n near s m = d) → negs n (fun m => (d : Int) - distZ n near s m) + d < n
  | 0, _ => by
    have := negs_less (n := n) (L := fun _ => -1) (L' := fun m => ((0 : Nat) : Int) - distZ n near s m) hs (fun _ _ _ => by show (-1 : Int) < 0; omega) (by show (-1 : Int) < 0; omega) (by show (0 : Int) ≤ ((0 : Nat) : Int) - distZ n near s s; rw [distZ_self]; omega)
    have := negs_le (n := n) (fun _ => -1)
    omega
  | d + 1, ⟨m, hm, h⟩ => by
    obtain ⟨a, ha, h1, _⟩ := distZ_pred h
    have ih := dist_low hs d ⟨a, ha, h1⟩
    have := negs_less (n := n) (L := fun m => (d : Int) - distZ n near s m) (L' := fun m => ((d + 1 : Nat) : Int) - distZ n near s m) hm (fun x _ hl => by show (d : Int) - distZ n near s x < 0; have : ((d + 1 : Nat) : Int) - distZ n near s x < 0 := hl; omega) (by show (d : Int) - distZ n near s m < 0; omega) (by show 0 ≤ ((d + 1 : Nat) : Int) - distZ n near s m; omega)
    omega
theorem distZ_lt (hs : s < n) {m : Nat} (hm : m < n) : distZ n near s m < n := by
  rcases distZ_cases (n := n) (near := near) (s := s) m with ⟨d, _, h⟩ | ⟨_, h⟩
  · have := dist_low (near := near) hs d ⟨m, hm, h⟩; omega
  · omega
variable (n near s)
variable {n near s}
end
end Go.Ev
