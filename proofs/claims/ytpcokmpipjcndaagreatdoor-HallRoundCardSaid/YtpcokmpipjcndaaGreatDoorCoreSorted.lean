/-
  Part of the engine that the claim is proved with: it states nothing of the document by itself.
-/
import Derived.Lib.SlicesCompact
namespace Go.Ev
open Go.Lib
theorem compactUpTo_rises (d : Array Int) (hs : ∀ j, 0 < j → j < d.size → d[j - 1]! ≤ d[j]!) : ∀ m, m ≤ d.size → (compactUpTo d m).Pairwise (· < ·) ∧ ∀ y ∈ compactUpTo d m, 0 < m ∧ y ≤ d[m - 1]! ∧ ∃ j, j < m ∧ y = d[j]!
 | 0, _ => ⟨by simp [compactUpTo], fun y hy => by simp [compactUpTo] at hy⟩
 | m + 1, hm => by
  obtain ⟨h1, h2⟩ := compactUpTo_rises d hs m (by omega)
  rw [compactUpTo_succ]
  by_cases hk : keeps d m = true
  ·rw [if_pos hk]
   have hlt : ∀ y ∈ compactUpTo d m, y < d[m]! := fun y hy => by
    obtain ⟨hp, hle, _⟩ := h2 y hy
    have := hs m hp (by omega)
    have hne : d[m]! ≠ d[m - 1]! := by
     unfold keeps at hk
     have := of_decide_eq_true hk
     omega
    omega
   refine ⟨List.pairwise_append.2 ⟨h1, by simp, fun a ha b hb => ?_⟩, fun y hy => ?_⟩
   ·rw [List.mem_singleton.1 hb]; exact hlt a ha
   ·rcases List.mem_append.1 hy with h | h
    ·obtain ⟨_, _, j, hj, e⟩ := h2 y h
     exact ⟨by omega, by have := hlt y h; simp only [Nat.add_sub_cancel]; omega, j, by omega, e⟩
    ·rw [List.mem_singleton.1 h]; exact ⟨by omega, by simp, m, by omega, rfl⟩
  ·rw [if_neg hk, List.append_nil]
   refine ⟨h1, fun y hy => ?_⟩
   obtain ⟨hp, hle, j, hj, e⟩ := h2 y hy
   have := hs m hp (by omega)
   exact ⟨by omega, by simp only [Nat.add_sub_cancel]; omega, j, by omega, e⟩
theorem compact_rises (l : List Int) (hs : l.Pairwise (· ≤ ·)) : (compact l).Pairwise (· < ·) ∧ ∀ y ∈ compact l, y ∈ l := by
 have h := compactUpTo_rises l.toArray (fun j hj hl => by
  have hl' : j < l.length := by simpa using hl
  have := List.pairwise_iff_getElem.1 hs (j - 1) j (by omega) hl' (by omega)
  rw [getElem!_pos l.toArray (j - 1) (by simp; omega), getElem!_pos l.toArray j hl]
  simpa using this) l.length (by simp)
 refine ⟨h.1, fun y hy => ?_⟩
 obtain ⟨_, _, j, hj, e⟩ := h.2 y hy
 rw [e, getElem!_pos l.toArray j (by simpa using hj)]
 simp
theorem sorted_rises (l : List Int) : (compact (l.mergeSort fun x y => decide (x ≤ y))).Pairwise (· < ·) ∧ (∀ y ∈ compact (l.mergeSort fun x y => decide (x ≤ y)), y ∈ l) := by
 have h := compact_rises (l.mergeSort fun x y => decide (x ≤ y)) (by
  have := List.pairwise_mergeSort (le := fun x y => decide (x ≤ y)) (by intro a b c; simp; omega) (by intro a b; simp; omega) l
  exact this.imp fun h => of_decide_eq_true h)
 exact ⟨h.1, fun y hy => List.mem_mergeSort.1 (h.2 y hy)⟩
end Go.Ev
