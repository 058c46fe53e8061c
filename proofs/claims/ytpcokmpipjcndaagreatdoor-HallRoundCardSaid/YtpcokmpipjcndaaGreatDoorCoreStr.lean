/-
  Part of the engine that the claim is proved with: it states nothing of the document by itself.
-/
import Derived.Test.YtpcokmpipjcndaaGreatDoorCoreSe
namespace Go.Ev
def piecesOf (c : UInt8) : List UInt8 → List (List UInt8)
 | [] => [[]]
 | b :: s => if b = c then [] :: piecesOf c s else (match piecesOf c s with | [] => [[b]] | w :: r => (b :: w) :: r)
theorem pieces_cons (c b : UInt8) (s : List UInt8) : piecesOf c (b :: s) = if b = c then [] :: piecesOf c s else (match piecesOf c s with | [] => [[b]] | w :: r => (b :: w) :: r) := rfl
theorem pieces_ne (c : UInt8) : ∀ s, piecesOf c s ≠ []
 | [] => by unfold piecesOf; simp
 | b :: s => by
  unfold piecesOf
  split
  ·simp
  ·split <;> simp
theorem pieces_len (c : UInt8) : ∀ s, (piecesOf c s).length = s.count c + 1
 | [] => rfl
 | b :: s => by
  have ih := pieces_len c s
  unfold piecesOf
  rw [List.count_cons]
  split
  ·rename_i h; subst h; simp; omega
  ·rename_i h
   rw [if_neg (by simpa using h)]
   split
   ·rename_i hn; exact absurd hn (pieces_ne c s)
   ·rename_i w r hw; rw [hw] at ih; simpa using ih
theorem byteAt_cons (b : UInt8) (s : List UInt8) (j : Nat) : byteAt (b :: s) (j + 1) = byteAt s j := rfl
theorem byteAt_zero (b : UInt8) (s : List UInt8) : byteAt (b :: s) 0 = b.toNat := rfl
theorem byte_eq {b c : UInt8} : ((b.toNat : Int) = c.toNat) ↔ b = c := ⟨fun h => UInt8.toNat_inj.1 (by omega), fun h => by rw [h]⟩
theorem pieces_cut (c : UInt8) : ∀ (s : List UInt8) (m : Nat), m < s.length → (∀ j, j < m → byteAt s j ≠ c.toNat) → byteAt s m = c.toNat → piecesOf c s = s.take m :: piecesOf c (s.drop (m + 1))
 | [], m, h, _, _ => by simp at h
 | b :: s, 0, _, _, h0 => by
  rw [byteAt_zero] at h0
  rw [pieces_cons, if_pos (byte_eq.1 h0)]; rfl
 | b :: s, m + 1, h, hn, h0 => by
  have hb : b ≠ c := fun e => hn 0 (Nat.succ_pos m) (by rw [byteAt_zero, e])
  have ih := pieces_cut c s m (by simpa using h) (fun j hj => by have := hn (j + 1) (by omega); rw [byteAt_cons] at this; exact this) (by rw [byteAt_cons] at h0; exact h0)
  rw [pieces_cons, if_neg hb, ih]; rfl
theorem pieces_one (c : UInt8) : ∀ (s : List UInt8), (∀ j, j < s.length → byteAt s j ≠ c.toNat) → piecesOf c s = [s]
 | [], _ => rfl
 | b :: s, hn => by
  have hb : b ≠ c := fun e => hn 0 (by simp) (by rw [byteAt_zero, e])
  have ih := pieces_one c s fun j hj => by have := hn (j + 1) (by simp; omega); rw [byteAt_cons] at this; exact this
  rw [pieces_cons, if_neg hb, ih]
theorem idx_spec (c : UInt8) : ∀ (s : List UInt8), (Go.Lib.indexByte s c = -1 ∧ ∀ j, j < s.length → byteAt s j ≠ c.toNat) ∨
  ∃ m : Nat, Go.Lib.indexByte s c = m ∧ m < s.length ∧ (∀ j, j < m → byteAt s j ≠ c.toNat) ∧ byteAt s m = c.toNat
 | [] => .inl ⟨rfl, fun j h => by simp at h⟩
 | b :: s => by
  unfold Go.Lib.indexByte
  by_cases hb : b = c
  ·right
   refine ⟨0, by simp [hb], by simp, fun j h => by omega, by rw [byteAt_zero, hb]⟩
  ·rw [if_neg (by simpa using hb)]
   rcases idx_spec c s with ⟨h1, h2⟩ | ⟨m, h1, h2, h3, h4⟩
   ·left
    refine ⟨by rw [h1]; rfl, fun j hj => ?_⟩
    cases j with
    | zero => rw [byteAt_zero]; exact fun h => hb (byte_eq.1 h)
    | succ j => rw [byteAt_cons]; exact h2 j (by simpa using hj)
   ·right
    refine ⟨m + 1, ?_, by simpa using h2, fun j hj => ?_, by rw [byteAt_cons]; exact h4⟩
    ·rw [h1, if_neg (by simp)]; rfl
    ·cases j with
     | zero => rw [byteAt_zero]; exact fun h => hb (byte_eq.1 h)
     | succ j => rw [byteAt_cons]; exact h3 j (by omega)
def cutI (s : List UInt8) (c : UInt8) : Int := Go.Lib.indexByte s c
theorem cut_no {s : List UInt8} {c : UInt8} (h : cutI s c < 0) : piecesOf c s = [s] := by
 rcases idx_spec c s with ⟨_, h2⟩ | ⟨m, h1, _⟩
 ·exact pieces_one c s h2
 ·unfold cutI at h; omega
theorem cut_yes {s : List UInt8} {c : UInt8} (h : 0 ≤ cutI s c) : (cutI s c).toNat < s.length ∧ piecesOf c s = s.take (cutI s c).toNat :: piecesOf c (s.drop ((cutI s c).toNat + 1)) := by
 rcases idx_spec c s with ⟨h1, _⟩ | ⟨m, h1, h2, h3, h4⟩
 ·unfold cutI at h; omega
 ·have e : (cutI s c).toNat = m := by unfold cutI; omega
  rw [e]
  exact ⟨h2, pieces_cut c s m h2 h3 h4⟩
theorem cut_cases (s : List UInt8) (c : UInt8) : cutI s c = -1 ∨ (0 ≤ cutI s c ∧ cutI s c < s.length) := by
 rcases idx_spec c s with ⟨h1, _⟩ | ⟨m, h1, h2, _⟩
 ·exact .inl h1
 ·right; unfold cutI; omega
end Go.Ev
