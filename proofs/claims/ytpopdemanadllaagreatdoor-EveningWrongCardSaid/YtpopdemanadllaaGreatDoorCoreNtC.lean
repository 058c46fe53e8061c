/-
  Part of the engine that the claim is proved with: it states nothing of the document by itself.
-/
import Derived.Test.YtpopdemanadllaaGreatDoorCoreNtB
open Go.Proofs
namespace Go.Ev
set_option maxRecDepth 100000
set_option maxHeartbeats 4000000
theorem vc16 : ∀ (n : Int) (s : D), symFun (ctx nt1 ntAnn) 3 (23 : FuncId) [V.int IntKind.i64 n, V.dat (24 : TypeId) s] (V.prop ((chk n D.nil s).snd = 0)) = (((0 : Nat) ≤ 1000 ∧ bigP s) ∧ ((chk n D.nil s).snd = 0 ↔ (chk
n D.nil s).snd = 0)) := by intros; kernel_rfl
theorem limS {n : Nat} (h : n ≤ 16777216) : n < LIM := by unfold LIM; omega
theorem scan_all {n : Int} {s : D} : ∀ f i, scanK n .nil s f i = (0, 0) → ∀ k, i ≤ k → k < i + f → errE n .nil (el s k) = 0
 | 0, i, _, k, h1, h2 => by omega
 | f + 1, i, h, k, h1, h2 => by
  unfold scanK at h
  by_cases he : errE n .nil (el s i) ≠ 0
  ·rw [if_pos he] at h
   exact absurd (congrArg Prod.snd h) he
  ·rw [if_neg he] at h
   rcases Nat.lt_or_ge i k with h3 | h3
   ·exact scan_all f (i + 1) h k h3 (by omega)
   ·have : k = i := by omega
    subst this; exact Classical.not_not.1 he
theorem good_err {n : Int} {s : D} (h : goodS n s) {i : Nat} (hi : i < s.len) : errE n .nil (el s i) = 0 := by
 have hc := h.chk
 unfold chk at hc
 split at hc
 ·exact absurd (congrArg Prod.snd hc) (by decide)
 ·split at hc
  ·exact absurd (congrArg Prod.snd hc) (by decide)
  ·exact scan_all _ _ hc i (Nat.zero_le _) (by omega)
theorem s16 (n : Int) (s : D) (hs : bigP s) : symFun (ctx nt1 ntAnn) 3 23 [.int .i64 n, .dat 24 s] (.prop ((chk n .nil s).2 = 0)) := by
 rw [vc16]; exact ⟨⟨Nat.zero_le _, hs⟩, Iff.rfl⟩
end Go.Ev
