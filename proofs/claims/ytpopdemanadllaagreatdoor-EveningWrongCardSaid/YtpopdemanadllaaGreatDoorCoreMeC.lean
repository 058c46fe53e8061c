/-
  Part of the engine that the claim is proved with: it states nothing of the document by itself.
-/
import Derived.Test.YtpopdemanadllaaGreatDoorCoreMeDefs
open Go.Proofs
namespace Go.Ev
set_option maxRecDepth 100000
set_option maxHeartbeats 4000000
theorem me38n : ∀ (n : Int) (s : D), symFun (ctx mn1 nlAnn) (4 : Nat) (43 : FuncId) [V.int IntKind.i64 n, V.dat (24 : TypeId) s] (V.dat (25 : TypeId) D.nil) = (bigP s ∧ (((chk n D.nil s).snd = (0 :
Int) → False) → D.nil = D.nil) ∧ ((((chk n D.nil s).snd = (0 : Int) → False) → False) → False)) := by intros; kernel_rfl
theorem me11n : ∀ (n : Int) (s : D), symFun (ctx mn2 mtAnn) (3 : Nat) (16 : FuncId) [V.int IntKind.i64 n, V.dat (24 : TypeId) s] (V.int IntKind.i64 (0 : Int)) = ((bigP s ∧ (goodS n s → False)) ∧ (∃ (x
: Nat), x.le (0 : Nat) ∧ ((0 : Int) = (↑x : Int) ∧ (0 : Int) = mxZ D.nil x ∧ True) ∧ True) ∧ ∀ (x : Nat), x.le (0 : Nat) → (0 : Nat) - x < LIM ∧ ((↑x : Int) < (↑(0 : Nat) : Int) → (0 : Int) ≤ (↑x :
Int) ∧ (↑x : Int) < (↑(0 : Nat) : Int) ∧ ((-9223372036854775808 : Int) ≤ (↑x : Int) + (1 : Int) ∧ (↑x : Int) + (1 : Int) < (9223372036854775808 : Int)) ∧ ∃ (y : Nat), y.le (0 : Nat) ∧ (0 : Nat) - y <
(0 : Nat) - x ∧ ((↑x : Int) + (1 : Int) = (↑y : Int) ∧ max (mxZ D.nil x) (nthD [] x).asInt = mxZ D.nil y ∧ True) ∧ True) ∧ (((↑x : Int) < (↑(0 : Nat) : Int) → False) → mxZ D.nil x = (0 : Int))) := by intros; kernel_rfl
theorem me12n : ∀ (n : Int) (s : D), symFun (ctx mn2 mtAnn) (3 : Nat) (17 : FuncId) [V.int IntKind.i64 n, V.dat (24 : TypeId) s] (V.int IntKind.i64 (0 : Int)) = ((bigP s ∧ (goodS n s → False)) ∧ ((↑(0
: Nat) : Int) = (0 : Int) → (0 : Int) = (0 : Int)) ∧ (((↑(0 : Nat) : Int) = (0 : Int) → False) → False ∧ (0 : Int) = (0 : Int))) := by intros; kernel_rfl
theorem me13n : ∀ (n : Int) (s : D), symFun (ctx mn2 mtAnn) (3 : Nat) (18 : FuncId) [V.int IntKind.i64 n, V.dat (24 : TypeId) s] (V.int IntKind.i64 (0 : Int)) = ((bigP s ∧ (goodS n s → False)) ∧ (∃ (x
: Nat), x.le (0 : Nat) ∧ ((0 : Int) = (↑x : Int) ∧ (0 : Int) = sqSum D.nil x ∧ True) ∧ True) ∧ ∀ (x : Nat), x.le (0 : Nat) → (0 : Nat) - x < LIM ∧ ((↑x : Int) < (↑(0 : Nat) : Int) → (0 : Int) ≤ (↑x :
Int) ∧ (↑x : Int) < (↑(0 : Nat) : Int) ∧ ((-9223372036854775808 : Int) ≤ (nthD [] x).asInt * (nthD [] x).asInt ∧ (nthD [] x).asInt * (nthD [] x).asInt < (9223372036854775808 : Int)) ∧
((-9223372036854775808 : Int) ≤ sqSum D.nil x + (nthD [] x).asInt * (nthD [] x).asInt ∧ sqSum D.nil x + (nthD [] x).asInt * (nthD [] x).asInt < (9223372036854775808 : Int)) ∧ ((-9223372036854775808 :
Int) ≤ (↑x : Int) + (1 : Int) ∧ (↑x : Int) + (1 : Int) < (9223372036854775808 : Int)) ∧ ∃ (y : Nat), y.le (0 : Nat) ∧ (0 : Nat) - y < (0 : Nat) - x ∧ ((↑x : Int) + (1 : Int) = (↑y : Int) ∧ sqSum D.nil
x + (nthD [] x).asInt * (nthD [] x).asInt = sqSum D.nil y ∧ True) ∧ True) ∧ (((↑x : Int) < (↑(0 : Nat) : Int) → False) → sqSum D.nil x = (0 : Int))) := by intros; kernel_rfl
theorem scan_two {n : Int} {sz s : D} : ∀ f i, (scanK n sz s f i).2 = 0 → scanK n sz s f i = (0, 0)
 | 0, _, _ => rfl
 | f + 1, i, h => by
  unfold scanK at h ⊢
  by_cases he : errE n sz (el s i) ≠ 0
  ·rw [if_pos he] at h; exact absurd h he
  ·rw [if_neg he] at h ⊢; exact scan_two f (i + 1) h
theorem chk_two {n : Int} {sz s : D} (h : (chk n sz s).2 = 0) : chk n sz s = (0, 0) := by
 unfold chk at h ⊢
 split at h
 ·exact absurd h (by decide)
 ·rename_i h1
  rw [if_neg h1]
  split at h
  ·exact absurd h (by decide)
  ·rename_i h2
   rw [if_neg h2]; exact scan_two _ _ h
theorem good_of {n : Int} {s : D} (hb : bigP s) (h : (chk n .nil s).2 = 0) : goodS n s := by
 have hc := chk_two h
 refine ⟨Classical.not_not.1 fun k => ?_, hb, hc⟩
 unfold chk at hc
 rw [if_pos (.inl k)] at hc
 exact absurd (congrArg Prod.snd hc) (by decide)
theorem s38n (n : Int) (s : D) (hb : bigP s) (hn : ¬ goodS n s) : symFun (ctx mn1 nlAnn) 4 43 [.int .i64 n, .dat 24 s] (.dat 25 .nil) := by
 rw [me38n]; exact ⟨hb, fun _ => rfl, fun k => k fun h => hn (good_of hb h)⟩
theorem s11n (n : Int) (s : D) (hb : bigP s) (hn : ¬ goodS n s) : symFun (ctx mn2 mtAnn) 3 16 [.int .i64 n, .dat 24 s] (.int .i64 0) := by
 rw [me11n]
 refine ⟨⟨hb, hn⟩, ⟨0, Nat.zero_le _, ⟨rfl, rfl, trivial⟩, trivial⟩, fun x hx => ⟨limS (by omega), fun hlt => absurd hlt (by show ¬ (x : Int) < 0; omega), fun _ => ?_⟩⟩
 rw [Nat.le_zero.1 hx]; rfl
theorem s12n (n : Int) (s : D) (hb : bigP s) (hn : ¬ goodS n s) : symFun (ctx mn2 mtAnn) 3 17 [.int .i64 n, .dat 24 s] (.int .i64 0) := by
 rw [me12n]; exact ⟨⟨hb, hn⟩, fun _ => rfl, fun k => (k rfl).elim⟩
theorem s13n (n : Int) (s : D) (hb : bigP s) (hn : ¬ goodS n s) : symFun (ctx mn2 mtAnn) 3 18 [.int .i64 n, .dat 24 s] (.int .i64 0) := by
 rw [me13n]
 refine ⟨⟨hb, hn⟩, ⟨0, Nat.zero_le _, ⟨rfl, rfl, trivial⟩, trivial⟩, fun x hx => ⟨limS (by omega), fun hlt => absurd hlt (by show ¬ (x : Int) < 0; omega), fun _ => ?_⟩⟩
 rw [Nat.le_zero.1 hx]; rfl
end Go.Ev
