/-
  Part of the engine that the claim is proved with: it states nothing of the document by itself.
-/
import Derived.Test.YtenmglepjkflhaaGreatDoorCoreMeD
open Go.Proofs
namespace Go.Ev
set_option maxRecDepth 100000
set_option maxHeartbeats 4000000
theorem me16 : ∀ (n : Int) (s : D), symFun (ctx re2 reAnn) (3 : Nat) (16 : FuncId) [V.int IntKind.i64 n, V.dat (22 : TypeId) s] (V.dat (26 : TypeId) (D.list (rmL s n.toNat n.toNat))) = (((∃ (x : Nat),
x = (0 : Nat) ∧ ((0 : Int) = (↑x : Int) ∧ True ∧ True) ∧ True) ∨ ∃ (x : Nat), ((0 : Nat) < x ∧ x ≤ n.toNat) ∧ ((0 : Int) = (↑x : Int) ∧ False ∧ True) ∧ False ∧ True) ∧ (∀ (x : Nat), x = (0 : Nat) →
n.toNat - x < LIM ∧ ((↑x : Int) < n → ((∃ (x : Nat), x = (0 : Nat) ∧ ((0 : Int) = (↑x : Int) ∧ True ∧ True) ∧ True) ∨ ∃ (x : Nat), ((0 : Nat) < x ∧ x ≤ n.toNat) ∧ ((0 : Int) = (↑x : Int) ∧ False ∧
True) ∧ False ∧ True) ∧ (∀ (x_1 : Nat), x_1 = (0 : Nat) → n.toNat - x_1 < LIM ∧ ((↑x_1 : Int) < n → (((↑x : Int) = (↑x_1 : Int) → False) → bigP s ∧ (0 : Nat) + (1 : Nat) ≤ [D.int (↑(listD (rtS s (↑x :
Int) (↑x_1 : Int) s.len)).len : Int)].length ∧ (1 : Nat) ≤ (16777216 : Nat) ∧ ((-9223372036854775808 : Int) ≤ (↑x_1 : Int) + (1 : Int) ∧ (↑x_1 : Int) + (1 : Int) < (9223372036854775808 : Int)) ∧ ((∃
(y : Nat), y = (0 : Nat) ∧ n.toNat - y < n.toNat - x_1 ∧ ((↑x_1 : Int) + (1 : Int) = (↑y : Int) ∧ False ∧ True) ∧ True) ∨ ∃ (y : Nat), ((0 : Nat) < y ∧ y ≤ n.toNat) ∧ n.toNat - y < n.toNat - x_1 ∧
((↑x_1 : Int) + (1 : Int) = (↑y : Int) ∧ ((0 : Nat) = (0 : Nat) ∧ (1 : Nat) = y ∧ True) ∧ True) ∧ List.take (1 : Nat) [D.int (↑(listD (rtS s (↑x : Int) (↑x_1 : Int) s.len)).len : Int)] = rmR s x y ∧
True)) ∧ ((((↑x : Int) = (↑x_1 : Int) → False) → False) → (0 : Nat) + (1 : Nat) ≤ [D.int (0 : Int)].length ∧ (1 : Nat) ≤ (16777216 : Nat) ∧ ((-9223372036854775808 : Int) ≤ (↑x_1 : Int) + (1 : Int) ∧
(↑x_1 : Int) + (1 : Int) < (9223372036854775808 : Int)) ∧ ((∃ (y : Nat), y = (0 : Nat) ∧ n.toNat - y < n.toNat - x_1 ∧ ((↑x_1 : Int) + (1 : Int) = (↑y : Int) ∧ False ∧ True) ∧ True) ∨ ∃ (y : Nat), ((0
: Nat) < y ∧ y ≤ n.toNat) ∧ n.toNat - y < n.toNat - x_1 ∧ ((↑x_1 : Int) + (1 : Int) = (↑y : Int) ∧ ((0 : Nat) = (0 : Nat) ∧ (1 : Nat) = y ∧ True) ∧ True) ∧ List.take (1 : Nat) [D.int (0 : Int)] = rmR
s x y ∧ True))) ∧ (((↑x_1 : Int) < n → False) → (0 : Nat) + (1 : Nat) ≤ [D.nil].length ∧ (1 : Nat) ≤ (16777216 : Nat) ∧ ((-9223372036854775808 : Int) ≤ (↑x : Int) + (1 : Int) ∧ (↑x : Int) + (1 : Int)
< (9223372036854775808 : Int)) ∧ ((∃ (y : Nat), y = (0 : Nat) ∧ n.toNat - y < n.toNat - x ∧ ((↑x : Int) + (1 : Int) = (↑y : Int) ∧ False ∧ True) ∧ True) ∨ ∃ (y : Nat), ((0 : Nat) < y ∧ y ≤ n.toNat) ∧
n.toNat - y < n.toNat - x ∧ ((↑x : Int) + (1 : Int) = (↑y : Int) ∧ ((0 : Nat) = (0 : Nat) ∧ (1 : Nat) = y ∧ True) ∧ True) ∧ List.take (1 : Nat) [D.nil] = rmL s n.toNat y ∧ True))) ∧ ∀ (x_1 : Nat), (0
: Nat) < x_1 ∧ x_1 ≤ n.toNat → n.toNat - x_1 < LIM ∧ ((↑x_1 : Int) < n → (((↑x : Int) = (↑x_1 : Int) → False) → bigP s ∧ (0 : Nat) + (1 : Nat) ≤ [D.int (↑(listD (rtS s (↑x : Int) (↑x_1 : Int)
s.len)).len : Int)].length ∧ (0 : Nat) + x_1 ≤ (rmR s x x_1).length ∧ x_1 + (1 : Nat) ≤ (16777216 : Nat) ∧ ((-9223372036854775808 : Int) ≤ (↑x_1 : Int) + (1 : Int) ∧ (↑x_1 : Int) + (1 : Int) <
(9223372036854775808 : Int)) ∧ ((∃ (y : Nat), y = (0 : Nat) ∧ n.toNat - y < n.toNat - x_1 ∧ ((↑x_1 : Int) + (1 : Int) = (↑y : Int) ∧ False ∧ True) ∧ True) ∨ ∃ (y : Nat), ((0 : Nat) < y ∧ y ≤ n.toNat)
∧ n.toNat - y < n.toNat - x_1 ∧ ((↑x_1 : Int) + (1 : Int) = (↑y : Int) ∧ ((0 : Nat) = (0 : Nat) ∧ x_1 + (1 : Nat) = y ∧ True) ∧ True) ∧ List.take x_1 (rmR s x x_1) ++ List.take (1 : Nat) [D.int
(↑(listD (rtS s (↑x : Int) (↑x_1 : Int) s.len)).len : Int)] = rmR s x y ∧ True)) ∧ ((((↑x : Int) = (↑x_1 : Int) → False) → False) → (0 : Nat) + (1 : Nat) ≤ [D.int (0 : Int)].length ∧ (0 : Nat) + x_1 ≤
(rmR s x x_1).length ∧ x_1 + (1 : Nat) ≤ (16777216 : Nat) ∧ ((-9223372036854775808 : Int) ≤ (↑x_1 : Int) + (1 : Int) ∧ (↑x_1 : Int) + (1 : Int) < (9223372036854775808 : Int)) ∧ ((∃ (y : Nat), y = (0 :
Nat) ∧ n.toNat - y < n.toNat - x_1 ∧ ((↑x_1 : Int) + (1 : Int) = (↑y : Int) ∧ False ∧ True) ∧ True) ∨ ∃ (y : Nat), ((0 : Nat) < y ∧ y ≤ n.toNat) ∧ n.toNat - y < n.toNat - x_1 ∧ ((↑x_1 : Int) + (1 :
Int) = (↑y : Int) ∧ ((0 : Nat) = (0 : Nat) ∧ x_1 + (1 : Nat) = y ∧ True) ∧ True) ∧ List.take x_1 (rmR s x x_1) ++ List.take (1 : Nat) [D.int (0 : Int)] = rmR s x y ∧ True))) ∧ (((↑x_1 : Int) < n →
False) → (0 : Nat) + x_1 ≤ (rmR s x x_1).length ∧ (0 : Nat) + (1 : Nat) ≤ [D.list (List.take x_1 (rmR s x x_1))].length ∧ (1 : Nat) ≤ (16777216 : Nat) ∧ ((-9223372036854775808 : Int) ≤ (↑x : Int) + (1
: Int) ∧ (↑x : Int) + (1 : Int) < (9223372036854775808 : Int)) ∧ ((∃ (y : Nat), y = (0 : Nat) ∧ n.toNat - y < n.toNat - x ∧ ((↑x : Int) + (1 : Int) = (↑y : Int) ∧ False ∧ True) ∧ True) ∨ ∃ (y : Nat),
((0 : Nat) < y ∧ y ≤ n.toNat) ∧ n.toNat - y < n.toNat - x ∧ ((↑x : Int) + (1 : Int) = (↑y : Int) ∧ ((0 : Nat) = (0 : Nat) ∧ (1 : Nat) = y ∧ True) ∧ True) ∧ List.take (1 : Nat) [D.list (List.take x_1
(rmR s x x_1))] = rmL s n.toNat y ∧ True))) ∧ (((↑x : Int) < n → False) → D.nil = D.list (rmL s n.toNat n.toNat))) ∧ ∀ (x : Nat), (0 : Nat) < x ∧ x ≤ n.toNat → n.toNat - x < LIM ∧ ((↑x : Int) < n →
((∃ (x : Nat), x = (0 : Nat) ∧ ((0 : Int) = (↑x : Int) ∧ True ∧ True) ∧ True) ∨ ∃ (x : Nat), ((0 : Nat) < x ∧ x ≤ n.toNat) ∧ ((0 : Int) = (↑x : Int) ∧ False ∧ True) ∧ False ∧ True) ∧ (∀ (x_1 : Nat),
x_1 = (0 : Nat) → n.toNat - x_1 < LIM ∧ ((↑x_1 : Int) < n → (((↑x : Int) = (↑x_1 : Int) → False) → bigP s ∧ (0 : Nat) + (1 : Nat) ≤ [D.int (↑(listD (rtS s (↑x : Int) (↑x_1 : Int) s.len)).len :
Int)].length ∧ (1 : Nat) ≤ (16777216 : Nat) ∧ ((-9223372036854775808 : Int) ≤ (↑x_1 : Int) + (1 : Int) ∧ (↑x_1 : Int) + (1 : Int) < (9223372036854775808 : Int)) ∧ ((∃ (y : Nat), y = (0 : Nat) ∧
n.toNat - y < n.toNat - x_1 ∧ ((↑x_1 : Int) + (1 : Int) = (↑y : Int) ∧ False ∧ True) ∧ True) ∨ ∃ (y : Nat), ((0 : Nat) < y ∧ y ≤ n.toNat) ∧ n.toNat - y < n.toNat - x_1 ∧ ((↑x_1 : Int) + (1 : Int) =
(↑y : Int) ∧ ((0 : Nat) = (0 : Nat) ∧ (1 : Nat) = y ∧ True) ∧ True) ∧ List.take (1 : Nat) [D.int (↑(listD (rtS s (↑x : Int) (↑x_1 : Int) s.len)).len : Int)] = rmR s x y ∧ True)) ∧ ((((↑x : Int) =
(↑x_1 : Int) → False) → False) → (0 : Nat) + (1 : Nat) ≤ [D.int (0 : Int)].length ∧ (1 : Nat) ≤ (16777216 : Nat) ∧ ((-9223372036854775808 : Int) ≤ (↑x_1 : Int) + (1 : Int) ∧ (↑x_1 : Int) + (1 : Int) <
(9223372036854775808 : Int)) ∧ ((∃ (y : Nat), y = (0 : Nat) ∧ n.toNat - y < n.toNat - x_1 ∧ ((↑x_1 : Int) + (1 : Int) = (↑y : Int) ∧ False ∧ True) ∧ True) ∨ ∃ (y : Nat), ((0 : Nat) < y ∧ y ≤ n.toNat)
∧ n.toNat - y < n.toNat - x_1 ∧ ((↑x_1 : Int) + (1 : Int) = (↑y : Int) ∧ ((0 : Nat) = (0 : Nat) ∧ (1 : Nat) = y ∧ True) ∧ True) ∧ List.take (1 : Nat) [D.int (0 : Int)] = rmR s x y ∧ True))) ∧ (((↑x_1
: Int) < n → False) → (0 : Nat) + (1 : Nat) ≤ [D.nil].length ∧ (0 : Nat) + x ≤ (rmL s n.toNat x).length ∧ x + (1 : Nat) ≤ (16777216 : Nat) ∧ ((-9223372036854775808 : Int) ≤ (↑x : Int) + (1 : Int) ∧
(↑x : Int) + (1 : Int) < (9223372036854775808 : Int)) ∧ ((∃ (y : Nat), y = (0 : Nat) ∧ n.toNat - y < n.toNat - x ∧ ((↑x : Int) + (1 : Int) = (↑y : Int) ∧ False ∧ True) ∧ True) ∨ ∃ (y : Nat), ((0 :
Nat) < y ∧ y ≤ n.toNat) ∧ n.toNat - y < n.toNat - x ∧ ((↑x : Int) + (1 : Int) = (↑y : Int) ∧ ((0 : Nat) = (0 : Nat) ∧ x + (1 : Nat) = y ∧ True) ∧ True) ∧ List.take x (rmL s n.toNat x) ++ List.take (1
: Nat) [D.nil] = rmL s n.toNat y ∧ True))) ∧ ∀ (x_1 : Nat), (0 : Nat) < x_1 ∧ x_1 ≤ n.toNat → n.toNat - x_1 < LIM ∧ ((↑x_1 : Int) < n → (((↑x : Int) = (↑x_1 : Int) → False) → bigP s ∧ (0 : Nat) + (1 :
Nat) ≤ [D.int (↑(listD (rtS s (↑x : Int) (↑x_1 : Int) s.len)).len : Int)].length ∧ (0 : Nat) + x_1 ≤ (rmR s x x_1).length ∧ x_1 + (1 : Nat) ≤ (16777216 : Nat) ∧ ((-9223372036854775808 : Int) ≤ (↑x_1 :
Int) + (1 : Int) ∧ (↑x_1 : Int) + (1 : Int) < (9223372036854775808 : Int)) ∧ ((∃ (y : Nat), y = (0 : Nat) ∧ n.toNat - y < n.toNat - x_1 ∧ ((↑x_1 : Int) + (1 : Int) = (↑y : Int) ∧ False ∧ True) ∧ True)
∨ ∃ (y : Nat), ((0 : Nat) < y ∧ y ≤ n.toNat) ∧ n.toNat - y < n.toNat - x_1 ∧ ((↑x_1 : Int) + (1 : Int) = (↑y : Int) ∧ ((0 : Nat) = (0 : Nat) ∧ x_1 + (1 : Nat) = y ∧ True) ∧ True) ∧ List.take x_1 (rmR
s x x_1) ++ List.take (1 : Nat) [D.int (↑(listD (rtS s (↑x : Int) (↑x_1 : Int) s.len)).len : Int)] = rmR s x y ∧ True)) ∧ ((((↑x : Int) = (↑x_1 : Int) → False) → False) → (0 : Nat) + (1 : Nat) ≤
[D.int (0 : Int)].length ∧ (0 : Nat) + x_1 ≤ (rmR s x x_1).length ∧ x_1 + (1 : Nat) ≤ (16777216 : Nat) ∧ ((-9223372036854775808 : Int) ≤ (↑x_1 : Int) + (1 : Int) ∧ (↑x_1 : Int) + (1 : Int) <
(9223372036854775808 : Int)) ∧ ((∃ (y : Nat), y = (0 : Nat) ∧ n.toNat - y < n.toNat - x_1 ∧ ((↑x_1 : Int) + (1 : Int) = (↑y : Int) ∧ False ∧ True) ∧ True) ∨ ∃ (y : Nat), ((0 : Nat) < y ∧ y ≤ n.toNat)
∧ n.toNat - y < n.toNat - x_1 ∧ ((↑x_1 : Int) + (1 : Int) = (↑y : Int) ∧ ((0 : Nat) = (0 : Nat) ∧ x_1 + (1 : Nat) = y ∧ True) ∧ True) ∧ List.take x_1 (rmR s x x_1) ++ List.take (1 : Nat) [D.int (0 :
Int)] = rmR s x y ∧ True))) ∧ (((↑x_1 : Int) < n → False) → (0 : Nat) + x_1 ≤ (rmR s x x_1).length ∧ (0 : Nat) + (1 : Nat) ≤ [D.list (List.take x_1 (rmR s x x_1))].length ∧ (0 : Nat) + x ≤ (rmL s
n.toNat x).length ∧ x + (1 : Nat) ≤ (16777216 : Nat) ∧ ((-9223372036854775808 : Int) ≤ (↑x : Int) + (1 : Int) ∧ (↑x : Int) + (1 : Int) < (9223372036854775808 : Int)) ∧ ((∃ (y : Nat), y = (0 : Nat) ∧
n.toNat - y < n.toNat - x ∧ ((↑x : Int) + (1 : Int) = (↑y : Int) ∧ False ∧ True) ∧ True) ∨ ∃ (y : Nat), ((0 : Nat) < y ∧ y ≤ n.toNat) ∧ n.toNat - y < n.toNat - x ∧ ((↑x : Int) + (1 : Int) = (↑y : Int)
∧ ((0 : Nat) = (0 : Nat) ∧ x + (1 : Nat) = y ∧ True) ∧ True) ∧ List.take x (rmL s n.toNat x) ++ List.take (1 : Nat) [D.list (List.take x_1 (rmR s x x_1))] = rmL s n.toNat y ∧ True))) ∧ (((↑x : Int) <
n → False) → (0 : Nat) + x ≤ (rmL s n.toNat x).length ∧ D.list (List.take x (rmL s n.toNat x)) = D.list (rmL s n.toNat n.toNat))) := by intros; kernel_rfl
theorem rmR_succ (s : D) (x y : Nat) : rmR s x (y + 1) = rmR s x y ++ [.int (if x = y then 0 else ((rtS s x y s.len).length : Nat))] := by unfold rmR; rw [List.range_succ, List.map_append]; rfl
theorem rmR_len (s : D) (x y : Nat) : (rmR s x y).length = y := by unfold rmR; rw [List.length_map, List.length_range]
theorem rmL_succ (s : D) (n x : Nat) : rmL s n (x + 1) = rmL s n x ++ [.list (rmR s x n)] := by unfold rmL; rw [List.range_succ, List.map_append]; rfl
theorem rmL_len (s : D) (n x : Nat) : (rmL s n x).length = x := by unfold rmL; rw [List.length_map, List.length_range]
theorem rmV_ne {s : D} {x y : Nat} (h : (x : Int) = (y : Int) → False) : [D.int ((listD (rtS s x y s.len)).len : Nat)] = [.int (if x = y then 0 else ((rtS s x y s.len).length : Nat))] := by
 rw [listD_len, if_neg fun e => h (by rw [e])]
theorem rmV_eq {s : D} {x y : Nat} (h : ((x : Int) = (y : Int) → False) → False) : [D.int 0] = [.int (if x = y then 0 else ((rtS s x y s.len).length : Nat))] := by
 rw [if_pos (by have := Classical.not_not.1 h; omega)]
theorem s16r (n : Int) (s : D) (h : bigP s) (hn1 : 1 ≤ n) (hn2 : n ≤ 64) : symFun (ctx re2 reAnn) 3 16 [.int .i64 n, .dat 22 s] (.dat 26 (.list (rmL s n.toNat n.toNat))) := by
 rw [me16]
 refine ⟨.inl ⟨0, rfl, ⟨rfl, trivial, trivial⟩, trivial⟩, fun x hx => ⟨limS (by omega), fun hlt => ?_, fun hge => absurd (show (x : Int) < n by omega) (not_of hge)⟩, fun x ⟨hx1, hx2⟩ => ⟨limS (by omega), fun hlt => ?_, fun hge => ?_⟩⟩
 ·refine ⟨.inl ⟨0, rfl, ⟨rfl, trivial, trivial⟩, trivial⟩, fun y hy => ?_, fun y ⟨hy1, hy2⟩ => ⟨limS (by omega), fun hlt2 => ⟨fun hne => ⟨h, Nat.le_refl _, by rw [rmR_len]; omega, by omega, ⟨by omega, by omega⟩, .inr ⟨y + 1, ⟨by omega, by omega⟩, by omega, ⟨by omega, ⟨rfl, rfl, trivial⟩, trivial⟩, ?_, trivial⟩⟩, fun he => ⟨Nat.le_refl _, by rw [rmR_len]; omega, by omega, ⟨by omega, by omega⟩, .inr ⟨y + 1, ⟨by omega, by omega⟩, by omega, ⟨by omega, ⟨rfl, rfl, trivial⟩, trivial⟩, ?_, trivial⟩⟩⟩, fun hge2 => ?_⟩⟩
  ·subst hy
   exact ⟨limS (by omega), fun hlt2 => ⟨fun hne => ⟨h, Nat.le_refl _, by decide, ⟨by omega, by omega⟩, .inr ⟨1, ⟨by omega, by omega⟩, by omega, ⟨rfl, ⟨rfl, rfl, trivial⟩, trivial⟩, rmV_ne hne, trivial⟩⟩, fun he => ⟨Nat.le_refl _, by decide, ⟨by omega, by omega⟩, .inr ⟨1, ⟨by omega, by omega⟩, by omega, ⟨rfl, ⟨rfl, rfl, trivial⟩, trivial⟩, rmV_eq he, trivial⟩⟩⟩, fun hge2 => absurd hge2 (fun k => k (by omega))⟩
  ·rw [List.take_of_length_le (by rw [rmR_len]; exact Nat.le_refl _), rmR_succ]
   exact congrArg _ (rmV_ne hne)
  ·rw [List.take_of_length_le (by rw [rmR_len]; exact Nat.le_refl _), rmR_succ]
   exact congrArg _ (rmV_eq he)
  ·have ey : y = n.toNat := by have := not_of hge2; omega
   subst hx
   refine ⟨by rw [rmR_len]; omega, Nat.le_refl _, by decide, ⟨by omega, by omega⟩, .inr ⟨1, ⟨by omega, by omega⟩, by omega, ⟨rfl, ⟨rfl, rfl, trivial⟩, trivial⟩, ?_, trivial⟩⟩
   show [D.list (List.take y (rmR s 0 y))] = _
   rw [show List.take y (rmR s 0 y) = rmR s 0 y from List.take_of_length_le (by rw [rmR_len]; exact Nat.le_refl _), ey]; rfl
 ·refine ⟨.inl ⟨0, rfl, ⟨rfl, trivial, trivial⟩, trivial⟩, fun y hy => ?_, fun y ⟨hy1, hy2⟩ => ⟨limS (by omega), fun hlt2 => ⟨fun hne => ⟨h, Nat.le_refl _, by rw [rmR_len]; omega, by omega, ⟨by omega, by omega⟩, .inr ⟨y + 1, ⟨by omega, by omega⟩, by omega, ⟨by omega, ⟨rfl, rfl, trivial⟩, trivial⟩, ?_, trivial⟩⟩, fun he => ⟨Nat.le_refl _, by rw [rmR_len]; omega, by omega, ⟨by omega, by omega⟩, .inr ⟨y + 1, ⟨by omega, by omega⟩, by omega, ⟨by omega, ⟨rfl, rfl, trivial⟩, trivial⟩, ?_, trivial⟩⟩⟩, fun hge2 => ?_⟩⟩
  ·subst hy
   exact ⟨limS (by omega), fun hlt2 => ⟨fun hne => ⟨h, Nat.le_refl _, by decide, ⟨by omega, by omega⟩, .inr ⟨1, ⟨by omega, by omega⟩, by omega, ⟨rfl, ⟨rfl, rfl, trivial⟩, trivial⟩, rmV_ne hne, trivial⟩⟩, fun he => ⟨Nat.le_refl _, by decide, ⟨by omega, by omega⟩, .inr ⟨1, ⟨by omega, by omega⟩, by omega, ⟨rfl, ⟨rfl, rfl, trivial⟩, trivial⟩, rmV_eq he, trivial⟩⟩⟩, fun hge2 => absurd hge2 (fun k => k (by omega))⟩
  ·rw [List.take_of_length_le (by rw [rmR_len]; exact Nat.le_refl _), rmR_succ]
   exact congrArg _ (rmV_ne hne)
  ·rw [List.take_of_length_le (by rw [rmR_len]; exact Nat.le_refl _), rmR_succ]
   exact congrArg _ (rmV_eq he)
  ·have ey : y = n.toNat := by have := not_of hge2; omega
   refine ⟨by rw [rmR_len]; omega, Nat.le_refl _, by rw [rmL_len]; omega, by omega, ⟨by omega, by omega⟩, .inr ⟨x + 1, ⟨by omega, by omega⟩, by omega, ⟨by omega, ⟨rfl, rfl, trivial⟩, trivial⟩, ?_, trivial⟩⟩
   rw [List.take_of_length_le (show (rmR s x y).length ≤ y by rw [rmR_len]; exact Nat.le_refl _), List.take_of_length_le (show (rmL s n.toNat x).length ≤ x by rw [rmL_len]; exact Nat.le_refl _), ey, rmL_succ]; rfl
 ·have ex : x = n.toNat := by have := not_of hge; omega
  subst ex
  exact ⟨by rw [rmL_len]; omega, by rw [List.take_of_length_le (by rw [rmL_len]; exact Nat.le_refl _)]⟩
end Go.Ev
