/-
  Part of the engine that the claim is proved with: it states nothing of the document by itself.
-/
import Derived.Test.YtenmglepjkflhaaDoorCoreG32
import Derived.Test.YtenmglepjkflhaaDoorCoreG33
import Derived.Test.YtenmglepjkflhaaDoorCoreOnN
import Derived.Test.YtenmglepjkflhaaDoorCoreG31

section
open Go.Proofs
namespace Go.Ev
set_option maxRecDepth 100000
set_option maxHeartbeats 4000000
def mZ (n : Int) : Int := n + n.tmod (2 : Int)
def p2L (n : Int) (x : Nat) : List D := p2S n.toNat (mZ n).toNat x ++ List.replicate ((mZ n).toNat - (1 : Nat) - x) D.nil
def p2A2 (n : Int) (x : Nat) : List D := (p2L n x).set x (D.list [D.list (List.take (2 : Nat) [D.int (mZ n - (1 : Int)), D.int (↑x : Int)])])
def p2A1 (n : Int) (x : Nat) : List D := (p2A2 n x).set x (D.list [D.list (List.take (1 : Nat) [D.int (↑x : Int)])])
def inR2 (l : List D) (m e i : Nat) : List D := l.set e (D.list ((nthD l e).asList ++ p2R m e i))
def pairC (n : Int) (l0 : List D) (x : Nat) : Prop := (∃ (x_1 : Nat), ((1 : Nat) ≤ x_1 ∧ x_1 ≤ (mZ n).toNat / (2 : Nat)) ∧ ((1 : Int) = (↑x_1 : Int) ∧ True) ∧ l0 = (inR2 l0 (mZ n).toNat x x_1) ∧ True) ∧ ∀ (x_1 : Nat), (1
: Nat) ≤ x_1 ∧ x_1 ≤ (mZ n).toNat / (2 : Nat) → (mZ n).toNat / (2 : Nat) - x_1 < LIM ∧ ((2 : Int) = (0 : Int) → False) ∧ fits64 ((mZ n).tdiv (2 : Int)) ∧ ((↑x_1 : Int) < (mZ n).tdiv (2 : Int) → (0 : Int) ≤ (↑x : Int) ∧
(↑x : Int) < (↑(mZ n - (1 : Int)).toNat : Int) ∧ x < (inR2 l0 (mZ n).toNat x x_1).length ∧ (nthD (inR2 l0 (mZ n).toNat x x_1) x = D.nil → fits64 ((↑x : Int) + (↑x_1 : Int)) ∧ fits64 (mZ n - (1 : Int)) ∧ (mZ n - (1 : Int)
= (0 : Int) → False) ∧ fits64 ((↑x : Int) - (↑x_1 : Int)) ∧ fits64 ((↑x : Int) - (↑x_1 : Int) + (mZ n)) ∧ fits64 ((↑x : Int) - (↑x_1 : Int) + (mZ n) - (1 : Int)) ∧ fits64 (mZ n - (1 : Int)) ∧ (mZ n - (1 : Int) = (0 :
Int) → False) ∧ (0 : Nat) + (2 : Nat) ≤ [D.int (((↑x : Int) + (↑x_1 : Int)).tmod (mZ n - (1 : Int))), D.int (((↑x : Int) - (↑x_1 : Int) + (mZ n) - (1 : Int)).tmod (mZ n - (1 : Int)))].length ∧ (0 : Nat) + (1 : Nat) ≤
[D.list (List.take (2 : Nat) [D.int (((↑x : Int) + (↑x_1 : Int)).tmod (mZ n - (1 : Int))), D.int (((↑x : Int) - (↑x_1 : Int) + (mZ n) - (1 : Int)).tmod (mZ n - (1 : Int)))])].length ∧ (1 : Nat) ≤ (16777216 : Nat) ∧ (0 :
Int) ≤ (↑x : Int) ∧ (↑x : Int) < (↑(mZ n - (1 : Int)).toNat : Int) ∧ x < (inR2 l0 (mZ n).toNat x x_1).length ∧ True ∧ (0 : Nat) = (0 : Nat) ∧ (1 : Nat) = (List.take (1 : Nat) [D.list (List.take (2 : Nat) [D.int (((↑x :
Int) + (↑x_1 : Int)).tmod (mZ n - (1 : Int))), D.int (((↑x : Int) - (↑x_1 : Int) + (mZ n) - (1 : Int)).tmod (mZ n - (1 : Int)))])]).length ∧ True ∧ fits64 ((↑x_1 : Int) + (1 : Int)) ∧ ∃ (y : Nat), ((1 : Nat) ≤ y ∧ y ≤
(mZ n).toNat / (2 : Nat)) ∧ (mZ n).toNat / (2 : Nat) - y < (mZ n).toNat / (2 : Nat) - x_1 ∧ ((↑x_1 : Int) + (1 : Int) = (↑y : Int) ∧ True) ∧ (inR2 l0 (mZ n).toNat x x_1).set x (D.list (List.take (1 : Nat) [D.list
(List.take (2 : Nat) [D.int (((↑x : Int) + (↑x_1 : Int)).tmod (mZ n - (1 : Int))), D.int (((↑x : Int) - (↑x_1 : Int) + (mZ n) - (1 : Int)).tmod (mZ n - (1 : Int)))])])) = l0.set x (D.list ((nthD l0 x).asList ++ p2R (mZ
n).toNat x y)) ∧ True) ∧ (∀ (r : List D), nthD (inR2 l0 (mZ n).toNat x x_1) x = D.list r → fits64 ((↑x : Int) + (↑x_1 : Int)) ∧ fits64 (mZ n - (1 : Int)) ∧ (mZ n - (1 : Int) = (0 : Int) → False) ∧ fits64 ((↑x : Int) -
(↑x_1 : Int)) ∧ fits64 ((↑x : Int) - (↑x_1 : Int) + (mZ n)) ∧ fits64 ((↑x : Int) - (↑x_1 : Int) + (mZ n) - (1 : Int)) ∧ fits64 (mZ n - (1 : Int)) ∧ (mZ n - (1 : Int) = (0 : Int) → False) ∧ (0 : Nat) + (2 : Nat) ≤ [D.int
(((↑x : Int) + (↑x_1 : Int)).tmod (mZ n - (1 : Int))), D.int (((↑x : Int) - (↑x_1 : Int) + (mZ n) - (1 : Int)).tmod (mZ n - (1 : Int)))].length ∧ x < (inR2 l0 (mZ n).toNat x x_1).length ∧ r.length = (nthD (inR2 l0 (mZ
n).toNat x x_1) x).len ∧ (∃ (r : List D), nthD (inR2 l0 (mZ n).toNat x x_1) x = D.list r) ∧ Nat.le (1 : Nat) (1 : Nat) ∧ (0 : Nat) + (1 : Nat) ≤ [D.list (List.take (2 : Nat) [D.int (((↑x : Int) + (↑x_1 : Int)).tmod (mZ n
- (1 : Int))), D.int (((↑x : Int) - (↑x_1 : Int) + (mZ n) - (1 : Int)).tmod (mZ n - (1 : Int)))])].length ∧ (0 : Nat) + r.length ≤ (nthD (inR2 l0 (mZ n).toNat x x_1) x).asList.length ∧ r.length + (1 : Nat) ≤ (16777216 :
Nat) ∧ (0 : Int) ≤ (↑x : Int) ∧ (↑x : Int) < (↑(mZ n - (1 : Int)).toNat : Int) ∧ x < ((inR2 l0 (mZ n).toNat x x_1).set x (D.int (0 : Int))).length ∧ True ∧ (0 : Nat) = (0 : Nat) ∧ r.length + (1 : Nat) = (List.take
r.length (nthD (inR2 l0 (mZ n).toNat x x_1) x).asList ++ List.take (1 : Nat) [D.list (List.take (2 : Nat) [D.int (((↑x : Int) + (↑x_1 : Int)).tmod (mZ n - (1 : Int))), D.int (((↑x : Int) - (↑x_1 : Int) + (mZ n) - (1 :
Int)).tmod (mZ n - (1 : Int)))])]).length ∧ True ∧ fits64 ((↑x_1 : Int) + (1 : Int)) ∧ ∃ (y : Nat), ((1 : Nat) ≤ y ∧ y ≤ (mZ n).toNat / (2 : Nat)) ∧ (mZ n).toNat / (2 : Nat) - y < (mZ n).toNat / (2 : Nat) - x_1 ∧ ((↑x_1
: Int) + (1 : Int) = (↑y : Int) ∧ True) ∧ ((inR2 l0 (mZ n).toNat x x_1).set x (D.int (0 : Int))).set x (D.list (List.take r.length (nthD (inR2 l0 (mZ n).toNat x x_1) x).asList ++ List.take (1 : Nat) [D.list (List.take (2
: Nat) [D.int (((↑x : Int) + (↑x_1 : Int)).tmod (mZ n - (1 : Int))), D.int (((↑x : Int) - (↑x_1 : Int) + (mZ n) - (1 : Int)).tmod (mZ n - (1 : Int)))])])) = l0.set x (D.list ((nthD l0 x).asList ++ p2R (mZ n).toNat x y))
∧ True) ∧ ∀ (n_1 : Int), nthD (inR2 l0 (mZ n).toNat x x_1) x = D.int n_1 → False) ∧ (((↑x_1 : Int) < (mZ n).tdiv (2 : Int) → False) → fits64 ((↑x : Int) + (1 : Int)) ∧ ∃ (y : Nat), y.le ((mZ n).toNat - (1 : Nat)) ∧ (mZ
n).toNat - (1 : Nat) - y < (mZ n).toNat - (1 : Nat) - x ∧ ((↑x : Int) + (1 : Int) = (↑y : Int) ∧ True) ∧ (inR2 l0 (mZ n).toNat x x_1) = p2S n.toNat (mZ n).toNat y ++ List.replicate ((mZ n).toNat - (1 : Nat) - y) D.nil ∧
True)
theorem vc19 : ∀ (n : Int), symFun (ctx cc0 prAnn) 4 (16 : FuncId) [V.int IntKind.i64 n] (V.tup [V.dat (24 : TypeId) (D.list (p2S n.toNat (evM n.toNat) (evM n.toNat - 1))), V.int IntKind.i64 0]) = (((n < 2 → False) → (64
< n → D.nil = D.list (p2S n.toNat (evM n.toNat) (evM n.toNat - 1)) ∧ (90 : Int) = 0 ∧ True) ∧ ((64 < n → False) → ((2 : Int) = 0 → False) ∧ fits64 (mZ n) ∧ fits64 (mZ n - 1) ∧ 0 ≤ mZ n - 1 ∧ mZ n - 1 ≤ mZ n - 1 ∧ mZ n -
1 ≤ 16777216 ∧ 24 * (mZ n - 1).toNat ≤ 281474976710656 ∧ (∃ (x : Nat), x.le ((mZ n).toNat - 1) ∧ (0 = (x : Int) ∧ True) ∧ (List.replicate (mZ n - 1).toNat D.nil = (p2L n x) ∧ allNil (List.replicate (mZ n - 1).toNat
D.nil)) ∧ True) ∧ ∀ (x : Nat), x.le ((mZ n).toNat - 1) → (mZ n).toNat - 1 - x < LIM ∧ ((x : Int) < (↑(mZ n - 1).toNat : Int) → fits64 (mZ n - 1) ∧ 0 + 2 ≤ [D.int (mZ n - 1), D.int (x : Int)].length ∧ 0 ≤ (x : Int) ∧ (x :
Int) < (↑(mZ n - 1).toNat : Int) ∧ x < (p2L n x).length ∧ True ∧ (0 : Nat) = 0 ∧ 1 = [D.list (List.take 2 [D.int (mZ n - 1), D.int (x : Int)])].length ∧ (1 : Nat) = 1 ∧ (n < mZ n → 0 + 1 ≤ [D.int (x : Int)].length ∧ 0 ≤
(x : Int) ∧ (x : Int) < (↑(mZ n - 1).toNat : Int) ∧ x < (p2A2 n x).length ∧ True ∧ (0 : Nat) = 0 ∧ 1 = [D.list (List.take 1 [D.int (x : Int)])].length ∧ (1 : Nat) = 1 ∧ pairC n (p2A1 n x) x) ∧ ((n < mZ n → False) → pairC
n (p2A2 n x) x)) ∧ (((x : Int) < (↑(mZ n - 1).toNat : Int) → False) → (0 + (mZ n - 1).toNat ≤ (p2L n x).length ∧ noHole (p2L n x) ∧ (isSliceT (ctx cc0 prAnn).P (33 : TypeId) = true ∧ sizeIs (ctx cc0 prAnn).P (33 :
TypeId) 1 = true) ∧ D.list (List.take (mZ n - 1).toNat (p2L n x)) = D.list (p2S n.toNat (evM n.toNat) (evM n.toNat - 1))) ∧ (0 : Int) = 0 ∧ True))) ∧ (n < 2 → D.nil = D.list (p2S n.toNat (evM n.toNat) (evM n.toNat - 1))
∧ (90 : Int) = 0 ∧ True)) := by intros; kernel_rfl
theorem p2R_succ (m e : Nat) {i : Nat} (h : 1 ≤ i) : p2R m e (i + 1) = p2R m e i ++ [.list [.int (p2A m e i : Nat), .int (p2B m e i : Nat)]] := by
 obtain ⟨j, rfl⟩ : ∃ j, i = j + 1 := ⟨i - 1, by omega⟩
 unfold p2R
 rw [Nat.add_sub_cancel, Nat.add_sub_cancel, List.range_succ, List.map_append]; rfl
theorem p2R_len (m e i : Nat) : (p2R m e i).length = i - 1 := by unfold p2R; rw [List.length_map, List.length_range]
theorem p2A_int {m e i : Nat} (hm : 2 ≤ m) : ((e : Int) + (i : Int)).tmod ((m - 1 : Nat) : Int) = ((p2A m e i : Nat) : Int) := by
 rw [Int.tmod_eq_emod_of_nonneg (by omega)]
 unfold p2A
 rw [Int.natCast_emod, Int.natCast_add]
theorem p2B_int {m e i : Nat} (hm : 2 ≤ m) (hi : i ≤ e + m - 1) : ((e : Int) - (i : Int) + (m : Int) - 1).tmod ((m - 1 : Nat) : Int) = ((p2B m e i : Nat) : Int) := by
 rw [Int.tmod_eq_emod_of_nonneg (by omega), show (e : Int) - (i : Int) + (m : Int) - 1 = ((e + m - 1 - i : Nat) : Int) by omega]
 unfold p2B
 rw [Int.natCast_emod]
theorem robin_ok {n : Int} {l0 : List D} {x M : Nat} {F : D} (hM : mZ n = (M : Int)) (h2 : 2 ≤ M) (h64 : M ≤ 64) (hx : x < M - 1) (hl : l0.length = M - 1) (hr : nthD l0 x = .list [F])
  (hfin : l0.set x (.list ([F] ++ p2R M x (M / 2))) = p2S n.toNat M (x + 1) ++ List.replicate (M - 1 - (x + 1)) D.nil) : pairC n l0 x := by
 unfold pairC
 have hset : ∀ d, l0.set x d = l0.set x d := fun _ => rfl
 have hrow : ∀ i, inR2 l0 M x i = l0.set x (.list ([F] ++ p2R M x i)) := fun i => by unfold inR2; rw [hr]; rfl
 have hil : ∀ i, (inR2 l0 M x i).length = M - 1 := fun i => by rw [hrow, List.length_set, hl]
 have hat : ∀ i, nthD (inR2 l0 M x i) x = .list ([F] ++ p2R M x i) := fun i => by rw [hrow, nthD_set _ _ _ _ (by omega), if_pos rfl]
 have hM1 : (M : Int) - 1 = ((M - 1 : Nat) : Int) := by omega
 have hd : (M : Int).tdiv 2 = ((M / 2 : Nat) : Int) := by rw [Int.tdiv_eq_ediv_of_nonneg (by omega)]; omega
 rw [hM, hM1, hd, Int.toNat_natCast, Int.toNat_natCast, hr]
 have h0 : l0 = inR2 l0 M x 1 := by
  rw [hrow]
  show l0 = l0.set x (.list [F])
  apply List.ext_getElem (by rw [List.length_set])
  intro i h1 h2
  rw [List.getElem_set]
  split
  ·rename_i e
   subst e
   have : nthD l0 x = l0[x] := by unfold nthD; rw [List.getElem?_eq_getElem h1]; rfl
   rw [← this, hr]
  ·rfl
 refine ⟨⟨1, ⟨Nat.le_refl _, by omega⟩, ⟨rfl, trivial⟩, h0, trivial⟩, fun i ⟨hi1, hi2⟩ => ?_⟩
 refine ⟨limS (by omega), fun h => by omega, ⟨by omega, by omega⟩, fun hlt => ?_, fun hge => ?_⟩
 ·have hi3 : i < M / 2 := by omega
  have eA := p2A_int (m := M) (e := x) (i := i) h2
  have eB := p2B_int (m := M) (e := x) (i := i) h2 (by omega)
  rw [eA, eB, hil, hat]
  have hlr : ([F] ++ p2R M x i).length = i := by rw [List.length_append, p2R_len]; show 1 + (i - 1) = i; omega
  refine ⟨by omega, by omega, by omega, (by intro h; cases h), fun r hrr => ?_, fun _ h => by cases h⟩
  cases hrr
  have hs0 : ((inR2 l0 M x i).set x (D.int (0 : Int))).length = M - 1 := by rw [List.length_set, hil]
  refine ⟨⟨by omega, by omega⟩, ⟨by omega, by omega⟩, fun h => by omega, ⟨by omega, by omega⟩, ⟨by omega, by omega⟩, ⟨by omega, by omega⟩, ⟨by omega, by omega⟩, fun h => by omega, Nat.le_refl _, by omega, rfl, ⟨_, rfl⟩, Nat.le_refl _, Nat.le_refl _, by show 0 + ([F] ++ p2R M x i).length ≤ ([F] ++ p2R M x i).length; omega, by omega, by omega, by omega, by rw [hs0]; omega, trivial, rfl, ?_, trivial, ⟨by omega, by omega⟩, i + 1, ⟨by omega, by omega⟩, by omega, ⟨by omega, trivial⟩, ?_, trivial⟩
  ·show _ = (List.take ([F] ++ p2R M x i).length ([F] ++ p2R M x i) ++ List.take 1 _).length
   rw [List.take_of_length_le (Nat.le_refl _), hlr]
   simp only [List.length_append, List.length_take, p2R_len]
   simp; omega
  ·show ((inR2 l0 M x i).set x (D.int 0)).set x (.list (List.take ([F] ++ p2R M x i).length ([F] ++ p2R M x i) ++ List.take 1 _)) = l0.set x (.list ([F] ++ p2R M x (i + 1)))
   rw [List.take_of_length_le (Nat.le_refl _), hrow, List.set_set, List.set_set, p2R_succ M x hi1, List.append_assoc]; rfl
 ·have hge := not_of hge
  have ei : i = M / 2 := by omega
  subst ei
  exact ⟨⟨by omega, by omega⟩, x + 1, by show x + 1 ≤ _; omega, by omega, ⟨by omega, trivial⟩, by rw [hrow]; exact hfin, trivial⟩
theorem p2S_len (n m x : Nat) : (p2S n m x).length = x := by unfold p2S; rw [List.length_map, List.length_range]
theorem p2S_next {n M x : Nat} (h : x < M - 1) : (p2S n M x ++ List.replicate (M - 1 - x) D.nil).set x (.list (p2E n M x)) = p2S n M (x + 1) ++ List.replicate (M - 1 - (x + 1)) D.nil := by
 have e : M - 1 - x = M - 1 - (x + 1) + 1 := by omega
 rw [List.set_append_right _ _ (by rw [p2S_len]; exact Nat.le_refl _), p2S_len, Nat.sub_self, e, List.replicate_succ, List.set_cons_zero]
 unfold p2S
 rw [List.range_succ, List.map_append, List.append_assoc]
 rfl
theorem sl19 : isSliceT (ctx cc0 prAnn).P (33 : TypeId) = true ∧ sizeIs (ctx cc0 prAnn).P (33 : TypeId) (1 : Nat) = true := by constructor <;> kernel_rfl
theorem s19 (n : Int) (hn1 : 2 ≤ n) (hn2 : n ≤ 64) : symFun (ctx cc0 prAnn) 4 16 [.int .i64 n] (.tup [.dat 24 (.list (p2S n.toNat (evM n.toNat) (evM n.toNat - 1))), .int .i64 0]) := by
 rw [vc19]
 obtain ⟨N, rfl⟩ : ∃ N : Nat, n = N := ⟨n.toNat, by omega⟩
 have hM : mZ (N : Int) = ((evM N : Nat) : Int) := by
  unfold mZ evM
  rw [Int.tmod_eq_emod_of_nonneg (by omega)]; omega
 have hm2 : 2 ≤ evM N := by unfold evM; omega
 have hm64 : evM N ≤ 64 := by unfold evM; omega
 have hL : ∀ x, p2L (N : Int) x = p2S N (evM N) x ++ List.replicate (evM N - 1 - x) D.nil := fun x => by unfold p2L; rw [hM]; rfl
 have hLl : ∀ x, x ≤ evM N - 1 → (p2L (N : Int) x).length = evM N - 1 := fun x hx => by rw [hL, List.length_append, p2S_len, List.length_replicate]; omega
 have hM1 : ((evM N : Nat) : Int) - 1 = ((evM N - 1 : Nat) : Int) := by omega
 refine ⟨fun _ => ⟨fun h => by omega, fun _ => ⟨fun h => by omega, ?_⟩⟩, fun h => by omega⟩
 rw [hM, hM1, Int.toNat_natCast, Int.toNat_natCast, Int.toNat_natCast]
 refine ⟨⟨by omega, by omega⟩, ⟨by omega, by omega⟩, by omega, Int.le_refl _, by omega, by omega, ⟨0, Nat.zero_le _, ⟨rfl, trivial⟩, ⟨by rw [hL]; rfl, allNil_rep _⟩, trivial⟩, fun x hx => ?_⟩
 have hx : x ≤ evM N - 1 := hx
 have hlx := hLl x hx
 refine ⟨limS (by omega), fun hlt => ?_, fun hge => ?_⟩
 ·have hxM : x < evM N - 1 := by omega
  have e2 : p2A2 (N : Int) x = (p2L (N : Int) x).set x (.list [.list [.int ((evM N - 1 : Nat) : Int), .int (x : Int)]]) := by unfold p2A2; rw [hM, hM1]; rfl
  have e1 : p2A1 (N : Int) x = (p2L (N : Int) x).set x (.list [.list [.int (x : Int)]]) := by unfold p2A1; rw [e2, List.set_set]; rfl
  have l2 : (p2A2 (N : Int) x).length = evM N - 1 := by rw [e2, List.length_set, hlx]
  have l1 : (p2A1 (N : Int) x).length = evM N - 1 := by rw [e1, List.length_set, hlx]
  refine ⟨⟨by omega, by omega⟩, Nat.le_refl _, by omega, hlt, by rw [hlx]; exact hxM, trivial, rfl, rfl, rfl, fun hodd => ⟨Nat.le_refl _, by omega, hlt, by rw [l2]; exact hxM, trivial, rfl, rfl, rfl, ?_⟩, fun heven => ?_⟩
  ·refine robin_ok (F := .list [.int (x : Int)]) hM hm2 hm64 hxM l1 (by rw [e1, nthD_set _ _ _ _ (by rw [hlx]; exact hxM), if_pos rfl]) ?_
   rw [e1, List.set_set, hL]
   have : p2E N (evM N) x = [.list [.int (x : Int)]] ++ p2R (evM N) x (evM N / 2) := by unfold p2E p2F; rw [if_pos (by omega)]; rfl
   rw [← this]
   exact p2S_next hxM
  ·refine robin_ok (F := .list [.int ((evM N - 1 : Nat) : Int), .int (x : Int)]) hM hm2 hm64 hxM l2 (by rw [e2, nthD_set _ _ _ _ (by rw [hlx]; exact hxM), if_pos rfl]) ?_
   rw [e2, List.set_set, hL]
   have heven := not_of heven
   have : p2E N (evM N) x = [.list [.int ((evM N - 1 : Nat) : Int), .int (x : Int)]] ++ p2R (evM N) x (evM N / 2) := by unfold p2E p2F; rw [if_neg (by omega)]; rfl
   rw [← this]
   exact p2S_next hxM
 ·have hge := not_of hge
  have ex : x = evM N - 1 := by omega
  subst ex
  have eL : p2L (N : Int) (evM N - 1) = p2S N (evM N) (evM N - 1) := by rw [hL, Nat.sub_self, List.replicate_zero, List.append_nil]
  rw [eL]
  refine ⟨⟨by rw [p2S_len]; omega, ⟨fun k h => by obtain ⟨i, _, e⟩ := List.mem_map.1 h; cases e⟩, sl19, by rw [List.take_of_length_le (by rw [p2S_len]; exact Nat.le_refl _)]⟩, rfl, trivial⟩
theorem vc39r : ∀ (a n : Int), symFun (ctx cc0 plAnn) 3 (39 : FuncId) [V.int IntKind.i64 a, V.int IntKind.i64 n] (V.dat (25 : TypeId) (D.list (List.map (fun (i : Nat) => D.int (a + (i : Int))) (List.range n.toNat)))) =
(0 ≤ n ∧ n ≤ n ∧ n ≤ 16777216 ∧ 8 * n.toNat ≤ 281474976710656 ∧ (∃ (x : Nat), x.le n.toNat ∧ (0 = (x : Int) ∧ True) ∧ List.replicate n.toNat (D.int 0) = rowN a n.toNat x ∧ True) ∧ ∀ (x : Nat), x.le n.toNat → n.toNat - x
< LIM ∧ ((x : Int) < (n.toNat : Int) → fits64 (a + (x : Int)) ∧ 0 ≤ (x : Int) ∧ (x : Int) < (n.toNat : Int) ∧ x < (rowN a n.toNat x).length ∧ fits64 ((x : Int) + 1) ∧ ∃ (y : Nat), y.le n.toNat ∧ n.toNat - y < n.toNat - x
∧ ((x : Int) + 1 = (y : Int) ∧ True) ∧ (rowN a n.toNat x).set x (D.int (a + (x : Int))) = rowN a n.toNat y ∧ True) ∧ (((x : Int) < (n.toNat : Int) → False) → 0 + n.toNat ≤ (rowN a n.toNat x).length ∧ D.list (List.take
n.toNat (rowN a n.toNat x)) = D.list (List.map (fun (i : Nat) => D.int (a + (i : Int))) (List.range n.toNat)))) := by intros; kernel_rfl
theorem vc17p : ∀ (q : Int), symFun (ctx pl1 plAnn) 4 (17 : FuncId) [V.int IntKind.i64 q] (V.tup [V.dat (24 : TypeId) (D.list (plS q.toNat)), V.int IntKind.i64 0]) = (fldP q ∧ (((True → False) → False) → ((q < 1 → False)
→ ((q < q → False) → fits64 (q * q) ∧ (64 < q * q → D.nil = D.list (plS q.toNat) ∧ (90 : Int) = 0 ∧ True) ∧ ((64 < q * q → False) → 0 ≤ q ∧ q ≤ q ∧ q ≤ 16777216 ∧ 24 * q.toNat ≤ 281474976710656 ∧ (∃ (x : Nat), x.le
q.toNat ∧ (0 = (x : Int) ∧ True) ∧ (List.replicate q.toNat D.nil = nK q q x ∧ allNil (List.replicate q.toNat D.nil)) ∧ True) ∧ ∀ (x : Nat), x.le q.toNat → q.toNat - x < LIM ∧ ((x : Int) < q → (∃ (x_1 : Nat), x_1.le
q.toNat ∧ (0 = (x_1 : Int) ∧ True) ∧ nK q q x = nJ q q x x_1 ∧ True) ∧ ∀ (x_1 : Nat), x_1.le q.toNat → q.toNat - x_1 < LIM ∧ ((x_1 : Int) < q → ((∃ (x : Nat), x = 0 ∧ (0 = (x : Int) ∧ True ∧ True) ∧ True) ∨ ∃ (x : Nat),
(0 < x ∧ x ≤ q.toNat) ∧ (0 = (x : Int) ∧ False ∧ True) ∧ False ∧ True) ∧ (∀ (x_2 : Nat), x_2 = 0 → q.toNat - x_2 < LIM ∧ ((x_2 : Int) < q → fits64 ((x_2 : Int) * q) ∧ (fldP q ∧ fpZ q = fpZ q ∧ frZ q = frZ q ∧ eltP q (x :
Int) ∧ eltP q (x_2 : Int)) ∧ (fldP q ∧ fpZ q = fpZ q ∧ frZ q = frZ q ∧ (1 : Int) = 1 ∧ eltP q (mulZ q (x : Int) (x_2 : Int)) ∧ eltP q (x_1 : Int)) ∧ fits64 ((x_2 : Int) * q + addZ q (mulZ q (x : Int) (x_2 : Int)) (x_1 :
Int)) ∧ 0 + 1 ≤ [D.int ((x_2 : Int) * q + addZ q (mulZ q (x : Int) (x_2 : Int)) (x_1 : Int))].length ∧ (1 : Nat) ≤ 16777216 ∧ fits64 ((x_2 : Int) + 1) ∧ ((∃ (y : Nat), y = 0 ∧ q.toNat - y < q.toNat - x_2 ∧ ((x_2 : Int) +
1 = (y : Int) ∧ False ∧ True) ∧ True) ∨ ∃ (y : Nat), (0 < y ∧ y ≤ q.toNat) ∧ q.toNat - y < q.toNat - x_2 ∧ ((x_2 : Int) + 1 = (y : Int) ∧ ((0 : Nat) = 0 ∧ 1 = y ∧ True) ∧ True) ∧ List.take 1 [D.int ((x_2 : Int) * q +
addZ q (mulZ q (x : Int) (x_2 : Int)) (x_1 : Int))] = netT q.toNat x x_1 y ∧ True)) ∧ (((x_2 : Int) < q → False) → 0 ≤ (x : Int) ∧ (x : Int) < (q.toNat : Int) ∧ x < (nJ q q x x_1).length ∧ (nthD (nJ q q x x_1) x = D.nil
→ 0 + 1 ≤ [D.nil].length ∧ (1 : Nat) ≤ 16777216 ∧ 0 ≤ (x : Int) ∧ (x : Int) < (q.toNat : Int) ∧ x < (nJ q q x x_1).length ∧ True ∧ (0 : Nat) = 0 ∧ 1 = (List.take 1 [D.nil]).length ∧ True ∧ fits64 ((x_1 : Int) + 1) ∧ ∃ (y
: Nat), y.le q.toNat ∧ q.toNat - y < q.toNat - x_1 ∧ ((x_1 : Int) + 1 = (y : Int) ∧ True) ∧ (nJ q q x x_1).set x (D.list (List.take 1 [D.nil])) = netI (nK q q x) q.toNat q.toNat x y ∧ True) ∧ (∀ (r : List D), nthD (nJ q
q x x_1) x = D.list r → x < (nJ q q x x_1).length ∧ r.length = (nthD (nJ q q x x_1) x).len ∧ (∃ (r : List D), nthD (nJ q q x x_1) x = D.list r) ∧ Nat.le 1 1 ∧ 0 + 1 ≤ [D.nil].length ∧ 0 + r.length ≤ (nthD (nJ q q x x_1)
x).asList.length ∧ r.length + 1 ≤ 16777216 ∧ 0 ≤ (x : Int) ∧ (x : Int) < (q.toNat : Int) ∧ x < ((nJ q q x x_1).set x (D.int 0)).length ∧ True ∧ (0 : Nat) = 0 ∧ r.length + 1 = (List.take r.length (nthD (nJ q q x x_1)
x).asList ++ List.take 1 [D.nil]).length ∧ True ∧ fits64 ((x_1 : Int) + 1) ∧ ∃ (y : Nat), y.le q.toNat ∧ q.toNat - y < q.toNat - x_1 ∧ ((x_1 : Int) + 1 = (y : Int) ∧ True) ∧ ((nJ q q x x_1).set x (D.int 0)).set x (D.list
(List.take r.length (nthD (nJ q q x x_1) x).asList ++ List.take 1 [D.nil])) = netI (nK q q x) q.toNat q.toNat x y ∧ True) ∧ ∀ (n : Int), nthD (nJ q q x x_1) x = D.int n → False)) ∧ ∀ (x_2 : Nat), 0 < x_2 ∧ x_2 ≤ q.toNat
→ q.toNat - x_2 < LIM ∧ ((x_2 : Int) < q → fits64 ((x_2 : Int) * q) ∧ (fldP q ∧ fpZ q = fpZ q ∧ frZ q = frZ q ∧ eltP q (x : Int) ∧ eltP q (x_2 : Int)) ∧ (fldP q ∧ fpZ q = fpZ q ∧ frZ q = frZ q ∧ (1 : Int) = 1 ∧ eltP q
(mulZ q (x : Int) (x_2 : Int)) ∧ eltP q (x_1 : Int)) ∧ fits64 ((x_2 : Int) * q + addZ q (mulZ q (x : Int) (x_2 : Int)) (x_1 : Int)) ∧ 0 + 1 ≤ [D.int ((x_2 : Int) * q + addZ q (mulZ q (x : Int) (x_2 : Int)) (x_1 :
Int))].length ∧ 0 + x_2 ≤ (netT q.toNat x x_1 x_2).length ∧ x_2 + 1 ≤ 16777216 ∧ fits64 ((x_2 : Int) + 1) ∧ ((∃ (y : Nat), y = 0 ∧ q.toNat - y < q.toNat - x_2 ∧ ((x_2 : Int) + 1 = (y : Int) ∧ False ∧ True) ∧ True) ∨ ∃ (y
: Nat), (0 < y ∧ y ≤ q.toNat) ∧ q.toNat - y < q.toNat - x_2 ∧ ((x_2 : Int) + 1 = (y : Int) ∧ ((0 : Nat) = 0 ∧ x_2 + 1 = y ∧ True) ∧ True) ∧ List.take x_2 (netT q.toNat x x_1 x_2) ++ List.take 1 [D.int ((x_2 : Int) * q +
addZ q (mulZ q (x : Int) (x_2 : Int)) (x_1 : Int))] = netT q.toNat x x_1 y ∧ True)) ∧ (((x_2 : Int) < q → False) → 0 ≤ (x : Int) ∧ (x : Int) < (q.toNat : Int) ∧ x < (nJ q q x x_1).length ∧ (nthD (nJ q q x x_1) x = D.nil
→ 0 + x_2 ≤ (netT q.toNat x x_1 x_2).length ∧ 0 + 1 ≤ [D.list (List.take x_2 (netT q.toNat x x_1 x_2))].length ∧ (1 : Nat) ≤ 16777216 ∧ 0 ≤ (x : Int) ∧ (x : Int) < (q.toNat : Int) ∧ x < (nJ q q x x_1).length ∧ True ∧ (0
: Nat) = 0 ∧ 1 = (List.take 1 [D.list (List.take x_2 (netT q.toNat x x_1 x_2))]).length ∧ True ∧ fits64 ((x_1 : Int) + 1) ∧ ∃ (y : Nat), y.le q.toNat ∧ q.toNat - y < q.toNat - x_1 ∧ ((x_1 : Int) + 1 = (y : Int) ∧ True) ∧
(nJ q q x x_1).set x (D.list (List.take 1 [D.list (List.take x_2 (netT q.toNat x x_1 x_2))])) = netI (nK q q x) q.toNat q.toNat x y ∧ True) ∧ (∀ (r : List D), nthD (nJ q q x x_1) x = D.list r → 0 + x_2 ≤ (netT q.toNat x
x_1 x_2).length ∧ x < (nJ q q x x_1).length ∧ r.length = (nthD (nJ q q x x_1) x).len ∧ (∃ (r : List D), nthD (nJ q q x x_1) x = D.list r) ∧ Nat.le 1 1 ∧ 0 + 1 ≤ [D.list (List.take x_2 (netT q.toNat x x_1 x_2))].length ∧
0 + r.length ≤ (nthD (nJ q q x x_1) x).asList.length ∧ r.length + 1 ≤ 16777216 ∧ 0 ≤ (x : Int) ∧ (x : Int) < (q.toNat : Int) ∧ x < ((nJ q q x x_1).set x (D.int 0)).length ∧ True ∧ (0 : Nat) = 0 ∧ r.length + 1 =
(List.take r.length (nthD (nJ q q x x_1) x).asList ++ List.take 1 [D.list (List.take x_2 (netT q.toNat x x_1 x_2))]).length ∧ True ∧ fits64 ((x_1 : Int) + 1) ∧ ∃ (y : Nat), y.le q.toNat ∧ q.toNat - y < q.toNat - x_1 ∧
((x_1 : Int) + 1 = (y : Int) ∧ True) ∧ ((nJ q q x x_1).set x (D.int 0)).set x (D.list (List.take r.length (nthD (nJ q q x x_1) x).asList ++ List.take 1 [D.list (List.take x_2 (netT q.toNat x x_1 x_2))])) = netI (nK q q
x) q.toNat q.toNat x y ∧ True) ∧ ∀ (n : Int), nthD (nJ q q x x_1) x = D.int n → False)) ∧ (((x_1 : Int) < q → False) → fits64 ((x : Int) + 1) ∧ ∃ (y : Nat), y.le q.toNat ∧ q.toNat - y < q.toNat - x ∧ ((x : Int) + 1 = (y
: Int) ∧ True) ∧ nJ q q x x_1 = netS q.toNat q.toNat y ++ List.replicate (q.toNat - y) D.nil ∧ True)) ∧ (((x : Int) < q → False) → ((∃ (x : Nat), x = 0 ∧ (0 = (x : Int) ∧ True ∧ True) ∧ True) ∨ ∃ (x : Nat), (0 < x ∧ x ≤
q.toNat) ∧ (0 = (x : Int) ∧ False ∧ True) ∧ False ∧ True) ∧ (∀ (x_1 : Nat), x_1 = 0 → q.toNat - x_1 < LIM ∧ ((x_1 : Int) < q → fits64 ((x_1 : Int) * q) ∧ ((0 ≤ (x_1 : Int) * q ∧ (x_1 : Int) * q ≤ 64) ∧ 1 ≤ q ∧ q ≤ 64) ∧
0 + 1 ≤ [D.list (List.map (fun (i : Nat) => D.int ((x_1 : Int) * q + (i : Int))) (List.range q.toNat))].length ∧ (1 : Nat) ≤ 16777216 ∧ fits64 ((x_1 : Int) + 1) ∧ ((∃ (y : Nat), y = 0 ∧ q.toNat - y < q.toNat - x_1 ∧
((x_1 : Int) + 1 = (y : Int) ∧ False ∧ True) ∧ True) ∨ ∃ (y : Nat), (0 < y ∧ y ≤ q.toNat) ∧ q.toNat - y < q.toNat - x_1 ∧ ((x_1 : Int) + 1 = (y : Int) ∧ ((0 : Nat) = 0 ∧ 1 = y ∧ True) ∧ True) ∧ List.take 1 [D.list
(List.map (fun (i : Nat) => D.int ((x_1 : Int) * q + (i : Int))) (List.range q.toNat))] = rwE q.toNat y ∧ True)) ∧ (((x_1 : Int) < q → False) → noHole (nK q q x) ∧ (isSliceT (ctx pl1 plAnn).P (33 : TypeId) = true ∧
sizeIs (ctx pl1 plAnn).P (33 : TypeId) 1 = true) ∧ 0 + 1 ≤ [D.nil].length ∧ 0 + q.toNat ≤ (nK q q x).length ∧ q.toNat + 1 ≤ 16777216 ∧ (q.toNat + 1 ≤ q.toNat → 0 + q.toNat + 1 ≤ (nK q q x).length ∧ (0 + (q.toNat + 1) ≤
(List.take (0 + q.toNat) (nK q q x) ++ List.take 1 [D.nil] ++ List.drop (0 + q.toNat + 1) (nK q q x)).length ∧ D.list (List.take (q.toNat + 1) (List.take (0 + q.toNat) (nK q q x) ++ List.take 1 [D.nil] ++ List.drop (0 +
q.toNat + 1) (nK q q x))) = D.list (plS q.toNat)) ∧ (0 : Int) = 0 ∧ True) ∧ (q.toNat < q.toNat + 1 → (0 + (q.toNat + 1) ≤ (List.take q.toNat (nK q q x) ++ List.take 1 [D.nil]).length ∧ D.list (List.take (q.toNat + 1)
(List.take q.toNat (nK q q x) ++ List.take 1 [D.nil])) = D.list (plS q.toNat)) ∧ (0 : Int) = 0 ∧ True))) ∧ ∀ (x_1 : Nat), 0 < x_1 ∧ x_1 ≤ q.toNat → q.toNat - x_1 < LIM ∧ ((x_1 : Int) < q → fits64 ((x_1 : Int) * q) ∧ ((0
≤ (x_1 : Int) * q ∧ (x_1 : Int) * q ≤ 64) ∧ 1 ≤ q ∧ q ≤ 64) ∧ 0 + 1 ≤ [D.list (List.map (fun (i : Nat) => D.int ((x_1 : Int) * q + (i : Int))) (List.range q.toNat))].length ∧ 0 + x_1 ≤ (rwE q.toNat x_1).length ∧ x_1 + 1
≤ 16777216 ∧ fits64 ((x_1 : Int) + 1) ∧ ((∃ (y : Nat), y = 0 ∧ q.toNat - y < q.toNat - x_1 ∧ ((x_1 : Int) + 1 = (y : Int) ∧ False ∧ True) ∧ True) ∨ ∃ (y : Nat), (0 < y ∧ y ≤ q.toNat) ∧ q.toNat - y < q.toNat - x_1 ∧ ((x_1
: Int) + 1 = (y : Int) ∧ ((0 : Nat) = 0 ∧ x_1 + 1 = y ∧ True) ∧ True) ∧ List.take x_1 (rwE q.toNat x_1) ++ List.take 1 [D.list (List.map (fun (i : Nat) => D.int ((x_1 : Int) * q + (i : Int))) (List.range q.toNat))] = rwE
q.toNat y ∧ True)) ∧ (((x_1 : Int) < q → False) → 0 + x_1 ≤ (rwE q.toNat x_1).length ∧ noHole (nK q q x) ∧ (isSliceT (ctx pl1 plAnn).P (33 : TypeId) = true ∧ sizeIs (ctx pl1 plAnn).P (33 : TypeId) 1 = true) ∧ 0 + 1 ≤
[D.list (List.take x_1 (rwE q.toNat x_1))].length ∧ 0 + q.toNat ≤ (nK q q x).length ∧ q.toNat + 1 ≤ 16777216 ∧ (q.toNat + 1 ≤ q.toNat → 0 + q.toNat + 1 ≤ (nK q q x).length ∧ (0 + (q.toNat + 1) ≤ (List.take (0 + q.toNat)
(nK q q x) ++ List.take 1 [D.list (List.take x_1 (rwE q.toNat x_1))] ++ List.drop (0 + q.toNat + 1) (nK q q x)).length ∧ D.list (List.take (q.toNat + 1) (List.take (0 + q.toNat) (nK q q x) ++ List.take 1 [D.list
(List.take x_1 (rwE q.toNat x_1))] ++ List.drop (0 + q.toNat + 1) (nK q q x))) = D.list (plS q.toNat)) ∧ (0 : Int) = 0 ∧ True) ∧ (q.toNat < q.toNat + 1 → (0 + (q.toNat + 1) ≤ (List.take q.toNat (nK q q x) ++ List.take 1
[D.list (List.take x_1 (rwE q.toNat x_1))]).length ∧ D.list (List.take (q.toNat + 1) (List.take q.toNat (nK q q x) ++ List.take 1 [D.list (List.take x_1 (rwE q.toNat x_1))])) = D.list (plS q.toNat)) ∧ (0 : Int) = 0 ∧
True))))) ∧ (q < q → D.nil = D.list (plS q.toNat) ∧ (90 : Int) = 0 ∧ True)) ∧ (q < 1 → D.nil = D.list (plS q.toNat) ∧ (90 : Int) = 0 ∧ True)) ∧ ((True → False) → D.nil = D.list (plS q.toNat) ∧ (90 : Int) = 0 ∧ True)) :=
by intros; kernel_rfl
theorem rowN_len (a : Int) (n x : Nat) (h : x ≤ n) : (rowN a n x).length = n := by unfold rowN; simp; omega
theorem rowN_next {a : Int} {n x : Nat} (h : x < n) : (rowN a n x).set x (.int (a + (x : Nat))) = rowN a n (x + 1) := by
 unfold rowN
 have e : n - x = n - (x + 1) + 1 := by omega
 rw [List.set_append_right _ _ (by simp), List.length_map, List.length_range, Nat.sub_self, e, List.replicate_succ, List.set_cons_zero, List.range_succ, List.map_append, List.append_assoc]
 rfl
theorem s39r (a n : Int) (ha0 : 0 ≤ a) (ha : a ≤ 64) (hn1 : 1 ≤ n) (hn2 : n ≤ 64) : symFun (ctx cc0 plAnn) 3 39 [.int .i64 a, .int .i64 n] (.dat 25 (.list ((List.range n.toNat).map fun i => .int (a + (i : Nat))))) := by
 rw [vc39r]
 refine ⟨by omega, Int.le_refl _, by omega, by omega, ⟨0, Nat.zero_le _, ⟨rfl, trivial⟩, by unfold rowN; rfl, trivial⟩, fun x hx => ?_⟩
 have hx : x ≤ n.toNat := hx
 have hl := rowN_len a n.toNat x hx
 refine ⟨limS (by omega), fun hlt => ⟨⟨by omega, by omega⟩, by omega, hlt, by omega, ⟨by omega, by omega⟩, x + 1, by show x + 1 ≤ _; omega, by omega, ⟨by omega, trivial⟩, rowN_next (by omega), trivial⟩, fun hge => ?_⟩
 have hge := not_of hge
 have ex : x = n.toNat := by omega
 subst ex
 refine ⟨by omega, ?_⟩
 rw [List.take_of_length_le (by omega)]
 unfold rowN
 rw [Nat.sub_self, List.replicate_zero, List.append_nil]
theorem pl_rng {q : Nat} (h : q ∈ plL) : q ∈ qsL ∧ 2 ≤ q ∧ q ≤ 8 ∧ q * q ≤ 64 ∧ q ≤ kMax q := by
 unfold plL at h
 simp only [List.mem_cons, List.not_mem_nil, or_false] at h
 rcases h with rfl | rfl | rfl | rfl | rfl | rfl <;> decide
theorem fld_of {q : Nat} (h : q ∈ qsL) : fldP (q : Int) := by
 unfold qsL at h
 simp only [List.mem_cons, List.not_mem_nil, or_false] at h
 exact ⟨by omega⟩
theorem rwE_succ (q x : Nat) : rwE q (x + 1) = rwE q x ++ [.list (rwT q x q)] := by unfold rwE; rw [List.range_succ, List.map_append]; rfl
theorem rw_row (q x : Nat) : D.list (List.map (fun (i : Nat) => D.int ((x : Int) * (q : Int) + (i : Int))) (List.range q)) = .list (rwT q x q) := by
 unfold rwT
 congr 1
theorem slpl : isSliceT (ctx pl1 plAnn).P (33 : TypeId) = true ∧ sizeIs (ctx pl1 plAnn).P (33 : TypeId) (1 : Nat) = true := by constructor <;> kernel_rfl
theorem s17p (q : Int) (hp : plQ q) : symFun (ctx pl1 plAnn) 4 17 [.int .i64 q] (.tup [.dat 24 (.list (plS q.toNat)), .int .i64 0]) := by
 rw [vc17p]
 unfold nJ nK
 obtain ⟨Q, hPl, rfl⟩ := hp.out
 obtain ⟨hQ, hQ1, hQ2, hP64, _⟩ := pl_rng hPl
 have hf := fld_of hQ
 have hP : (Q : Int) * (Q : Int) = ((Q * Q : Nat) : Int) := (Int.natCast_mul Q Q).symm
 rw [Int.toNat_natCast]
 have hmul : ∀ r : Nat, r ≤ Q → 0 ≤ (r : Int) * (Q : Int) ∧ (r : Int) * (Q : Int) ≤ 64 := fun r hr => by
  rw [← Int.natCast_mul]
  have := Nat.mul_le_mul hr (Nat.le_refl Q)
  omega
 refine ⟨hf, ⟨fun _ => ⟨fun _ => ⟨fun _ => ⟨⟨by rw [hP]; omega, by rw [hP]; omega⟩, fun h64 => by rw [hP] at h64; omega, fun _ => ?_⟩, fun h => by omega⟩, fun h => by omega⟩, fun h => (h trivial).elim⟩⟩
 refine ⟨by omega, Int.le_refl _, by omega, by omega, ⟨0, Nat.zero_le _, ⟨rfl, trivial⟩, ⟨rfl, allNil_rep _⟩, trivial⟩, fun x hx => ?_⟩
 have hx : x ≤ Q := hx
 have hlen := netS_base Q Q x hx
 refine ⟨limS (by omega), fun hlt => ⟨⟨0, Nat.zero_le _, ⟨rfl, trivial⟩, rfl, trivial⟩, fun b hb => ?_⟩, fun hge => ?_⟩
 ·have hxQ : x < Q := by omega
  have hb : b ≤ Q := hb
  have hnil := netS_nil (q := Q) (k := Q) hxQ
  have hIl : (netI (netS Q Q x ++ List.replicate (Q - x) D.nil) Q Q x b).length = Q := by rw [netI_len, hlen]
  have hIa := netI_at Q Q (l := netS Q Q x ++ List.replicate (Q - x) D.nil) (a := x) (by rw [hlen]; exact hxQ) hnil b
  have hIs : ∀ d, (netI (netS Q Q x ++ List.replicate (Q - x) D.nil) Q Q x b).set x d = (netS Q Q x ++ List.replicate (Q - x) D.nil).set x d := fun d => netI_set _ _ _ _ _ b
  refine ⟨limS (by omega), fun hlt2 => ⟨.inl ⟨0, rfl, ⟨rfl, trivial, trivial⟩, trivial⟩, fun r hr => ?_, fun r ⟨hr1, hr2⟩ => ?_⟩, fun hge2 => ?_⟩
  ·subst hr
   have hbQ : b < Q := by omega
   refine ⟨limS (by omega), fun hlt3 => ?_, fun hge3 => absurd (by omega) (not_of hge3)⟩
   have e1 : eltP (Q : Int) (x : Int) := ⟨by omega, by omega⟩
   have e2 : eltP (Q : Int) ((0 : Nat) : Int) := ⟨by omega, by omega⟩
   have e3 : eltP (Q : Int) (b : Int) := ⟨by omega, by omega⟩
   have e4 := mul_elt hf e1 e2
   have e5 := (add_elt hf e4 e3).out
   have e6 := hmul 0 (by omega)
   have hv := nV_int Q x b 0
   rw [hv] 
   refine ⟨⟨by omega, by omega⟩, ⟨hf, rfl, rfl, e1, e2⟩, ⟨hf, rfl, rfl, rfl, e4, e3⟩, ⟨by omega, by omega⟩, Nat.le_refl _, by decide, ⟨by decide, by decide⟩, .inr ⟨1, ⟨by omega, by omega⟩, by omega, ⟨rfl, ⟨rfl, rfl, trivial⟩, trivial⟩, rfl, trivial⟩⟩
  ·have hbQ : b < Q := by omega
   refine ⟨limS (by omega), fun hlt3 => ?_, fun hge3 => ?_⟩
   ·have e1 : eltP (Q : Int) (x : Int) := ⟨by omega, by omega⟩
    have e2 : eltP (Q : Int) (r : Int) := ⟨by omega, by omega⟩
    have e3 : eltP (Q : Int) (b : Int) := ⟨by omega, by omega⟩
    have e4 := mul_elt hf e1 e2
    have e5 := (add_elt hf e4 e3).out
    have e6 := hmul r (by omega)
    have hv := nV_int Q x b r
    rw [hv]
    refine ⟨⟨by omega, by omega⟩, ⟨hf, rfl, rfl, e1, e2⟩, ⟨hf, rfl, rfl, rfl, e4, e3⟩, ⟨by omega, by omega⟩, Nat.le_refl _, by rw [netT_len]; omega, by omega, ⟨by omega, by omega⟩, .inr ⟨r + 1, ⟨by omega, by omega⟩, by omega, ⟨by omega, ⟨rfl, rfl, trivial⟩, trivial⟩, ?_, trivial⟩⟩
    rw [List.take_of_length_le (by rw [netT_len]; exact Nat.le_refl _), netT_succ]; rfl
   ·have hge3 := not_of hge3
    have er : r = Q := by omega
    subst er
    have hTk : List.take r (netT r x b r) = netT r x b r := List.take_of_length_le (by rw [netT_len]; exact Nat.le_refl _)
    rw [hIl]
    refine ⟨by omega, by omega, by omega, fun hn => ?_, fun rw_ hrw => ?_, fun n hn => ?_⟩
    ·rcases hIa with ⟨hb0, _⟩ | ⟨_, h2⟩
     ·subst hb0
      refine ⟨by rw [netT_len]; omega, Nat.le_refl _, by decide, by omega, by omega, by omega, trivial, rfl, rfl, trivial, ⟨by decide, by decide⟩, 1, by show 1 ≤ _; omega, by omega, ⟨rfl, trivial⟩, ?_, trivial⟩
      rw [hTk, hIs]; rfl
     ·rw [h2] at hn; cases hn
    ·rcases hIa with ⟨_, h2⟩ | ⟨hb0, h2⟩
     ·rw [h2] at hrw; cases hrw
     ·rw [h2] at hrw; cases hrw
      have hEl := netE_len r r x b
      have hs2 : ((netI (netS r r x ++ List.replicate (r - x) D.nil) r r x b).set x (D.int (0 : Int))).length = r := by rw [List.length_set, hIl]
      rw [h2, hTk, hs2]
      refine ⟨by rw [netT_len]; omega, by omega, rfl, ⟨_, rfl⟩, Nat.le_refl _, Nat.le_refl _, by show 0 + _ ≤ (netE r r x b).length; omega, by omega, by omega, by omega, by omega, trivial, rfl, ?_, trivial, ⟨by omega, by omega⟩, b + 1, by show b + 1 ≤ _; omega, by omega, ⟨by omega, trivial⟩, ?_, trivial⟩
      ·show _ = (List.take (netE r r x b).length (netE r r x b) ++ List.take 1 _).length
       rw [List.take_of_length_le (Nat.le_refl _), List.length_append]; rfl
      ·show _ = (netS r r x ++ List.replicate (r - x) D.nil).set x (.list (netE r r x (b + 1)))
       rw [List.set_set, hIs, netE_succ]
       show (netS r r x ++ List.replicate (r - x) D.nil).set x (.list (List.take (netE r r x b).length (netE r r x b) ++ List.take 1 _)) = _
       rw [List.take_of_length_le (Nat.le_refl _)]; rfl
    ·rcases hIa with ⟨_, h2⟩ | ⟨_, h2⟩ <;> (rw [h2] at hn; cases hn)
  ·have hge2 := not_of hge2
   have eb : b = Q := by omega
   subst eb
   refine ⟨⟨by omega, by omega⟩, x + 1, by show x + 1 ≤ _; omega, by omega, ⟨by omega, trivial⟩, ?_, trivial⟩
   obtain ⟨c, rfl⟩ : ∃ c, b = c + 1 := ⟨b - 1, by omega⟩
   exact netS_next hxQ
 ·have hge := not_of hge
  have ex : x = Q := by omega
  subst ex
  refine ⟨.inl ⟨0, rfl, ⟨rfl, trivial, trivial⟩, trivial⟩, fun y hy => ?_, fun y ⟨hy1, hy2⟩ => ?_⟩
  ·subst hy
   have e6 := hmul 0 (by omega)
   refine ⟨limS (by omega), fun hlt2 => ⟨⟨by omega, by omega⟩, ⟨⟨by omega, by omega⟩, by omega, by omega⟩, Nat.le_refl _, by decide, ⟨by decide, by decide⟩, .inr ⟨1, ⟨by omega, by omega⟩, by omega, ⟨rfl, ⟨rfl, rfl, trivial⟩, trivial⟩, ?_, trivial⟩⟩, fun hge2 => absurd (by omega) (not_of hge2)⟩
   rw [rw_row]; rfl
  ·have e6 := hmul y (by omega)
   have hEl := rwE_len x y
   refine ⟨limS (by omega), fun hlt2 => ⟨⟨by omega, by omega⟩, ⟨⟨by omega, by omega⟩, by omega, by omega⟩, Nat.le_refl _, by omega, by omega, ⟨by omega, by omega⟩, .inr ⟨y + 1, ⟨by omega, by omega⟩, by omega, ⟨by omega, ⟨rfl, rfl, trivial⟩, trivial⟩, ?_, trivial⟩⟩, fun hge2 => ?_⟩
   ·rw [rw_row, rwE_succ, List.take_of_length_le (by omega)]; rfl
   ·have hge2 := not_of hge2
    have ey : y = x := by omega
    subst ey
    have hTk : List.take y (rwE y y) = rwE y y := List.take_of_length_le (by omega)
    have hL : netS y y y ++ List.replicate (y - y) D.nil = netS y y y := by rw [Nat.sub_self, List.replicate_zero, List.append_nil]
    have hSl := netS_len y y y
    refine ⟨by omega, netS_noHole _ _, slpl, Nat.le_refl _, by rw [hL]; omega, by omega, fun h => by omega, fun _ => ⟨⟨?_, ?_⟩, rfl, trivial⟩⟩
    ·rw [hL, hTk, List.length_append, List.length_take, hSl]
     show _ ≤ min y y + 1
     omega
    ·rw [hL, hTk, List.take_of_length_le (l := netS y y y) (by omega), List.take_of_length_le (by rw [List.length_append, hSl]; exact Nat.le_refl _)]
     rfl
end Go.Ev

end

section
namespace Go.Ev
theorem cnt_map : ∀ (l : List Nat) (x : Nat), cntF (l.map fun v => D.int (v : Nat)) (x : Int) = (l.count x : Nat)
 | [], _ => rfl
 | a :: l, x => by
  have ih := cnt_map l x
  show cntF (l.map fun v => D.int (v : Nat)) (x : Int) + (if (a : Int) = (x : Int) then 1 else 0) = _
  rw [ih, List.count_cons]
  by_cases e : a = x
  ·subst e; simp
  ·rw [if_neg (by omega), if_neg (by simpa using e)]; rfl
def pvF (n m e j : Nat) : List Nat := (if n < m then [e] else [m - 1, e]) ++ (List.range j).flatMap fun k => [p2A m e (k + 1), p2B m e (k + 1)]
theorem rob_flat (n m e : Nat) : ∀ j, j ≤ m / 2 - 1 → flatL (.list (p2E n m e)) (j + 1) = (pvF n m e j).map fun v => D.int (v : Nat)
 | 0, _ => by
  show [] ++ (p2F n m e).asList = _
  unfold pvF p2F
  by_cases h : n < m
  ·rw [if_pos h, if_pos h]; rfl
  ·rw [if_neg h, if_neg h]; rfl
 | j + 1, hj => by
  show flatL _ (j + 1) ++ (el (.list (p2E n m e)) (j + 1)).asList = _
  rw [rob_flat n m e j (by omega), p2E_at (show j < m / 2 - 1 by omega)]
  unfold pvF
  rw [List.range_succ, List.flatMap_append, ← List.append_assoc]
  simp only [List.map_append]
  rfl
theorem rob_cnt {n m e v : Nat} (h : robP m) (hnm : n = m ∨ n + 1 = m) (he : e < m - 1) (hv : v < n) : (pvF n m e (m / 2 - 1)).count v = 1 := by
 have h1 : (pvE m e).count v = 1 := by rw [List.Nodup.count (h.evN e he), if_pos ((h.evM e v he).2 (by omega))]
 unfold pvF
 rcases hnm with rfl | hnm
 ·rw [if_neg (by omega)]; exact h1
 ·rw [if_pos (by omega)]
  unfold pvE at h1
  rw [List.count_cons_of_ne (by omega)] at h1
  exact h1
theorem rob_rng {n m e v : Nat} (h : robP m) (hnm : n = m ∨ n + 1 = m) (he : e < m - 1) (hv : v ∈ pvF n m e (m / 2 - 1)) : v < n := by
 unfold pvF at hv
 rcases hnm with rfl | hnm
 ·rw [if_neg (by omega)] at hv; exact (h.evM e v he).1 hv
 ·rw [if_pos (by omega)] at hv
  have hm : v ∈ pvE m e := by unfold pvE; exact List.mem_cons_of_mem _ hv
  have hlt := (h.evM e v he).1 hm
  have hne : v ≠ m - 1 := fun e1 => by
   have hn := (List.nodup_cons.1 (show ((m - 1) :: (e :: (List.range (m / 2 - 1)).flatMap fun k => [p2A m e (k + 1), p2B m e (k + 1)])).Nodup from h.evN e he)).1
   rw [e1] at hv
   exact hn hv
  omega
theorem rob_errG {n m e : Nat} (h : robP m) (hnm : n = m ∨ n + 1 = m) (he : e < m - 1) : errG (n : Int) ((pvF n m e (m / 2 - 1)).map fun v => D.int (v : Nat)) = 0 := by
 have hno : ¬ outP (n : Int) ((pvF n m e (m / 2 - 1)).map fun v => D.int (v : Nat)) := fun ⟨d, hd, hb⟩ => by
  obtain ⟨v, hv, rfl⟩ := List.mem_map.1 hd
  have := rob_rng h hnm he hv
  apply hb
  show 0 ≤ ((v : Nat) : Int) ∧ ((v : Nat) : Int) < _
  omega
 have hone : ∀ x : Int, (0 ≤ x ∧ x < (n : Int)) → cntF ((pvF n m e (m / 2 - 1)).map fun v => D.int (v : Nat)) x = 1 := fun x hx => by
  obtain ⟨v, rfl⟩ : ∃ v : Nat, x = (v : Int) := ⟨x.toNat, by omega⟩
  rw [cnt_map, rob_cnt h hnm he (by omega)]
  rfl
 unfold errG
 rw [if_neg hno, if_neg (fun ⟨x, hx, h1⟩ => by rw [hone x hx] at h1; omega), if_neg (fun ⟨x, hx, h1⟩ => by rw [hone x hx] at h1; omega)]
structure szR (n m : Nat) (sz : D) : Prop where
 out : 0 < sz.len → sz.len = m / 2 ∧ ∀ i, i < m / 2 → nAt sz i = if i = 0 ∧ n < m then 1 else 2
theorem rob_errE {n m e : Nat} {sz : D} (h : robP m) (h2 : 2 ≤ m) (hnm : n = m ∨ n + 1 = m) (he : e < m - 1) (hm0 : m % 2 = 0) (hs : szR n m sz) : errE (n : Int) sz (.list (p2E n m e)) = 0 := by
 have hl : (D.list (p2E n m e)).len = m / 2 - 1 + 1 := by rw [p2E_len, Nat.add_comm]
 have htl : ∀ j, j < m / 2 → (el (.list (p2E n m e)) j).len = if j = 0 ∧ n < m then 1 else 2 := fun j hj => by
  cases j with
  | zero =>
   rw [p2E_zero]
   unfold p2F
   by_cases hn : n < m
   ·rw [if_pos hn, if_pos ⟨rfl, hn⟩]; rfl
   ·rw [if_neg hn, if_neg (fun q => hn q.2)]; rfl
  | succ k => rw [p2E_at (show k < m / 2 - 1 by omega), if_neg (by omega)]; rfl
 unfold errE
 rw [if_neg ?_, hl, rob_flat n m e _ (Nat.le_refl _)]
 ·exact rob_errG h hnm he
 ·rintro (⟨j, hj, he0⟩ | ⟨h0, hn⟩)
  ·rw [hl] at hj; rw [htl j (by omega)] at he0; split at he0 <;> omega
  ·obtain ⟨h1, h3⟩ := hs.out h0
   refine hn ⟨by rw [hl, h1]; omega, fun j hj => ?_⟩
   rw [hl] at hj
   rw [htl j (by omega), h3 j (by omega)]
   split <;> rfl
theorem scan_zero {n : Int} {sz s : D} : ∀ f i, (∀ k, i ≤ k → k < i + f → errE n sz (el s k) = 0) → scanK n sz s f i = (0, 0)
 | 0, i, _ => rfl
 | f + 1, i, h => by
  unfold scanK
  rw [if_neg (fun hne => hne (h i (Nat.le_refl _) (by omega)))]
  exact scan_zero f (i + 1) fun k h1 h2 => h k (by omega) (by omega)
theorem rob_sum {n m : Nat} {sz : D} (hnm : n = m ∨ n + 1 = m) (h : ∀ i, i < m / 2 → nAt sz i = if i = 0 ∧ n < m then 1 else 2) : ∀ j, j + 1 ≤ m / 2 → sumZ sz (j + 1) = 2 * (j : Int) + (if n < m then 1 else 2)
 | 0, hj => by
  show 0 + nAt sz 0 = _
  rw [h 0 (by omega)]
  by_cases hn : n < m
  ·rw [if_pos ⟨rfl, hn⟩, if_pos hn]; rfl
  ·rw [if_neg (fun q => hn q.2), if_neg hn]; rfl
 | j + 1, hj => by
  show sumZ sz (j + 1) + nAt sz (j + 1) = _
  rw [rob_sum hnm h j (by omega), h (j + 1) (by omega), if_neg (show ¬ (j + 1 = 0 ∧ n < m) by omega)]
  split <;> omega
theorem rob_chk {n : Nat} {sz : D} (h2 : 2 ≤ n) (h64 : n ≤ 64) (hs : szR n (evM n) sz) : chk (n : Int) sz (.list (p2S n (evM n) (evM n - 1))) = (0, 0) := by
 have hm : evM n % 2 = 0 ∧ 2 ≤ evM n ∧ evM n ≤ 64 ∧ (n = evM n ∨ n + 1 = evM n) := by unfold evM; omega
 have h := rob_ok hm.2.1 hm.2.2.1 hm.1
 have hl : (D.list (p2S n (evM n) (evM n - 1))).len = evM n - 1 := by
  show (p2S n (evM n) (evM n - 1)).length = _
  unfold p2S; rw [List.length_map, List.length_range]
 unfold chk
 rw [if_neg ?_, if_neg (by omega), hl]
 ·refine scan_zero _ 0 fun e _ he => ?_
  rw [p2S_at (show e < evM n - 1 by omega)]
  exact rob_errE h hm.2.1 hm.2.2.2 (by omega) hm.1 hs
 ·rintro (h1 | ⟨h1, h3⟩)
  ·exact h1 ⟨by omega, by omega⟩
  ·obtain ⟨q1, q2⟩ := hs.out h1
   refine h3 ⟨fun i hi => by rw [q2 i (by omega)]; split <;> omega, ?_⟩
   obtain ⟨j, hj⟩ : ∃ j, evM n / 2 = j + 1 := ⟨evM n / 2 - 1, by omega⟩
   rw [q1, hj, rob_sum hm.2.2.2 q2 j (by omega)]
   split <;> omega
end Go.Ev

end

section
open Go.Proofs
namespace Go.Ev
def szL (s : D) (x : Nat) : List D := (List.range x).map fun i => .int ((el (el s 0) i).len : Nat)
end Go.Ev

end

section
open Go.Proofs
namespace Go.Ev
set_option maxRecDepth 100000
set_option maxHeartbeats 4000000
theorem flat_net (q k a : Nat) : ∀ n, n ≤ q → flatL (.list (netE q k a q)) n = (evV q k a n).map fun v => D.int (v : Nat)
 | 0, _ => rfl
 | n + 1, h => by
  show flatL _ n ++ (el (.list (netE q k a q)) n).asList = _
  rw [flat_net q k a n (by omega), netE_at q k a (show n < q by omega)]
  unfold evV
  rw [List.range_succ, List.flatMap_append, List.map_append]
  congr 1
  simp only [List.flatMap_cons, List.flatMap_nil, List.append_nil, List.map_map]
  rfl
theorem net_errG {q k a : Nat} (h : netP q k) (ha : a < q) : errG ((k * q : Nat) : Int) (flatL (.list (netE q k a q)) q) = 0 := by
 rw [flat_net q k a q (Nat.le_refl _)]
 have hno : ¬ outP ((k * q : Nat) : Int) ((evV q k a q).map fun v => D.int (v : Nat)) := fun ⟨d, hd, hb⟩ => by
  obtain ⟨v, hv, rfl⟩ := List.mem_map.1 hd
  have := (h.evM a v ha).1 hv
  apply hb
  show 0 ≤ ((v : Nat) : Int) ∧ ((v : Nat) : Int) < _
  omega
 have hone : ∀ x : Int, (0 ≤ x ∧ x < ((k * q : Nat) : Int)) → cntF ((evV q k a q).map fun v => D.int (v : Nat)) x = 1 := fun x hx => by
  obtain ⟨v, rfl⟩ : ∃ v : Nat, x = (v : Int) := ⟨x.toNat, by omega⟩
  rw [cnt_map, List.Nodup.count (h.evN a ha), if_pos ((h.evM a v ha).2 (by omega))]
  rfl
 unfold errG
 rw [if_neg hno, if_neg (fun ⟨x, hx, h1⟩ => by rw [hone x hx] at h1; omega), if_neg (fun ⟨x, hx, h1⟩ => by rw [hone x hx] at h1; omega)]
structure szP (q k : Nat) (sz : D) : Prop where
 out : 0 < sz.len → sz.len = q ∧ ∀ i, i < q → nAt sz i = (k : Int)
theorem net_errE {q k a : Nat} {sz : D} (h : netP q k) (ha : a < q) (hs : szP q k sz) : errE ((k * q : Nat) : Int) sz (.list (netE q k a q)) = 0 := by
 have hl : (D.list (netE q k a q)).len = q := netE_len _ _ _ _
 have htl : ∀ j, j < q → (el (.list (netE q k a q)) j).len = k := fun j hj => by rw [netE_at q k a hj]; exact netT_len _ _ _ _
 unfold errE
 rw [if_neg ?_, hl]
 ·exact net_errG h ha
 ·rintro (⟨j, hj, he⟩ | ⟨h0, hn⟩)
  ·rw [hl] at hj; rw [htl j hj] at he; have := h.pos; omega
  ·obtain ⟨h1, h2⟩ := hs.out h0
   exact hn ⟨by rw [hl, h1], fun j hj => by rw [hl] at hj; rw [htl j hj, h2 j hj]⟩
theorem tt : (true = true ↔ True) := ⟨fun _ => trivial, fun _ => rfl⟩
theorem errE_zero {n : Nat} {sz ev : D} {v : List Nat} (he : ∀ j, j < ev.len → (el ev j).len ≠ 0) (hs : 0 < sz.len → sameSz ev sz) (hf : flatL ev ev.len = v.map fun x => D.int (x : Nat)) (hv : insB v 0 = some (2 ^ n - 1)) : errE (n : Int) sz ev = 0 := by
 obtain ⟨r1, r2, _⟩ := insB_ok hv
 have hmem : ∀ x, x ∈ v ↔ x < n := fun x => by
  have r3 := r1 x
  rw [Nat.testBit_two_pow_sub_one] at r3
  simp only [decide_eq_true_eq, Nat.zero_testBit, Bool.false_eq_true, false_or] at r3
  exact r3.symm
 have hno : ¬ outP (n : Int) (v.map fun x => D.int (x : Nat)) := fun ⟨d, hd, hb⟩ => by
  obtain ⟨x, hx, rfl⟩ := List.mem_map.1 hd
  have := (hmem x).1 hx
  apply hb
  show 0 ≤ ((x : Nat) : Int) ∧ ((x : Nat) : Int) < _
  omega
 have hone : ∀ x : Int, (0 ≤ x ∧ x < (n : Int)) → cntF (v.map fun x => D.int (x : Nat)) x = 1 := fun x hx => by
  obtain ⟨y, rfl⟩ : ∃ y : Nat, x = (y : Int) := ⟨x.toNat, by omega⟩
  rw [cnt_map, List.Nodup.count r2, if_pos ((hmem y).2 (by omega))]
  rfl
 unfold errE
 rw [if_neg ?_, hf]
 ·unfold errG
  rw [if_neg hno, if_neg (fun ⟨x, hx, h1⟩ => by rw [hone x hx] at h1; omega), if_neg (fun ⟨x, hx, h1⟩ => by rw [hone x hx] at h1; omega)]
 ·rintro (⟨j, hj, h0⟩ | ⟨h0, hn⟩)
  ·exact he j hj h0
  ·exact hn (hs h0)
theorem chk_zero {n : Nat} {sz s : D} (h1 : 1 ≤ n) (h64 : n ≤ 64) (hz : 0 < sz.len → fitP n sz) (hl : s.len ≤ 64) (h : ∀ i, i < s.len → errE (n : Int) sz (el s i) = 0) : chk (n : Int) sz s = (0, 0) := by
 unfold chk
 rw [if_neg ?_, if_neg (by omega)]
 ·exact scan_zero s.len 0 fun k _ hk => h k (by omega)
 ·rintro (h2 | ⟨h2, h3⟩)
  ·exact h2 ⟨by omega, by omega⟩
  ·exact h3 (hz h2)
theorem szL_at (s : D) {x i : Nat} (h : i < x) : nAt (.list (szL s x)) i = ((el (el s 0) i).len : Nat) := by
 unfold szL nAt nthD
 show ((((List.range x).map fun i => D.int ((el (el s 0) i).len : Nat))[i]?).getD .nil).asInt = _
 rw [List.getElem?_map, List.getElem?_range h]; rfl
theorem szL_len (s : D) (x : Nat) : (D.list (szL s x)).len = x := by
 show (szL s x).length = x
 unfold szL; rw [List.length_map, List.length_range]
structure oneS (n : Nat) (s : D) : Prop where
 n2 : 2 ≤ n ∧ n ≤ 64
 big : bigP s
 len : 1 ≤ s.len ∧ s.len ≤ 63
 el0 : 1 ≤ (el s 0).len ∧ (el s 0).len ≤ 64
 chk0 : chk (n : Int) .nil s = (0, 0)
 chk1 : chk (n : Int) (.list (szL s (el s 0).len)) s = (0, 0)
 one : ∀ a b, b < a → a < n → mtS s s.len a b = 1
 ok : okS (n : Int) (.list (szL s (el s 0).len))
 tri : (s.len : Int) * triS (.list (szL s (el s 0).len)) (el s 0).len = triZ n ∧ 1 ≤ triS (.list (szL s (el s 0).len)) (el s 0).len
theorem triZ_nat {n k : Nat} (h : n * (n - 1) = 2 * k) (h1 : 1 ≤ n) : triZ (n : Int) = (k : Int) := by
 unfold triZ
 rw [show (n : Int) * ((n : Int) - 1) = ((n * (n - 1) : Nat) : Int) by rw [Int.natCast_mul, Int.natCast_sub h1]; rfl, h, Int.natCast_mul]
 exact Int.mul_tdiv_cancel_left _ (by decide)
theorem triS_const {sz : D} {q : Nat} {t : Int} (h : ∀ i, i < q → triZ (nAt sz i) = t) : ∀ j, j ≤ q → triS sz j = (j : Int) * t
 | 0, _ => by simp [triS]
 | j + 1, hj => by
  show triS sz j + triZ (nAt sz j) = _
  rw [triS_const h j (by omega), h j (by omega), Int.natCast_add, Int.add_mul]; simp
theorem sumZ_const {sz : D} {q : Nat} {t : Int} (h : ∀ i, i < q → nAt sz i = t) : ∀ j, j ≤ q → sumZ sz j = (j : Int) * t
 | 0, _ => by simp [sumZ]
 | j + 1, hj => by
  show sumZ sz j + nAt sz j = _
  rw [sumZ_const h j (by omega), h j (by omega), Int.natCast_add, Int.add_mul]; simp
theorem rob_one {n : Nat} (h2 : 2 ≤ n) (h64 : n ≤ 64) : oneS n (.list (p2S n (evM n) (evM n - 1))) := by
 have hm : evM n % 2 = 0 ∧ 2 ≤ evM n ∧ evM n ≤ 64 ∧ (n = evM n ∨ n + 1 = evM n) := by unfold evM; omega
 have hL : (D.list (p2S n (evM n) (evM n - 1))).len = evM n - 1 := p2S_len _ _ _
 have hE : ∀ i, i < evM n - 1 → el (.list (p2S n (evM n) (evM n - 1))) i = .list (p2E n (evM n) i) := fun i hi => p2S_at hi
 have hEl : ∀ i, (D.list (p2E n (evM n) i)).len = evM n / 2 := fun i => by rw [p2E_len]; omega
 have hT : ∀ i j, j < evM n / 2 → (el (.list (p2E n (evM n) i)) j).len = if j = 0 ∧ n < evM n then 1 else 2 := fun i j hj => by
  cases j with
  | zero =>
   rw [p2E_zero]
   unfold p2F
   by_cases hn : n < evM n
   ·rw [if_pos hn, if_pos ⟨rfl, hn⟩]; rfl
   ·rw [if_neg hn, if_neg (fun q => hn q.2)]; rfl
  | succ k => rw [p2E_at (show k < evM n / 2 - 1 by omega), if_neg (by omega)]; rfl
 have h0 : el (.list (p2S n (evM n) (evM n - 1))) 0 = .list (p2E n (evM n) 0) := hE 0 (by omega)
 have hsz : ∀ i, i < evM n / 2 → nAt (.list (szL (.list (p2S n (evM n) (evM n - 1))) (evM n / 2))) i = if i = 0 ∧ n < evM n then 1 else 2 := fun i hi => by
  rw [szL_at _ hi, h0, hT 0 i hi]; split <;> rfl
 have hszR : szR n (evM n) (.list (szL (.list (p2S n (evM n) (evM n - 1))) (evM n / 2))) := ⟨fun _ => ⟨szL_len _ _, hsz⟩⟩
 have hsum := rob_sum hm.2.2.2 hsz
 have htri : ∀ j, j + 1 ≤ evM n / 2 → triS (.list (szL (.list (p2S n (evM n) (evM n - 1))) (evM n / 2))) (j + 1) = (j : Int) + (if n < evM n then 0 else 1) := by
  intro j
  induction j with
  | zero =>
   intro hj
   show 0 + triZ (nAt _ 0) = _
   rw [hsz 0 (by omega)]
   by_cases hn : n < evM n
   ·rw [if_pos ⟨rfl, hn⟩, if_pos hn]; rfl
   ·rw [if_neg (fun q => hn q.2), if_neg hn]; rfl
  | succ j ih =>
   intro hj
   show triS _ (j + 1) + triZ (nAt _ (j + 1)) = _
   rw [ih (by omega), hsz (j + 1) (by omega), if_neg (show ¬ (j + 1 = 0 ∧ n < evM n) by omega), show triZ 2 = 1 from rfl]
   split <;> omega
 obtain ⟨k, hk⟩ : ∃ k, evM n / 2 = k + 1 := ⟨evM n / 2 - 1, by omega⟩
 refine ⟨⟨h2, h64⟩, ⟨by rw [hL]; omega, fun i hi => ?_⟩, by rw [hL]; omega, by rw [h0, hEl]; omega, rob_chk h2 h64 ⟨fun h => absurd h (Nat.lt_irrefl 0)⟩, ?_, fun a b hb ha => ?_, ?_, ?_⟩
 ·rw [hL] at hi
  rw [hE i hi]
  refine ⟨by rw [hEl]; omega, fun j hj => ?_⟩
  rw [hEl] at hj
  rw [hT i j hj]
  split <;> omega
 ·rw [h0, hEl]; exact rob_chk h2 h64 hszR
 ·rw [hL, rob_meet h2 h64 (by omega) (by omega), if_neg (by omega)]
 ·rw [h0, hEl]
  refine ⟨by omega, by omega, ⟨fun i hi => ?_, ?_⟩⟩
  ·rw [szL_len] at hi; rw [hsz i hi]; split <;> omega
  ·rw [szL_len]
   have := hsum k (by omega)
   rw [← hk] at this
   rw [this]
   split <;> omega
 ·rw [h0, hEl, hL]
  have ht := htri k (by omega)
  rw [← hk] at ht
  rw [ht]
  rcases hm.2.2.2 with he | he
  ·rw [if_neg (by omega)]
   refine ⟨?_, by omega⟩
   rw [triZ_nat (k := (evM n - 1) * (k + 1)) (by
    rw [← Nat.mul_assoc, Nat.mul_comm 2, Nat.mul_assoc, ← hk, show 2 * (evM n / 2) = n by omega, ← he, Nat.mul_comm]) (by omega), Int.natCast_mul]
   rfl
  ·rw [if_pos (by omega)]
   have hn3 : n ≠ 2 := by omega
   refine ⟨?_, by omega⟩
   rw [triZ_nat (k := (evM n - 1) * k) (by
    rw [← Nat.mul_assoc, Nat.mul_comm 2, Nat.mul_assoc, show 2 * k = n - 1 by omega, show evM n - 1 = n by omega]) (by omega), Int.natCast_mul, Int.add_zero]
theorem plane_last (q : Nat) : el (.list (plS q)) q = .list (rwE q q) := by
 unfold el nthD plS
 show (((netS q q q ++ [D.list (rwE q q)])[q]?).getD .nil) = _
 rw [List.getElem?_append_right (by rw [netS_len]; exact Nat.le_refl _), netS_len, Nat.sub_self]; rfl
theorem plane_at (q : Nat) {i : Nat} (h : i < q) : el (.list (plS q)) i = .list (netE q q i q) := by
 unfold plS
 rw [el_app (by rw [netS_len]; exact h), netS_at q q h]
theorem row_flat {q : Nat} (h : q ∈ plL) : flatL (.list (rwE q q)) q = (List.range (q * q)).map fun x => D.int (x : Nat) := by
 unfold plL at h
 simp only [List.mem_cons, List.not_mem_nil, or_false] at h
 rcases h with rfl | rfl | rfl | rfl | rfl | rfl <;> rfl
theorem row_ins {q : Nat} (h : q ∈ plL) : insB (List.range (q * q)) 0 = some (2 ^ (q * q) - 1) := by
 unfold plL at h
 simp only [List.mem_cons, List.not_mem_nil, or_false] at h
 rcases h with rfl | rfl | rfl | rfl | rfl | rfl <;> decide +kernel
theorem plane_num {q : Nat} (h : q ∈ plL) : ((q + 1 : Nat) : Int) * ((q : Int) * triZ q) = triZ ((q * q : Nat) : Int) ∧ 1 ≤ (q : Int) * triZ q := by
 unfold plL at h
 simp only [List.mem_cons, List.not_mem_nil, or_false] at h
 rcases h with rfl | rfl | rfl | rfl | rfl | rfl <;> decide
theorem plane_one {q : Nat} (h : q ∈ plL) : oneS (q * q) (.list (plS q)) := by
 obtain ⟨hQ, h2, h8, h64, hM⟩ := pl_rng h
 have hn := net_ok hQ (show 0 < q by omega) hM
 have h4 : 4 ≤ q * q := Nat.mul_le_mul h2 h2
 have hL : (D.list (plS q)).len = q + 1 := by
  show (netS q q q ++ [D.list (rwE q q)]).length = _
  rw [List.length_append, netS_len]; rfl
 have hNl : ∀ i, (D.list (netE q q i q)).len = q := fun i => netE_len _ _ _ _
 have hRl : (D.list (rwE q q)).len = q := rwE_len _ _
 have hT : ∀ i j, j < q → (el (.list (netE q q i q)) j).len = q := fun i j hj => by rw [netE_at q q i hj]; exact netT_len _ _ _ _
 have hR : ∀ j, j < q → (el (.list (rwE q q)) j).len = q := fun j hj => by rw [rwE_at q hj]; exact rwT_len _ _ _
 have h0 := plane_at q (show 0 < q by omega)
 have hsz : ∀ i, i < q → nAt (.list (szL (.list (plS q)) q)) i = (q : Int) := fun i hi => by rw [szL_at _ hi, h0, hT 0 i hi]
 have hchk : ∀ sz, szP q q sz → chk ((q * q : Nat) : Int) sz (.list (plS q)) = (0, 0) := fun sz hs => by
  refine chk_zero (by omega) h64 (fun hz => ?_) (by rw [hL]; omega) fun i hi => ?_
  ·obtain ⟨z1, z2⟩ := hs.out hz
   refine ⟨fun i hi => by rw [z2 i (by omega)]; omega, ?_⟩
   rw [z1, sumZ_const z2 q (Nat.le_refl _), Int.natCast_mul]
  ·rw [hL] at hi
   by_cases hiq : i < q
   ·rw [plane_at q hiq]; exact net_errE hn hiq hs
   ·have : i = q := by omega
    subst this
    rw [plane_last]
    refine errE_zero (v := List.range (i * i)) (fun j hj => ?_) (fun hz => ?_) ?_ (row_ins h)
    ·rw [hRl] at hj; rw [hR j hj]; omega
    ·obtain ⟨z1, z2⟩ := hs.out hz
     exact ⟨by rw [hRl, z1], fun j hj => by rw [hRl] at hj; rw [hR j hj, z2 j hj]⟩
    ·rw [hRl]; exact row_flat h
 refine ⟨⟨by omega, h64⟩, ⟨by rw [hL]; omega, fun i hi => ?_⟩, by rw [hL]; omega, by rw [h0, hNl]; omega, hchk _ ⟨fun hz => absurd hz (Nat.lt_irrefl 0)⟩, ?_, fun a b hb ha => ?_, ?_, ?_⟩
 ·rw [hL] at hi
  by_cases hiq : i < q
  ·rw [plane_at q hiq]
   exact ⟨by rw [hNl]; omega, fun j hj => by rw [hNl] at hj; rw [hT i j hj]; omega⟩
  ·have : i = q := by omega
   subst this
   rw [plane_last]
   exact ⟨by rw [hRl]; omega, fun j hj => by rw [hRl] at hj; rw [hR j hj]; omega⟩
 ·rw [h0, hNl]
  exact hchk _ ⟨fun _ => ⟨szL_len _ _, hsz⟩⟩
 ·rw [hL, plane_meet h (by omega) (by omega), if_neg (by omega)]
 ·rw [h0, hNl]
  refine ⟨by omega, by omega, ⟨fun i hi => ?_, ?_⟩⟩
  ·rw [szL_len] at hi; rw [hsz i hi]; omega
  ·rw [szL_len, sumZ_const hsz q (Nat.le_refl _), Int.natCast_mul]
 ·rw [h0, hNl, hL, triS_const (t := triZ q) (fun i hi => by rw [hsz i hi]) q (Nat.le_refl _)]
  exact plane_num h
def kvE (j : Nat) : List Nat := kkF.flatten.map fun g => kkG g j
theorem kk_ins : ∀ j, j < 7 → insB (kvE j) 0 = some (2 ^ 15 - 1) := by decide +kernel
theorem kk_flat (j : Nat) : flatL (.list (kkE j 5)) 5 = (kvE j).map fun x => D.int (x : Nat) := rfl
theorem kk_meet : ∀ a, a < 15 → ∀ b, b < a → mtS (.list (kkS 7)) 7 a b = 1 := by decide +kernel
theorem kk_len3 (j : Nat) : ∀ i, i < 5 → (el (.list (kkE j 5)) i).len = 3
 | 0, _ => rfl
 | 1, _ => rfl
 | 2, _ => rfl
 | 3, _ => rfl
 | 4, _ => rfl
 | i + 5, h => absurd h (by omega)
theorem kkS_at {i : Nat} (h : i < 7) : el (.list (kkS 7)) i = .list (kkE i 5) := by
 unfold kkS el nthD
 show (((List.range 7).map fun j => D.list (kkE j 5))[i]?).getD .nil = _
 rw [List.getElem?_map, List.getElem?_range h]; rfl
theorem kk_one : oneS 15 (.list (kkS 7)) := by
 have hL : (D.list (kkS 7)).len = 7 := kkS_len 7
 have hEl : ∀ j, (D.list (kkE j 5)).len = 5 := fun j => kkE_len j 5 (Nat.le_refl _)
 have h0 := kkS_at (i := 0) (by decide)
 have hsz : ∀ i, i < 5 → nAt (.list (szL (.list (kkS 7)) 5)) i = 3 := fun i hi => by rw [szL_at _ hi, h0, kk_len3 0 i hi]; rfl
 have hchk : ∀ sz : D, (0 < sz.len → sz.len = 5 ∧ ∀ i, i < 5 → nAt sz i = 3) → chk ((15 : Nat) : Int) sz (.list (kkS 7)) = (0, 0) := fun sz hs => by
  refine chk_zero (by decide) (by decide) (fun hz => ?_) (by rw [hL]; decide) fun i hi => ?_
  ·obtain ⟨z1, z2⟩ := hs hz
   refine ⟨fun i hi => by rw [z2 i (by omega)]; decide, ?_⟩
   rw [z1, sumZ_const z2 5 (Nat.le_refl _)]; rfl
  ·rw [hL] at hi
   rw [kkS_at hi]
   refine errE_zero (v := kvE i) (fun j hj => ?_) (fun hz => ?_) (by rw [hEl]; exact kk_flat i) (kk_ins i hi)
   ·rw [hEl] at hj; rw [kk_len3 i j hj]; decide
   ·obtain ⟨z1, z2⟩ := hs hz
    exact ⟨by rw [hEl, z1], fun j hj => by rw [hEl] at hj; rw [kk_len3 i j hj, z2 j hj]; rfl⟩
 refine ⟨⟨by decide, by decide⟩, ⟨by rw [hL]; decide, fun i hi => ?_⟩, by rw [hL]; decide, by rw [h0, hEl]; decide, hchk _ (fun hz => absurd hz (Nat.lt_irrefl 0)), ?_, fun a b hb ha => ?_, ?_, ?_⟩
 ·rw [hL] at hi
  rw [kkS_at hi]
  exact ⟨by rw [hEl]; decide, fun j hj => by rw [hEl] at hj; rw [kk_len3 i j hj]; decide⟩
 ·rw [h0, hEl]; exact hchk _ (fun _ => ⟨szL_len _ _, hsz⟩)
 ·rw [hL]; exact kk_meet a ha b hb
 ·rw [h0, hEl]
  refine ⟨by decide, by decide, ⟨fun i hi => ?_, ?_⟩⟩
  ·rw [szL_len] at hi; rw [hsz i hi]; decide
  ·rw [szL_len, sumZ_const hsz 5 (Nat.le_refl _)]; rfl
 ·rw [h0, hEl, hL, triS_const (t := 3) (fun i hi => by rw [hsz i hi]; rfl) 5 (Nat.le_refl _)]
  decide
end Go.Ev

end

section
open Go.Proofs
namespace Go.Ev
def alT (g : Nat) : D := .list [.int (g : Nat)]
def alE (x : Nat) : List D := (List.range x).map alT
def alL (n x : Nat) : List D := (List.range x).map fun _ => .list (alE n)
def alI (l : List D) (e : Nat) : Nat → List D
 | 0 => l
 | x + 1 => l.set e (.list (alE (x + 1)))
noncomputable def con67 : Con := fun | [.int .i64 n] => some (1 ≤ n ∧ n ≤ 64, .dat 24 (.list (alL n.toNat 64))) | _ => none
open Classical in
noncomputable def plR (q : Int) : D := if plQ q then .list (plS q.toNat) else .nil
open Classical in
noncomputable def plX (q : Int) : Int := if plQ q then 0 else 90
noncomputable def con17a : Con := fun | [.int .i64 q] => some (1 ≤ q ∧ q ≤ 8, .tup [.dat 24 (plR q), .int .i64 (plX q)]) | _ => none
noncomputable def con38a : Con := fun | [.int .i64 k, .int .i64 q] => some ((1 ≤ k ∧ k ≤ 64) ∧ 1 ≤ q ∧ q ≤ 64, .tup [.dat 24 (netR k q), .int .i64 (netX k q)]) | _ => none
noncomputable def con56n : Con := fun | [.int .i64 q] => some (¬ fldP q, .tup [.agg [.int .i64 0, .int .i64 0, .int .i64 0], .prop False]) | _ => none
noncomputable def conF : Con := fun _ => some (False, .int .i64 0)
noncomputable def nrAnn : FuncId → Nat → Option Ann
 | 38, 6 => some { τ := Unit, slots := fun _ _ _ => [], blks := fun _ _ _ => [], inv := fun _ _ _ => False, meas := fun _ _ _ => 0 }
 | 38, 9 => some { τ := Unit, slots := fun _ _ _ => [], blks := fun _ _ _ => [], inv := fun _ _ _ => False, meas := fun _ _ _ => 0 }
 | 38, 13 => some { τ := Unit, slots := fun _ _ _ => [], blks := fun _ _ _ => [], inv := fun _ _ _ => False, meas := fun _ _ _ => 0 }
 | 17, 6 => some { τ := Unit, slots := fun _ _ _ => [], blks := fun _ _ _ => [], inv := fun _ _ _ => False, meas := fun _ _ _ => 0 }
 | _, _ => none
noncomputable def nf1 : FuncId → Option Con
 | 56 => some con56n
 | 65 => some conF
 | 58 => some conF
 | 39 => some con39r
 | _ => none
def rowL (n : Int) : D := .list [.list [.list ((List.range n.toNat).map fun i => .int (0 + (i : Nat)))]]
def d1P (n z : Int) : Prop := z = n
def d2P (z : Int) : Prop := z = 1
def d3P (z : Int) : Prop := z = 2
def d4P (n z : Int) : Prop := z = 3 ∧ n = 15
def d5P (n z : Int) : Prop := z * z = n
def prsD (n : Int) : D := .list (p2S n.toNat (evM n.toNat) (evM n.toNat - 1))
structure hasE (s : D) (e : Int) : Prop where
 out : e ≤ (s.len : Nat)
open Classical in
noncomputable def des6 (n z e : Int) : D := if hasE (netR z (n.tdiv z)) e then netR z (n.tdiv z) else .nil
open Classical in
noncomputable def des5 (n z e : Int) : D := if d5P n z ∧ hasE (plR z) e then plR z else des6 n z e
open Classical in
noncomputable def des4 (n z e : Int) : D := if d4P n z ∧ hasE (.list (kkS 7)) e then .list (kkS 7) else des5 n z e
open Classical in
noncomputable def des3 (n z e : Int) : D := if d3P z ∧ hasE (prsD n) e then prsD n else des4 n z e
open Classical in
noncomputable def des2 (n z e : Int) : D := if d2P z ∧ hasE (.list (alL n.toNat 64)) e then .list (alL n.toNat 64) else des3 n z e
open Classical in
noncomputable def desD (n z e : Int) : D := if d1P n z ∧ hasE (rowL n) e then rowL n else des2 n z e
structure sizZ (n z : Int) : Prop where
 n1 : 1 ≤ n ∧ n ≤ 64
 z1 : 1 ≤ z
 dv : n.tmod z = 0
open Classical in
noncomputable def desR (n z e : Int) : D := if e = 0 then .nil else if desD n z e = .nil then .nil else (desD n z e).sub 0 e.toNat
open Classical in
noncomputable def desX (n z e : Int) : Int := if e = 0 then 0 else if desD n z e = .nil then 91 else 0
noncomputable def con19d : Con := fun | [.int .i64 n, .int .i64 z, .int .i64 e] => some (sizZ n z ∧ 0 ≤ e ∧ e ≤ 64, .tup [.dat 24 (desR n z e), .int .i64 (desX n z e)]) | _ => none
noncomputable def dsAnn : FuncId → Nat → Option Ann
 | 67, 3 => some { τ := Nat × List D, slots := fun _ _ x => [(9, .int .i64 x.1)], blks := fun S _ x => [(slSB S 3, .own S.nx 33 25 x.2)], inv := fun S _ x => x.1 ≤ 64 ∧ x.2 = alL (slI S 0).toNat x.1 ++ List.replicate (64 - x.1) .nil, meas := fun _ _ x => 64 - x.1 }
 | 67, 6 => some { τ := Nat × List D, slots := fun _ _ x => [(13, .int .i64 x.1)], blks := fun S _ x => [(slSB S 3, .own S.nx 33 25 x.2)], inv := fun S _ x => x.1 ≤ (slI S 0).toNat ∧ x.2 = alI (slRow S 3) (slI S 4).toNat x.1, meas := fun S _ x => (slI S 0).toNat - x.1 }
 | _, _ => none
noncomputable def ds1 : FuncId → Option Con
 | 16 => some con19
 | 17 => some con17a
 | 18 => some con18k
 | 38 => some con38a
 | 39 => some (extP con39r)
 | 67 => some con67
 | _ => none
noncomputable def con5d : Con := fun | [.int .u8 a, .int .u8 b, .int .u8 c] => some ((0 ≤ a ∧ a < 256) ∧ (0 ≤ b ∧ b < 256) ∧ 0 ≤ c ∧ c < 256, .prop True) | _ => none
noncomputable def dlAnn : FuncId → Nat → Option Ann
 | 5, 3 => some { τ := Int, slots := fun _ _ x => [(9, .int .i64 x)], blks := fun _ _ _ => [], inv := fun S _ x => 1 ≤ x ∧ x ≤ slI S 7, meas := fun _ _ x => x.toNat }
 | 20, 8 => some { τ := Nat, slots := fun _ _ x => [(8, .int .i64 x)], blks := fun S _ x => [(slSB S 7, .arr 3 (List.replicate x (nthD (slRow S 0) 0) ++ List.replicate ((slRow S 7).length - x) (.int 0)))], inv := fun S _ x => 1 ≤ x ∧ x ≤ (slRow S 7).length, meas := fun S _ x => (slRow S 7).length - x }
 | _, _ => none
noncomputable def dl1 : FuncId → Option Con
 | 19 => some con19d
 | 10 => some (extP con17b)
 | 7 => some con5
 | 8 => some con8m
 | 42 => some (extP con15)
 | _ => none
end Go.Ev

end
