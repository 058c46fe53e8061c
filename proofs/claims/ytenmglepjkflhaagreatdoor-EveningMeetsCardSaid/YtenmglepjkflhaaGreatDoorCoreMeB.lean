/-
  Part of the engine that the claim is proved with: it states nothing of the document by itself.
-/
import Derived.Test.YtenmglepjkflhaaGreatDoorCoreMeA
open Go.Proofs
namespace Go.Ev
set_option maxRecDepth 100000
set_option maxHeartbeats 4000000
def bdZ (q : List D) (x y : Int) : List D := q.set x.toNat (.list ((nthD q x.toNat).asList.set y.toNat (.int (nAt (nthD q x.toNat) y.toNat + 1))))
def addN (q : List D) (t : D) : Nat → List D
 | 0 => q
 | 1 => q
 | i + 2 => updP (addN q t (i + 1)) (nAt t i) (nAt t (i + 1))
def bdT (q : List D) (t : D) : List D := if 2 < t.len then updP (addN q t t.len) (nAt t (t.len - 1)) (nAt t 0) else addN q t t.len
def addE (q : List D) (ev : D) : Nat → List D
 | 0 => q
 | j + 1 => bdT (addE q ev j) (el ev j)
def addS (q : List D) (s : D) : Nat → List D
 | 0 => q
 | i + 1 => addE (addS q s i) (el s i) (el s i).len
noncomputable def con9b7 : Con := fun | [.int .i64 n, .dat 22 s] => some (goodS n s, .dat 26 (.list (addS (zrL n.toNat n.toNat) s s.len))) | _ => none
noncomputable def rnbAnn : FuncId → Nat → Option Ann
 | 56, 3 => some { τ := Nat, slots := fun _ _ x => [(8, .int .i64 x)], blks := fun S _ x => [(slSB S 3, .own S.nx 27 3 (zrL (slI S 0).toNat x))], inv := fun S _ x => x ≤ (slI S 0).toNat, meas := fun S _ x => (slI S 0).toNat - x }
 | 32, 3 => some { τ := Nat, slots := fun _ _ x => [(16, .int .i64 x)], blks := fun S _ x => [(slSB S 7, .own S.nx 27 3 (addS (slRow S 7) (slD S 14) x))], inv := fun S _ x => x ≤ (slD S 14).len, meas := fun S _ x => (slD S 14).len - x }
 | 32, 6 => some { τ := Nat, slots := fun _ _ y => [(22, .int .i64 y)], blks := fun S _ y => [(slSB S 7, .own S.nx 27 3 (addE (slRow S 7) (slD S 20) y))], inv := fun S _ y => y ≤ (slD S 20).len, meas := fun S _ y => (slD S 20).len - y }
 | 59, 1 => some { τ := Nat, slots := fun _ _ z => [(3, .int .i64 z)], blks := fun S _ z => [(0, .own S.nx 27 3 (addN (bkL S 0) (slBx S 1) z))], inv := fun S _ z => 1 ≤ z ∧ z ≤ (slBx S 1).len, meas := fun S _ z => (slBx S 1).len - z }
 | _, _ => none
theorem vc9b7 : ∀ (n : Int) (s : D), symFun (ctx mt2 rnbAnn) 8 (9 : FuncId) [V.int IntKind.i64 n, V.dat (22 : TypeId) s] (V.dat (26 : TypeId) (D.list (addS (zrL n.toNat n.toNat) s s.len))) = (bigP s ∧ (((chk n D.nil
s).snd = 0 → False) → D.nil = D.list (addS (zrL n.toNat n.toNat) s s.len)) ∧ ((((chk n D.nil s).snd = 0 → False) → False) → 0 ≤ n ∧ n ≤ n ∧ n ≤ 16777216 ∧ 24 * n.toNat ≤ 281474976710656 ∧ (∃ (x : Nat), x.le n.toNat ∧ (0
= (x : Int) ∧ True) ∧ (List.replicate n.toNat D.nil = zrL n.toNat x ∧ allNil (List.replicate n.toNat D.nil)) ∧ True) ∧ ∀ (x : Nat), x.le n.toNat → n.toNat - x < LIM ∧ ((x : Int) < n → 0 ≤ n ∧ n ≤ n ∧ n ≤ 16777216 ∧ 8 *
n.toNat ≤ 281474976710656 ∧ 0 ≤ (x : Int) ∧ (x : Int) < (n.toNat : Int) ∧ x < (zrL n.toNat x).length ∧ True ∧ (0 : Nat) = 0 ∧ n.toNat = (List.replicate n.toNat (D.int 0)).length ∧ n.toNat = n.toNat ∧ fits64 ((x : Int) +
1) ∧ ∃ (y : Nat), y.le n.toNat ∧ n.toNat - y < n.toNat - x ∧ ((x : Int) + 1 = (y : Int) ∧ True) ∧ (zrL n.toNat x).set x (D.list (List.replicate n.toNat (D.int 0))) = zrL n.toNat y ∧ True) ∧ (((x : Int) < n → False) → (∃
(x_1 : Nat), x_1.le s.len ∧ (0 = (x_1 : Int) ∧ True) ∧ zrL n.toNat x = addS (zrL n.toNat x) s x_1 ∧ True) ∧ ∀ (x_1 : Nat), x_1.le s.len → s.len - x_1 < LIM ∧ ((x_1 : Int) < (s.len : Int) → 0 ≤ (x_1 : Int) ∧ (x_1 : Int) <
(s.len : Int) ∧ (∃ (x_2 : Nat), x_2.le (el s x_1).len ∧ (0 = (x_2 : Int) ∧ True) ∧ addS (zrL n.toNat x) s x_1 = addE (addS (zrL n.toNat x) s x_1) (el s x_1) x_2 ∧ True) ∧ ∀ (x_2 : Nat), x_2.le (el s x_1).len → (el s
x_1).len - x_2 < LIM ∧ ((x_2 : Int) < (↑(el s x_1).len : Int) → 0 ≤ (x_2 : Int) ∧ (x_2 : Int) < (↑(el s x_1).len : Int) ∧ (∃ (x_3 : Nat), (1 ≤ x_3 ∧ x_3 ≤ (el (el s x_1) x_2).len) ∧ (1 = (x_3 : Int) ∧ True) ∧ addE (addS
(zrL n.toNat x) s x_1) (el s x_1) x_2 = (addN (addE (addS (zrL n.toNat x) s x_1) (el s x_1) x_2) (el (el s x_1) x_2) x_3) ∧ True) ∧ ∀ (x_3 : Nat), 1 ≤ x_3 ∧ x_3 ≤ (el (el s x_1) x_2).len → (el (el s x_1) x_2).len - x_3 <
LIM ∧ ((x_3 : Int) < (↑(el (el s x_1) x_2).len : Int) → fits64 ((x_3 : Int) - 1) ∧ 0 ≤ (x_3 : Int) - 1 ∧ (x_3 : Int) - 1 < (↑(el (el s x_1) x_2).len : Int) ∧ 0 ≤ (x_3 : Int) ∧ (x_3 : Int) < (↑(el (el s x_1) x_2).len :
Int) ∧ wrC n.toNat (addN (addE (addS (zrL n.toNat x) s x_1) (el s x_1) x_2) (el (el s x_1) x_2) x_3) (nAt (el (el s x_1) x_2) ((x_3 : Int) - 1).toNat) (nAt (el (el s x_1) x_2) x_3) (wrC n.toNat (bdZ (addN (addE (addS
(zrL n.toNat x) s x_1) (el s x_1) x_2) (el (el s x_1) x_2) x_3) (nAt (el (el s x_1) x_2) ((x_3 : Int) - 1).toNat) (nAt (el (el s x_1) x_2) x_3)) (nAt (el (el s x_1) x_2) x_3) (nAt (el (el s x_1) x_2) ((x_3 : Int) -
1).toNat) (fits64 ((x_3 : Int) + 1) ∧ ∃ (y : Nat), (1 ≤ y ∧ y ≤ (el (el s x_1) x_2).len) ∧ (el (el s x_1) x_2).len - y < (el (el s x_1) x_2).len - x_3 ∧ ((x_3 : Int) + 1 = (y : Int) ∧ True) ∧ (bdZ (bdZ (addN (addE (addS
(zrL n.toNat x) s x_1) (el s x_1) x_2) (el (el s x_1) x_2) x_3) (nAt (el (el s x_1) x_2) ((x_3 : Int) - 1).toNat) (nAt (el (el s x_1) x_2) x_3)) (nAt (el (el s x_1) x_2) x_3) (nAt (el (el s x_1) x_2) ((x_3 : Int) -
1).toNat)) = addN (addE (addS (zrL n.toNat x) s x_1) (el s x_1) x_2) (el (el s x_1) x_2) y ∧ True))) ∧ (((x_3 : Int) < (↑(el (el s x_1) x_2).len : Int) → False) → (2 < (↑(el (el s x_1) x_2).len : Int) → fits64 ((↑(el (el
s x_1) x_2).len : Int) - 1) ∧ 0 ≤ (↑(el (el s x_1) x_2).len : Int) - 1 ∧ (↑(el (el s x_1) x_2).len : Int) - 1 < (↑(el (el s x_1) x_2).len : Int) ∧ (0 : Int) ≤ 0 ∧ 0 < (↑(el (el s x_1) x_2).len : Int) ∧ wrC n.toNat (addN
(addE (addS (zrL n.toNat x) s x_1) (el s x_1) x_2) (el (el s x_1) x_2) x_3) (nAt (el (el s x_1) x_2) ((↑(el (el s x_1) x_2).len : Int) - 1).toNat) (nAt (el (el s x_1) x_2) 0) (wrC n.toNat (bdZ (addN (addE (addS (zrL
n.toNat x) s x_1) (el s x_1) x_2) (el (el s x_1) x_2) x_3) (nAt (el (el s x_1) x_2) ((↑(el (el s x_1) x_2).len : Int) - 1).toNat) (nAt (el (el s x_1) x_2) 0)) (nAt (el (el s x_1) x_2) 0) (nAt (el (el s x_1) x_2) ((↑(el
(el s x_1) x_2).len : Int) - 1).toNat) (fits64 ((x_2 : Int) + 1) ∧ ∃ (y : Nat), y.le (el s x_1).len ∧ (el s x_1).len - y < (el s x_1).len - x_2 ∧ ((x_2 : Int) + 1 = (y : Int) ∧ True) ∧ (bdZ (bdZ (addN (addE (addS (zrL
n.toNat x) s x_1) (el s x_1) x_2) (el (el s x_1) x_2) x_3) (nAt (el (el s x_1) x_2) ((↑(el (el s x_1) x_2).len : Int) - 1).toNat) (nAt (el (el s x_1) x_2) 0)) (nAt (el (el s x_1) x_2) 0) (nAt (el (el s x_1) x_2) ((↑(el
(el s x_1) x_2).len : Int) - 1).toNat)) = addE (addS (zrL n.toNat x) s x_1) (el s x_1) y ∧ True))) ∧ ((2 < (↑(el (el s x_1) x_2).len : Int) → False) → fits64 ((x_2 : Int) + 1) ∧ ∃ (y : Nat), y.le (el s x_1).len ∧ (el s
x_1).len - y < (el s x_1).len - x_2 ∧ ((x_2 : Int) + 1 = (y : Int) ∧ True) ∧ (addN (addE (addS (zrL n.toNat x) s x_1) (el s x_1) x_2) (el (el s x_1) x_2) x_3) = addE (addS (zrL n.toNat x) s x_1) (el s x_1) y ∧ True))) ∧
(((x_2 : Int) < (↑(el s x_1).len : Int) → False) → fits64 ((x_1 : Int) + 1) ∧ ∃ (y : Nat), y.le s.len ∧ s.len - y < s.len - x_1 ∧ ((x_1 : Int) + 1 = (y : Int) ∧ True) ∧ addE (addS (zrL n.toNat x) s x_1) (el s x_1) x_2 =
addS (zrL n.toNat x) s y ∧ True)) ∧ (((x_1 : Int) < (s.len : Int) → False) → 0 + n.toNat ≤ (addS (zrL n.toNat x) s x_1).length ∧ noHole (addS (zrL n.toNat x) s x_1) ∧ (isSliceT (ctx mt2 rnbAnn).P (27 : TypeId) = true ∧
sizeIs (ctx mt2 rnbAnn).P (27 : TypeId) 1 = true) ∧ D.list (List.take n.toNat (addS (zrL n.toNat x) s x_1)) = D.list (addS (zrL n.toNat n.toNat) s s.len))))) := by intros; kernel_rfl
theorem addZ_sq {m : Nat} {K : Int} {f : Nat → Nat → Int} {q : List D} {x y : Int} (h : sqF m K f q) (hx : 0 ≤ x ∧ x < m) (hy : 0 ≤ y ∧ y < m) : sqF m (K + 1) (fun a b => f a b + if x = a ∧ y = b then 1 else 0) (bdZ q x y) := by
 refine ⟨?_, fun a b ha hb => by have := h.bnd a b ha hb; split <;> omega⟩
 rw [h.eq]
 unfold bdZ
 rw [sqD_at f (a := x.toNat) (by omega)]
 have e1 : nAt (.list (rowF m f x.toNat)) y.toNat = f x.toNat y.toNat := by
  show (nthD (rowF m f x.toNat) y.toNat).asInt = _
  rw [rowF_at f _ (by omega)]; rfl
 rw [e1]
 show (sqD m f).set x.toNat (.list ((rowF m f x.toNat).set y.toNat (.int (f x.toNat y.toNat + 1)))) = _
 unfold sqD rowF
 rw [set_map, set_map]
 apply List.map_congr_left
 intro a _
 by_cases e : x.toNat = a
 ·subst e
  rw [if_pos rfl]
  congr 1
  apply List.map_congr_left
  intro b _
  show _ = D.int (f x.toNat b + if x = (x.toNat : Int) ∧ y = (b : Int) then (1 : Int) else 0)
  by_cases e2 : y.toNat = b
  ·subst e2; rw [if_pos rfl, if_pos ⟨by omega, by omega⟩]
  ·rw [if_neg e2, if_neg (by omega), Int.add_zero]
 ·rw [if_neg e]
  congr 1
  apply List.map_congr_left
  intro b _
  show _ = D.int (f a b + if x = (a : Int) ∧ y = (b : Int) then (1 : Int) else 0)
  rw [if_neg (by omega), Int.add_zero]
theorem addN_sq {m : Nat} {K : Int} {f : Nat → Nat → Int} {q : List D} {t : D} (h : sqF m K f q) (ht : ∀ k, k < t.len → 0 ≤ nAt t k ∧ nAt t k < m) : ∀ i, i ≤ t.len → sqF m (K + 2 * i) (fun a b => f a b + nbN t i a b) (addN q t i)
 | 0, _ => h.cong (by omega) fun a b _ _ => by simp [nbN]
 | 1, _ => h.cong (by omega) fun a b _ _ => by simp [nbN]
 | i + 2, hi => by
  have ih := addN_sq h ht (i + 1) (by omega)
  have := updP_sq ih (ht i (by omega)) (ht (i + 1) (by omega))
  refine this.cong (by omega) fun a b _ _ => ?_
  show _ = f a b + (nbN t (i + 1) a b + (if i + 1 = 0 then 0 else indN (nAt t (i + 1 - 1)) (nAt t (i + 1)) a b))
  rw [if_neg (by omega), Nat.add_sub_cancel, Int.add_assoc]
theorem addT_sq {m : Nat} {K : Int} {f : Nat → Nat → Int} {q : List D} {t : D} (h : sqF m K f q) (ht : ∀ k, k < t.len → 0 ≤ nAt t k ∧ nAt t k < m) (hl : t.len ≤ 1000) : sqF m (K + 2002) (fun a b => f a b + nbT t a b) (bdT q t) := by
 have h1 := addN_sq h ht t.len (Nat.le_refl _)
 unfold bdT
 by_cases h2 : 2 < t.len
 ·rw [if_pos h2]
  exact (updP_sq h1 (ht (t.len - 1) (by omega)) (ht 0 (by omega))).cong (by omega) fun a b _ _ => by unfold nbT; rw [if_pos h2, Int.add_assoc]
 ·rw [if_neg h2]
  exact h1.cong (by omega) fun a b _ _ => by unfold nbT; rw [if_neg h2, Int.add_zero]
theorem addE_sq {m : Nat} {K : Int} {f : Nat → Nat → Int} {q : List D} {ev : D} (h : sqF m K f q) (ht : ∀ j, j < ev.len → (el ev j).len ≤ 1000 ∧ ∀ k, k < (el ev j).len → 0 ≤ nAt (el ev j) k ∧ nAt (el ev j) k < m) : ∀ j, j ≤ ev.len → sqF m (K + 2002 * j) (fun a b => f a b + nbE ev j a b) (addE q ev j)
 | 0, _ => h.cong (by omega) fun a b _ _ => by simp [nbE]
 | j + 1, hj => (addT_sq (addE_sq h ht j (by omega)) (ht j (by omega)).2 (ht j (by omega)).1).cong (by omega) fun a b _ _ => by
   show _ = f a b + (nbE ev j a b + nbT (el ev j) a b)
   rw [Int.add_assoc]
theorem addS_sq {n : Int} {s : D} (h : goodS n s) {q : List D} (hq : sqF n.toNat 0 (fun _ _ => 0) q) : ∀ i, i ≤ s.len → sqF n.toNat (200200 * i) (nbS s i) (addS q s i)
 | 0, _ => hq.cong (by omega) fun _ _ _ _ => rfl
 | i + 1, hi => by
  have hb := (h.big.out.2 i (by omega)).out.1
  exact (addE_sq (addS_sq h hq i (by omega)) (fun j hj => good_tabs h (by omega) hj) (el s i).len (Nat.le_refl _)).cong (by omega) fun _ _ _ _ => rfl
theorem updP_N {q : List D} {t : D} {i : Nat} (h : 1 ≤ i) : bdZ (bdZ (addN q t i) (nAt t ((i : Int) - 1).toNat) (nAt t i)) (nAt t i) (nAt t ((i : Int) - 1).toNat) = addN q t (i + 1) := by
 obtain ⟨j, rfl⟩ : ∃ j, i = j + 1 := ⟨i - 1, by omega⟩
 rw [show (((j + 1 : Nat) : Int) - 1).toNat = j by omega]
 rfl
theorem s9b7 (n : Int) (s : D) (h : goodS n s) : symFun (ctx mt2 rnbAnn) 8 9 [.int .i64 n, .dat 22 s] (.dat 26 (.list (addS (zrL n.toNat n.toNat) s s.len))) := by
 rw [vc9b7]
 have hn := h.n1
 have hb := h.big.out.1
 have hz := zr_sq n.toNat
 refine ⟨h.big, fun hne => (hne (by rw [h.chk])).elim, fun _ => ⟨by omega, Int.le_refl _, by omega, by omega, ⟨0, Nat.zero_le _, ⟨rfl, trivial⟩, ⟨zr_zero _, allNil_rep _⟩, trivial⟩, fun x hx => ?_⟩⟩
 have hx : x ≤ n.toNat := hx
 refine ⟨limS (by omega), fun hlt => ⟨by omega, Int.le_refl _, by omega, by omega, by omega, by omega, by rw [zr_len _ _ hx]; omega, trivial, rfl, by rw [List.length_replicate], rfl, ⟨by omega, by omega⟩, x + 1, by show x + 1 ≤ _; omega, by omega, ⟨by omega, trivial⟩, zr_next (by omega), trivial⟩, fun hge => ?_⟩
 have hge := not_of hge
 have ex : x = n.toNat := by omega
 subst ex
 refine ⟨⟨0, Nat.zero_le _, ⟨rfl, trivial⟩, rfl, trivial⟩, fun i hi => ?_⟩
 have hi : i ≤ s.len := hi
 have hSq := addS_sq h hz i hi
 refine ⟨limS (by omega), fun hlt2 => ?_, fun hge2 => ?_⟩
 ·have hi2 : i < s.len := by omega
  have hev := (h.big.out.2 i hi2).out.1
  refine ⟨by omega, hlt2, ⟨0, Nat.zero_le _, ⟨rfl, trivial⟩, rfl, trivial⟩, fun j hj => ?_⟩
  have hj : j ≤ (el s i).len := hj
  have hEq := addE_sq hSq (fun j hj => good_tabs h hi2 hj) j hj
  refine ⟨limS (by omega), fun hlt3 => ?_, fun hge3 => ?_⟩
  ·have hj2 : j < (el s i).len := by omega
   obtain ⟨htl, htr⟩ := good_tabs h hi2 hj2
   have htp := (good_tab h hi2 hj2).pos
   refine ⟨by omega, hlt3, ⟨1, ⟨Nat.le_refl _, htp⟩, ⟨rfl, trivial⟩, rfl, trivial⟩, fun z ⟨hz1, hz2⟩ => ?_⟩
   have hNq := addN_sq hEq htr z hz2
   refine ⟨limS (by omega), fun hlt4 => ?_, fun hge4 => ?_⟩
   ·have r1 := htr ((z : Int) - 1).toNat (by omega)
    have r2 := htr z (by omega)
    exact ⟨⟨by omega, by omega⟩, by omega, by omega, by omega, hlt4, wr_ok hNq (by omega) r1 r2 (wr_ok (addZ_sq hNq r1 r2) (by omega) r2 r1 ⟨⟨by omega, by omega⟩, z + 1, ⟨by omega, by omega⟩, by omega, ⟨by omega, trivial⟩, updP_N hz1, trivial⟩)⟩
   ·have hge4 := not_of hge4
    have ez : z = (el (el s i) j).len := by omega
    subst ez
    refine ⟨fun h2 => ?_, fun h2 => ⟨⟨by omega, by omega⟩, j + 1, by show j + 1 ≤ _; omega, by omega, ⟨by omega, trivial⟩, ?_, trivial⟩⟩
    ·have r1 := htr (((el (el s i) j).len : Int) - 1).toNat (by omega)
     have r2 := htr 0 htp
     refine ⟨⟨by omega, by omega⟩, by omega, by omega, Int.le_refl _, by omega, wr_ok hNq (by omega) r1 r2 (wr_ok (addZ_sq hNq r1 r2) (by omega) r2 r1 ⟨⟨by omega, by omega⟩, j + 1, by show j + 1 ≤ _; omega, by omega, ⟨by omega, trivial⟩, ?_, trivial⟩)⟩
     show _ = bdT _ _
     unfold bdT
     rw [if_pos (by omega), show (((el (el s i) j).len : Int) - 1).toNat = (el (el s i) j).len - 1 by omega]
     rfl
    ·have h2 := not_of h2
     show _ = bdT _ _
     unfold bdT
     rw [if_neg (by omega)]
  ·have hge3 := not_of hge3
   have ej : j = (el s i).len := by omega
   subst ej
   exact ⟨⟨by omega, by omega⟩, i + 1, by show i + 1 ≤ _; omega, by omega, ⟨by omega, trivial⟩, rfl, trivial⟩
 ·have hge2 := not_of hge2
  have ei : i = s.len := by omega
  subst ei
  have hl : (addS (zrL n.toNat n.toNat) s s.len).length = n.toNat := by rw [hSq.eq, sqD_len]
  exact ⟨by rw [hl]; omega, by rw [hSq.eq]; exact sq_noHole _ _, sl7, by rw [List.take_of_length_le (by omega)]⟩
end Go.Ev
