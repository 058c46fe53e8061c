/-
  Part of the engine that the claim is proved with: it states nothing of the document by itself.
-/
import Derived.Test.YtfbcjkifmehdnaaDoorCoreG24
import Derived.Test.YtfbcjkifmehdnaaDoorCoreRnM

section
open Go.Proofs
namespace Go.Ev
set_option maxRecDepth 100000
set_option maxHeartbeats 4000000
theorem vc7 : ∀ (n : Int) (s : D), symFun (ctx rn2 rnAnn) (8 : Nat) (7 : FuncId) [V.int IntKind.i64 n, V.dat (22 : TypeId) s] (V.dat (30 : TypeId) (D.list (addS (zrL n.toNat n.toNat) s s.len))) =
(bigP s ∧ (((chk n D.nil s).snd = (0 : Int) → False) → D.nil = D.list (addS (zrL n.toNat n.toNat) s s.len)) ∧ ((((chk n D.nil s).snd = (0 : Int) → False) → False) → (0 : Int) ≤ n ∧ n ≤ n ∧ n ≤
(16777216 : Int) ∧ (24 : Nat) * n.toNat ≤ (281474976710656 : Nat) ∧ (∃ (x : Nat), x.le n.toNat ∧ ((0 : Int) = (↑x : Int) ∧ True) ∧ (List.replicate n.toNat D.nil = zrL n.toNat x ∧ allNil
(List.replicate n.toNat D.nil)) ∧ True) ∧ ∀ (x : Nat), x.le n.toNat → n.toNat - x < LIM ∧ ((↑x : Int) < n → (0 : Int) ≤ n ∧ n ≤ n ∧ n ≤ (16777216 : Int) ∧ (8 : Nat) * n.toNat ≤ (281474976710656 : Nat)
∧ (0 : Int) ≤ (↑x : Int) ∧ (↑x : Int) < (↑n.toNat : Int) ∧ x < (zrL n.toNat x).length ∧ True ∧ (0 : Nat) = (0 : Nat) ∧ n.toNat = (List.replicate n.toNat (D.int (0 : Int))).length ∧ n.toNat = n.toNat ∧
((-9223372036854775808 : Int) ≤ (↑x : Int) + (1 : Int) ∧ (↑x : Int) + (1 : Int) < (9223372036854775808 : Int)) ∧ ∃ (y : Nat), y.le n.toNat ∧ n.toNat - y < n.toNat - x ∧ ((↑x : Int) + (1 : Int) = (↑y :
Int) ∧ True) ∧ (zrL n.toNat x).set x (D.list (List.replicate n.toNat (D.int (0 : Int)))) = zrL n.toNat y ∧ True) ∧ (((↑x : Int) < n → False) → (∃ (x_1 : Nat), x_1.le s.len ∧ ((0 : Int) = (↑x_1 : Int)
∧ True) ∧ zrL n.toNat x = addS (zrL n.toNat x) s x_1 ∧ True) ∧ ∀ (x_1 : Nat), x_1.le s.len → s.len - x_1 < LIM ∧ ((↑x_1 : Int) < (↑s.len : Int) → (0 : Int) ≤ (↑x_1 : Int) ∧ (↑x_1 : Int) < (↑s.len :
Int) ∧ (∃ (x_2 : Nat), x_2.le (el s x_1).len ∧ ((0 : Int) = (↑x_2 : Int) ∧ True) ∧ addS (zrL n.toNat x) s x_1 = addE (addS (zrL n.toNat x) s x_1) (el s x_1) x_2 ∧ True) ∧ ∀ (x_2 : Nat), x_2.le (el s
x_1).len → (el s x_1).len - x_2 < LIM ∧ ((↑x_2 : Int) < (↑(el s x_1).len : Int) → (0 : Int) ≤ (↑x_2 : Int) ∧ (↑x_2 : Int) < (↑(el s x_1).len : Int) ∧ (∃ (x_3 : Nat), ((1 : Nat) ≤ x_3 ∧ x_3 ≤ (el (el s
x_1) x_2).len) ∧ ((1 : Int) = (↑x_3 : Int) ∧ True) ∧ addE (addS (zrL n.toNat x) s x_1) (el s x_1) x_2 = (addN (addE (addS (zrL n.toNat x) s x_1) (el s x_1) x_2) (el (el s x_1) x_2) x_3) ∧ True) ∧ ∀
(x_3 : Nat), (1 : Nat) ≤ x_3 ∧ x_3 ≤ (el (el s x_1) x_2).len → (el (el s x_1) x_2).len - x_3 < LIM ∧ ((↑x_3 : Int) < (↑(el (el s x_1) x_2).len : Int) → ((-9223372036854775808 : Int) ≤ (↑x_3 : Int) -
(1 : Int) ∧ (↑x_3 : Int) - (1 : Int) < (9223372036854775808 : Int)) ∧ (0 : Int) ≤ (↑x_3 : Int) - (1 : Int) ∧ (↑x_3 : Int) - (1 : Int) < (↑(el (el s x_1) x_2).len : Int) ∧ (0 : Int) ≤ (↑x_3 : Int) ∧
(↑x_3 : Int) < (↑(el (el s x_1) x_2).len : Int) ∧ wrC n.toNat (addN (addE (addS (zrL n.toNat x) s x_1) (el s x_1) x_2) (el (el s x_1) x_2) x_3) (nAt (el (el s x_1) x_2) ((↑x_3 : Int) - (1 :
Int)).toNat) (nAt (el (el s x_1) x_2) x_3) (wrC n.toNat (addZ (addN (addE (addS (zrL n.toNat x) s x_1) (el s x_1) x_2) (el (el s x_1) x_2) x_3) (nAt (el (el s x_1) x_2) ((↑x_3 : Int) - (1 :
Int)).toNat) (nAt (el (el s x_1) x_2) x_3)) (nAt (el (el s x_1) x_2) x_3) (nAt (el (el s x_1) x_2) ((↑x_3 : Int) - (1 : Int)).toNat) (((-9223372036854775808 : Int) ≤ (↑x_3 : Int) + (1 : Int) ∧ (↑x_3 :
Int) + (1 : Int) < (9223372036854775808 : Int)) ∧ ∃ (y : Nat), ((1 : Nat) ≤ y ∧ y ≤ (el (el s x_1) x_2).len) ∧ (el (el s x_1) x_2).len - y < (el (el s x_1) x_2).len - x_3 ∧ ((↑x_3 : Int) + (1 : Int) =
(↑y : Int) ∧ True) ∧ (addZ (addZ (addN (addE (addS (zrL n.toNat x) s x_1) (el s x_1) x_2) (el (el s x_1) x_2) x_3) (nAt (el (el s x_1) x_2) ((↑x_3 : Int) - (1 : Int)).toNat) (nAt (el (el s x_1) x_2)
x_3)) (nAt (el (el s x_1) x_2) x_3) (nAt (el (el s x_1) x_2) ((↑x_3 : Int) - (1 : Int)).toNat)) = addN (addE (addS (zrL n.toNat x) s x_1) (el s x_1) x_2) (el (el s x_1) x_2) y ∧ True))) ∧ (((↑x_3 :
Int) < (↑(el (el s x_1) x_2).len : Int) → False) → ((2 : Int) < (↑(el (el s x_1) x_2).len : Int) → ((-9223372036854775808 : Int) ≤ (↑(el (el s x_1) x_2).len : Int) - (1 : Int) ∧ (↑(el (el s x_1)
x_2).len : Int) - (1 : Int) < (9223372036854775808 : Int)) ∧ (0 : Int) ≤ (↑(el (el s x_1) x_2).len : Int) - (1 : Int) ∧ (↑(el (el s x_1) x_2).len : Int) - (1 : Int) < (↑(el (el s x_1) x_2).len : Int)
∧ (0 : Int) ≤ (0 : Int) ∧ (0 : Int) < (↑(el (el s x_1) x_2).len : Int) ∧ wrC n.toNat (addN (addE (addS (zrL n.toNat x) s x_1) (el s x_1) x_2) (el (el s x_1) x_2) x_3) (nAt (el (el s x_1) x_2) ((↑(el
(el s x_1) x_2).len : Int) - (1 : Int)).toNat) (nAt (el (el s x_1) x_2) (0 : Nat)) (wrC n.toNat (addZ (addN (addE (addS (zrL n.toNat x) s x_1) (el s x_1) x_2) (el (el s x_1) x_2) x_3) (nAt (el (el s
x_1) x_2) ((↑(el (el s x_1) x_2).len : Int) - (1 : Int)).toNat) (nAt (el (el s x_1) x_2) (0 : Nat))) (nAt (el (el s x_1) x_2) (0 : Nat)) (nAt (el (el s x_1) x_2) ((↑(el (el s x_1) x_2).len : Int) - (1
: Int)).toNat) (((-9223372036854775808 : Int) ≤ (↑x_2 : Int) + (1 : Int) ∧ (↑x_2 : Int) + (1 : Int) < (9223372036854775808 : Int)) ∧ ∃ (y : Nat), y.le (el s x_1).len ∧ (el s x_1).len - y < (el s
x_1).len - x_2 ∧ ((↑x_2 : Int) + (1 : Int) = (↑y : Int) ∧ True) ∧ (addZ (addZ (addN (addE (addS (zrL n.toNat x) s x_1) (el s x_1) x_2) (el (el s x_1) x_2) x_3) (nAt (el (el s x_1) x_2) ((↑(el (el s
x_1) x_2).len : Int) - (1 : Int)).toNat) (nAt (el (el s x_1) x_2) (0 : Nat))) (nAt (el (el s x_1) x_2) (0 : Nat)) (nAt (el (el s x_1) x_2) ((↑(el (el s x_1) x_2).len : Int) - (1 : Int)).toNat)) = addE
(addS (zrL n.toNat x) s x_1) (el s x_1) y ∧ True))) ∧ (((2 : Int) < (↑(el (el s x_1) x_2).len : Int) → False) → ((-9223372036854775808 : Int) ≤ (↑x_2 : Int) + (1 : Int) ∧ (↑x_2 : Int) + (1 : Int) <
(9223372036854775808 : Int)) ∧ ∃ (y : Nat), y.le (el s x_1).len ∧ (el s x_1).len - y < (el s x_1).len - x_2 ∧ ((↑x_2 : Int) + (1 : Int) = (↑y : Int) ∧ True) ∧ (addN (addE (addS (zrL n.toNat x) s x_1)
(el s x_1) x_2) (el (el s x_1) x_2) x_3) = addE (addS (zrL n.toNat x) s x_1) (el s x_1) y ∧ True))) ∧ (((↑x_2 : Int) < (↑(el s x_1).len : Int) → False) → ((-9223372036854775808 : Int) ≤ (↑x_1 : Int) +
(1 : Int) ∧ (↑x_1 : Int) + (1 : Int) < (9223372036854775808 : Int)) ∧ ∃ (y : Nat), y.le s.len ∧ s.len - y < s.len - x_1 ∧ ((↑x_1 : Int) + (1 : Int) = (↑y : Int) ∧ True) ∧ addE (addS (zrL n.toNat x) s
x_1) (el s x_1) x_2 = addS (zrL n.toNat x) s y ∧ True)) ∧ (((↑x_1 : Int) < (↑s.len : Int) → False) → (0 : Nat) + n.toNat ≤ (addS (zrL n.toNat x) s x_1).length ∧ noHole (addS (zrL n.toNat x) s x_1) ∧
(isSliceT (ctx rn2 rnAnn).P (29 : TypeId) = true ∧ sizeIs (ctx rn2 rnAnn).P (29 : TypeId) (1 : Nat) = true) ∧ D.list (List.take n.toNat (addS (zrL n.toNat x) s x_1)) = D.list (addS (zrL n.toNat
n.toNat) s s.len))))) := by intros; kernel_rfl
theorem vc19 : ∀ (n : Int) (s : D), symFun (ctx rn1 rnAnn) (3 : Nat) (19 : FuncId) [V.int IntKind.i64 n, V.dat (22 : TypeId) s] (V.prop ((chk n D.nil s).snd = (0 : Int))) = (((0 : Nat) ≤ (1000 : Nat)
∧ bigP s) ∧ ((chk n D.nil s).snd = (0 : Int) ↔ (chk n D.nil s).snd = (0 : Int))) := by intros; kernel_rfl
theorem limS {n : Nat} (h : n ≤ 16777216) : n < LIM := by unfold LIM; omega
theorem scan_all {n : Int} {s : D} : ∀ f i, scanK n .nil s f i = (0, 0) → ∀ k, i ≤ k → k < i + f → errE n .nil (el s k) = 0
 | 0, i, _, k, h1, h2 => by omega
 | f + 1, i, h, k, h1, h2 => by
  unfold scanK at h
  by_cases he : errE n .nil (el s i) ≠ 0
  ·rw [if_pos he] at h
   exact absurd (congrArg Prod.snd h) he
  ·rw [if_neg he] at h
   rcases Nat.lt_or_ge i k with h3 | h3
   ·exact scan_all f (i + 1) h k h3 (by omega)
   ·have : k = i := by omega
    subst this; exact Classical.not_not.1 he
theorem good_err {n : Int} {s : D} (h : goodS n s) {i : Nat} (hi : i < s.len) : errE n .nil (el s i) = 0 := by
 have hc := h.chk
 unfold chk at hc
 split at hc
 ·exact absurd (congrArg Prod.snd hc) (by decide)
 ·split at hc
  ·exact absurd (congrArg Prod.snd hc) (by decide)
  ·exact scan_all _ _ hc i (Nat.zero_le _) (by omega)
theorem flat_mem (ev : D) {j : Nat} {a : D} (ha : a ∈ (el ev j).asList) : ∀ m, j < m → a ∈ flatL ev m
 | 0, h => by omega
 | m + 1, h => by
  show a ∈ flatL ev m ++ (el ev m).asList
  rcases Nat.lt_or_ge j m with h1 | h1
  ·exact List.mem_append_left _ (flat_mem ev ha m h1)
  ·have : j = m := by omega
   subst this; exact List.mem_append_right _ ha
structure tabP (n : Int) (tb : D) : Prop where
 pos : 0 < tb.len
 rng : ∀ k, k < tb.len → 0 ≤ nAt tb k ∧ nAt tb k < n
theorem good_tab {n : Int} {s : D} (h : goodS n s) {i j : Nat} (hi : i < s.len) (hj : j < (el s i).len) : tabP n (el (el s i) j) := by
 have he := good_err h hi
 unfold errE at he
 split at he
 ·cases he
 ·rename_i hne
  have h1 : ¬ emptyP (el s i) := fun q => hne (.inl q)
  refine ⟨Nat.pos_of_ne_zero fun h0 => h1 ⟨j, hj, h0⟩, fun k hk => ?_⟩
  unfold errG at he
  split at he
  ·cases he
  ·rename_i ho
   refine Classical.byContradiction fun hc => ho ⟨nthD (el (el s i) j).asList k, flat_mem _ (nthD_mem hk) _ hj, hc⟩
theorem s19 (n : Int) (s : D) (hs : bigP s) : symFun (ctx rn1 rnAnn) 3 19 [.int .i64 n, .dat 22 s] (.prop ((chk n .nil s).2 = 0)) := by
 rw [vc19]; exact ⟨⟨Nat.zero_le _, hs⟩, Iff.rfl⟩
def rowF (m : Nat) (f : Nat → Nat → Int) (a : Nat) : List D := (List.range m).map fun b => .int (f a b)
theorem rowF_len (m : Nat) (f : Nat → Nat → Int) (a : Nat) : (rowF m f a).length = m := by unfold rowF; rw [List.length_map, List.length_range]
theorem rowF_at {m : Nat} (f : Nat → Nat → Int) (a : Nat) {b : Nat} (h : b < m) : nthD (rowF m f a) b = .int (f a b) := by
 unfold rowF nthD
 rw [List.getElem?_map, List.getElem?_range h]; rfl
theorem sqD_len (m : Nat) (f : Nat → Nat → Int) : (sqD m f).length = m := by unfold sqD; rw [List.length_map, List.length_range]
theorem sqD_at {m : Nat} (f : Nat → Nat → Int) {a : Nat} (h : a < m) : nthD (sqD m f) a = .list (rowF m f a) := by
 unfold sqD nthD
 rw [List.getElem?_map, List.getElem?_range h]; rfl
structure sqF (m : Nat) (K : Int) (f : Nat → Nat → Int) (q : List D) : Prop where
 eq : q = sqD m f
 bnd : ∀ a b, a < m → b < m → 0 ≤ f a b ∧ f a b ≤ K
theorem sqF.cong {m : Nat} {K K' : Int} {f g : Nat → Nat → Int} {q : List D} (h : sqF m K f q) (hK : K ≤ K') (he : ∀ a b, a < m → b < m → f a b = g a b) : sqF m K' g q := by
 refine ⟨h.eq.trans ?_, fun a b ha hb => by have := h.bnd a b ha hb; rw [← he a b ha hb]; omega⟩
 unfold sqD
 apply List.map_congr_left
 intro a ha
 congr 1
 apply List.map_congr_left
 intro b hb
 rw [he a b (List.mem_range.1 ha) (List.mem_range.1 hb)]
theorem set_map {α : Type} (m X : Nat) (g : Nat → α) (v : α) : ((List.range m).map g).set X v = (List.range m).map fun a => if X = a then v else g a := by
 apply List.ext_getElem (by simp)
 intro i h1 h2
 rw [List.getElem_set]
 simp only [List.getElem_map, List.getElem_range]
theorem addZ_sq {m : Nat} {K : Int} {f : Nat → Nat → Int} {q : List D} {x y : Int} (h : sqF m K f q) (hx : 0 ≤ x ∧ x < m) (hy : 0 ≤ y ∧ y < m) : sqF m (K + 1) (fun a b => f a b + if x = a ∧ y = b then 1 else 0) (addZ q x y) := by
 refine ⟨?_, fun a b ha hb => by have := h.bnd a b ha hb; split <;> omega⟩
 rw [h.eq]
 unfold addZ
 rw [sqD_at f (a := x.toNat) (by omega)]
 have e1 : nAt (.list (rowF m f x.toNat)) y.toNat = f x.toNat y.toNat := by
  show (nthD (rowF m f x.toNat) y.toNat).asInt = _
  rw [rowF_at f _ (by omega)]; rfl
 rw [e1]
 show (sqD m f).set x.toNat (.list ((rowF m f x.toNat).set y.toNat (.int (f x.toNat y.toNat + 1)))) = _
 unfold sqD rowF
 rw [set_map, set_map]
 apply List.map_congr_left
 intro a _
 by_cases e : x.toNat = a
 ·subst e
  rw [if_pos rfl]
  congr 1
  apply List.map_congr_left
  intro b _
  show _ = D.int (f x.toNat b + if x = (x.toNat : Int) ∧ y = (b : Int) then (1 : Int) else 0)
  by_cases e2 : y.toNat = b
  ·subst e2; rw [if_pos rfl, if_pos ⟨by omega, by omega⟩]
  ·rw [if_neg e2, if_neg (by omega), Int.add_zero]
 ·rw [if_neg e]
  congr 1
  apply List.map_congr_left
  intro b _
  show _ = D.int (f a b + if x = (a : Int) ∧ y = (b : Int) then (1 : Int) else 0)
  rw [if_neg (by omega), Int.add_zero]
theorem wr_ok {m : Nat} {K : Int} {f : Nat → Nat → Int} {q : List D} {x y : Int} {k : Prop} (h : sqF m K f q) (hK : K < 9000000000000000000) (hx : 0 ≤ x ∧ x < m) (hy : 0 ≤ y ∧ y < m) (hk : k) : wrC m q x y k := by
 have hq := h.eq
 subst hq
 have e0 := sqD_at f (a := x.toNat) (m := m) (by omega)
 have hl := sqD_len m f
 have e1 : nAt (.list (rowF m f x.toNat)) y.toNat = f x.toNat y.toNat := by
  show (nthD (rowF m f x.toNat) y.toNat).asInt = _
  rw [rowF_at f _ (by omega)]; rfl
 have hb := h.bnd x.toNat y.toNat (by omega) (by omega)
 have hrl : (D.list (rowF m f x.toNat)).len = m := rowF_len m f x.toNat
 unfold wrC
 rw [e0, e1, hl, hrl]
 refine ⟨hx.1, hx.2, by omega, (by intro h; cases h), fun r hr => ?_, fun _ h => by cases h⟩
 have hrm : r.length = m := by cases hr; exact rowF_len m f _
 rw [hrm]
 exact ⟨hy.1, hy.2, by omega, hy.2, by omega, by omega, ⟨by omega, by omega⟩, hy.1, hy.2, by omega, hy.2, by omega, by omega, hk⟩
theorem updP_sq {m : Nat} {K : Int} {f : Nat → Nat → Int} {q : List D} {x y : Int} (h : sqF m K f q) (hx : 0 ≤ x ∧ x < m) (hy : 0 ≤ y ∧ y < m) : sqF m (K + 2) (fun a b => f a b + indN x y a b) (updP q x y) :=
 (addZ_sq (addZ_sq h hx hy) hy hx).cong (by omega) fun a b _ _ => by unfold indN; rw [Int.add_assoc]
theorem addN_sq {m : Nat} {K : Int} {f : Nat → Nat → Int} {q : List D} {t : D} (h : sqF m K f q) (ht : ∀ k, k < t.len → 0 ≤ nAt t k ∧ nAt t k < m) : ∀ i, i ≤ t.len → sqF m (K + 2 * i) (fun a b => f a b + nbN t i a b) (addN q t i)
 | 0, _ => h.cong (by omega) fun a b _ _ => by simp [nbN]
 | 1, _ => h.cong (by omega) fun a b _ _ => by simp [nbN]
 | i + 2, hi => by
  have ih := addN_sq h ht (i + 1) (by omega)
  have := updP_sq ih (ht i (by omega)) (ht (i + 1) (by omega))
  refine this.cong (by omega) fun a b _ _ => ?_
  show _ = f a b + (nbN t (i + 1) a b + (if i + 1 = 0 then 0 else indN (nAt t (i + 1 - 1)) (nAt t (i + 1)) a b))
  rw [if_neg (by omega), Nat.add_sub_cancel, Int.add_assoc]
theorem addT_sq {m : Nat} {K : Int} {f : Nat → Nat → Int} {q : List D} {t : D} (h : sqF m K f q) (ht : ∀ k, k < t.len → 0 ≤ nAt t k ∧ nAt t k < m) (hl : t.len ≤ 1000) : sqF m (K + 2002) (fun a b => f a b + nbT t a b) (addT q t) := by
 have h1 := addN_sq h ht t.len (Nat.le_refl _)
 unfold addT
 by_cases h2 : 2 < t.len
 ·rw [if_pos h2]
  exact (updP_sq h1 (ht (t.len - 1) (by omega)) (ht 0 (by omega))).cong (by omega) fun a b _ _ => by unfold nbT; rw [if_pos h2, Int.add_assoc]
 ·rw [if_neg h2]
  exact h1.cong (by omega) fun a b _ _ => by unfold nbT; rw [if_neg h2, Int.add_zero]
theorem addE_sq {m : Nat} {K : Int} {f : Nat → Nat → Int} {q : List D} {ev : D} (h : sqF m K f q) (ht : ∀ j, j < ev.len → (el ev j).len ≤ 1000 ∧ ∀ k, k < (el ev j).len → 0 ≤ nAt (el ev j) k ∧ nAt (el ev j) k < m) : ∀ j, j ≤ ev.len → sqF m (K + 2002 * j) (fun a b => f a b + nbE ev j a b) (addE q ev j)
 | 0, _ => h.cong (by omega) fun a b _ _ => by simp [nbE]
 | j + 1, hj => (addT_sq (addE_sq h ht j (by omega)) (ht j (by omega)).2 (ht j (by omega)).1).cong (by omega) fun a b _ _ => by
   show _ = f a b + (nbE ev j a b + nbT (el ev j) a b)
   rw [Int.add_assoc]
theorem good_tabs {n : Int} {s : D} (h : goodS n s) {i j : Nat} (hi : i < s.len) (hj : j < (el s i).len) : (el (el s i) j).len ≤ 1000 ∧ ∀ k, k < (el (el s i) j).len → 0 ≤ nAt (el (el s i) j) k ∧ nAt (el (el s i) j) k < (n.toNat : Int) := by
 have ht := good_tab h hi hj
 have hn := h.n1
 refine ⟨(h.big.out.2 i hi).out.2 j hj, fun k hk => ?_⟩
 have := ht.rng k hk
 omega
theorem addS_sq {n : Int} {s : D} (h : goodS n s) {q : List D} (hq : sqF n.toNat 0 (fun _ _ => 0) q) : ∀ i, i ≤ s.len → sqF n.toNat (200200 * i) (nbS s i) (addS q s i)
 | 0, _ => hq.cong (by omega) fun _ _ _ _ => rfl
 | i + 1, hi => by
  have hb := (h.big.out.2 i (by omega)).out.1
  exact (addE_sq (addS_sq h hq i (by omega)) (fun j hj => good_tabs h (by omega) hj) (el s i).len (Nat.le_refl _)).cong (by omega) fun _ _ _ _ => rfl
theorem zr_sq (n : Nat) : sqF n 0 (fun _ _ => 0) (zrL n n) := by
 refine ⟨?_, fun _ _ _ _ => ⟨Int.le_refl _, Int.le_refl _⟩⟩
 unfold zrL sqD
 rw [Nat.sub_self, List.replicate_zero, List.append_nil]
 apply List.map_congr_left
 intro a _
 congr 1
 apply List.ext_getElem (by simp)
 intro i h1 h2
 simp
theorem zr_len (n x : Nat) (h : x ≤ n) : (zrL n x).length = n := by unfold zrL; simp; omega
theorem zr_next {n x : Nat} (h : x < n) : (zrL n x).set x (.list (List.replicate n (.int 0))) = zrL n (x + 1) := by
 unfold zrL
 have e : n - x = n - (x + 1) + 1 := by omega
 rw [List.set_append_right _ _ (by simp), List.length_map, List.length_range, Nat.sub_self, e, List.replicate_succ, List.set_cons_zero, List.range_succ, List.map_append, List.append_assoc]
 rfl
theorem zr_zero (n : Nat) : List.replicate n D.nil = zrL n 0 := rfl
theorem allNil_rep (n : Nat) : allNil (List.replicate n D.nil) := ⟨fun d h => List.eq_of_mem_replicate h⟩
theorem sq_noHole (m : Nat) (f : Nat → Nat → Int) : noHole (sqD m f) := ⟨fun k h => by
 obtain ⟨i, _, e⟩ := List.mem_map.1 h
 cases e⟩
theorem updP_N {q : List D} {t : D} {i : Nat} (h : 1 ≤ i) : addZ (addZ (addN q t i) (nAt t ((i : Int) - 1).toNat) (nAt t i)) (nAt t i) (nAt t ((i : Int) - 1).toNat) = addN q t (i + 1) := by
 obtain ⟨j, rfl⟩ : ∃ j, i = j + 1 := ⟨i - 1, by omega⟩
 rw [show (((j + 1 : Nat) : Int) - 1).toNat = j by omega]
 rfl
theorem sl7 : isSliceT (ctx rn2 rnAnn).P (29 : TypeId) = true ∧ sizeIs (ctx rn2 rnAnn).P (29 : TypeId) (1 : Nat) = true := by constructor <;> kernel_rfl
theorem s7 (n : Int) (s : D) (h : goodS n s) : symFun (ctx rn2 rnAnn) 8 7 [.int .i64 n, .dat 22 s] (.dat 30 (.list (addS (zrL n.toNat n.toNat) s s.len))) := by
 rw [vc7]
 have hn := h.n1
 have hb := h.big.out.1
 have hz := zr_sq n.toNat
 refine ⟨h.big, fun hne => (hne (by rw [h.chk])).elim, fun _ => ⟨by omega, Int.le_refl _, by omega, by omega, ⟨0, Nat.zero_le _, ⟨rfl, trivial⟩, ⟨zr_zero _, allNil_rep _⟩, trivial⟩, fun x hx => ?_⟩⟩
 have hx : x ≤ n.toNat := hx
 refine ⟨limS (by omega), fun hlt => ⟨by omega, Int.le_refl _, by omega, by omega, by omega, by omega, by rw [zr_len _ _ hx]; omega, trivial, rfl, by rw [List.length_replicate], rfl, ⟨by omega, by omega⟩, x + 1, by show x + 1 ≤ _; omega, by omega, ⟨by omega, trivial⟩, zr_next (by omega), trivial⟩, fun hge => ?_⟩
 have hge := not_of hge
 have ex : x = n.toNat := by omega
 subst ex
 refine ⟨⟨0, Nat.zero_le _, ⟨rfl, trivial⟩, rfl, trivial⟩, fun i hi => ?_⟩
 have hi : i ≤ s.len := hi
 have hSq := addS_sq h hz i hi
 refine ⟨limS (by omega), fun hlt2 => ?_, fun hge2 => ?_⟩
 ·have hi2 : i < s.len := by omega
  have hev := (h.big.out.2 i hi2).out.1
  refine ⟨by omega, hlt2, ⟨0, Nat.zero_le _, ⟨rfl, trivial⟩, rfl, trivial⟩, fun j hj => ?_⟩
  have hj : j ≤ (el s i).len := hj
  have hEq := addE_sq hSq (fun j hj => good_tabs h hi2 hj) j hj
  refine ⟨limS (by omega), fun hlt3 => ?_, fun hge3 => ?_⟩
  ·have hj2 : j < (el s i).len := by omega
   obtain ⟨htl, htr⟩ := good_tabs h hi2 hj2
   have htp := (good_tab h hi2 hj2).pos
   refine ⟨by omega, hlt3, ⟨1, ⟨Nat.le_refl _, htp⟩, ⟨rfl, trivial⟩, rfl, trivial⟩, fun z ⟨hz1, hz2⟩ => ?_⟩
   have hNq := addN_sq hEq htr z hz2
   refine ⟨limS (by omega), fun hlt4 => ?_, fun hge4 => ?_⟩
   ·have r1 := htr ((z : Int) - 1).toNat (by omega)
    have r2 := htr z (by omega)
    exact ⟨⟨by omega, by omega⟩, by omega, by omega, by omega, hlt4, wr_ok hNq (by omega) r1 r2 (wr_ok (addZ_sq hNq r1 r2) (by omega) r2 r1 ⟨⟨by omega, by omega⟩, z + 1, ⟨by omega, by omega⟩, by omega, ⟨by omega, trivial⟩, updP_N hz1, trivial⟩)⟩
   ·have hge4 := not_of hge4
    have ez : z = (el (el s i) j).len := by omega
    subst ez
    refine ⟨fun h2 => ?_, fun h2 => ⟨⟨by omega, by omega⟩, j + 1, by show j + 1 ≤ _; omega, by omega, ⟨by omega, trivial⟩, ?_, trivial⟩⟩
    ·have r1 := htr (((el (el s i) j).len : Int) - 1).toNat (by omega)
     have r2 := htr 0 htp
     refine ⟨⟨by omega, by omega⟩, by omega, by omega, Int.le_refl _, by omega, wr_ok hNq (by omega) r1 r2 (wr_ok (addZ_sq hNq r1 r2) (by omega) r2 r1 ⟨⟨by omega, by omega⟩, j + 1, by show j + 1 ≤ _; omega, by omega, ⟨by omega, trivial⟩, ?_, trivial⟩)⟩
     show _ = addT _ _
     unfold addT
     rw [if_pos (by omega), show (((el (el s i) j).len : Int) - 1).toNat = (el (el s i) j).len - 1 by omega]
     rfl
    ·have h2 := not_of h2
     show _ = addT _ _
     unfold addT
     rw [if_neg (by omega)]
  ·have hge3 := not_of hge3
   have ej : j = (el s i).len := by omega
   subst ej
   exact ⟨⟨by omega, by omega⟩, i + 1, by show i + 1 ≤ _; omega, by omega, ⟨by omega, trivial⟩, rfl, trivial⟩
 ·have hge2 := not_of hge2
  have ei : i = s.len := by omega
  subst ei
  have hl : (addS (zrL n.toNat n.toNat) s s.len).length = n.toNat := by rw [hSq.eq, sqD_len]
  exact ⟨by rw [hl]; omega, by rw [hSq.eq]; exact sq_noHole _ _, sl7, by rw [List.take_of_length_le (by omega)]⟩
end Go.Ev

end

section
open Go.Proofs
namespace Go.Ev
set_option maxRecDepth 100000
set_option maxHeartbeats 4000000
theorem vc4 : ∀ (n : Int), symFun (ctx cc0 rnAnn) (4 : Nat) (4 : FuncId) [V.int IntKind.i64 n] (V.tup [V.dat (22 : TypeId) (ringR n), V.int IntKind.i64 (ringE n)]) = (((n < (3 : Int) → False) → ((64 :
Int) < n → D.nil = ringR n ∧ (90 : Int) = ringE n ∧ True) ∧ (((64 : Int) < n → False) → ((2 : Int) = (0 : Int) → False) ∧ (n.tmod (2 : Int) = (0 : Int) → D.nil = ringR n ∧ (91 : Int) = ringE n ∧ True)
∧ ((n.tmod (2 : Int) = (0 : Int) → False) → ((2 : Int) = (0 : Int) → False) ∧ ((-9223372036854775808 : Int) ≤ n.tdiv (2 : Int) ∧ n.tdiv (2 : Int) < (9223372036854775808 : Int)) ∧ (0 : Int) ≤ n.tdiv (2
: Int) ∧ n.tdiv (2 : Int) ≤ n.tdiv (2 : Int) ∧ n.tdiv (2 : Int) ≤ (16777216 : Int) ∧ (24 : Nat) * (n.tdiv (2 : Int)).toNat ≤ (281474976710656 : Nat) ∧ (∃ (x : Nat), x.le (n.tdiv (2 : Int)).toNat ∧ ((0
: Int) = (↑x : Int) ∧ True) ∧ (List.replicate (n.tdiv (2 : Int)).toNat D.nil = rgS (n.tdiv (2 : Int)).toNat x ++ List.replicate ((n.tdiv (2 : Int)).toNat - x) D.nil ∧ allNil (List.replicate (n.tdiv (2
: Int)).toNat D.nil)) ∧ True) ∧ ∀ (x : Nat), x.le (n.tdiv (2 : Int)).toNat → (n.tdiv (2 : Int)).toNat - x < LIM ∧ ((↑x : Int) < n.tdiv (2 : Int) → ((-9223372036854775808 : Int) ≤ n - (1 : Int) ∧ n -
(1 : Int) < (9223372036854775808 : Int)) ∧ ((∃ (x_1 : Nat), x_1 = (1 : Nat) ∧ ((1 : Int) = (↑x_1 : Int) ∧ ((0 : Nat) = (0 : Nat) ∧ (2 : Nat) = (2 : Nat) ∧ (2 : Nat) = (2 : Nat)) ∧ True) ∧ [D.int (n -
(1 : Int)), D.int (↑x : Int)] = rgL (n.tdiv (2 : Int)).toNat x ((2 : Nat) * x_1) ∧ True) ∨ ∃ (x_1 : Nat), ((1 : Nat) < x_1 ∧ x_1 ≤ (n.tdiv (2 : Int)).toNat) ∧ ((1 : Int) = (↑x_1 : Int) ∧ ((0 : Nat) =
(0 : Nat) ∧ (2 : Nat) = (2 : Nat) * x_1 ∧ False) ∧ True) ∧ [D.int (n - (1 : Int)), D.int (↑x : Int)] = rgL (n.tdiv (2 : Int)).toNat x ((2 : Nat) * x_1) ∧ True) ∧ (∀ (x_1 : Nat), x_1 = (1 : Nat) →
(n.tdiv (2 : Int)).toNat - x_1 < LIM ∧ ((↑x_1 : Int) < n.tdiv (2 : Int) → ((-9223372036854775808 : Int) ≤ (↑x : Int) + (↑x_1 : Int) ∧ (↑x : Int) + (↑x_1 : Int) < (9223372036854775808 : Int)) ∧
((-9223372036854775808 : Int) ≤ (↑x : Int) - (↑x_1 : Int) ∧ (↑x : Int) - (↑x_1 : Int) < (9223372036854775808 : Int)) ∧ ((-9223372036854775808 : Int) ≤ (2 : Int) * n.tdiv (2 : Int) ∧ (2 : Int) * n.tdiv
(2 : Int) < (9223372036854775808 : Int)) ∧ ((-9223372036854775808 : Int) ≤ (↑x : Int) - (↑x_1 : Int) + (2 : Int) * n.tdiv (2 : Int) ∧ (↑x : Int) - (↑x_1 : Int) + (2 : Int) * n.tdiv (2 : Int) <
(9223372036854775808 : Int)) ∧ ((-9223372036854775808 : Int) ≤ (2 : Int) * n.tdiv (2 : Int) ∧ (2 : Int) * n.tdiv (2 : Int) < (9223372036854775808 : Int)) ∧ ((2 : Int) * n.tdiv (2 : Int) = (0 : Int) →
False) ∧ (0 : Nat) + (2 : Nat) ≤ [D.int ((↑x : Int) + (↑x_1 : Int)), D.int (((↑x : Int) - (↑x_1 : Int) + (2 : Int) * n.tdiv (2 : Int)).tmod ((2 : Int) * n.tdiv (2 : Int)))].length ∧ (0 : Nat) + (2 :
Nat) ≤ (rgL (n.tdiv (2 : Int)).toNat x ((2 : Nat) * x_1)).length ∧ (2 : Nat) + (2 : Nat) ≤ (16777216 : Nat) ∧ ((-9223372036854775808 : Int) ≤ (↑x_1 : Int) + (1 : Int) ∧ (↑x_1 : Int) + (1 : Int) <
(9223372036854775808 : Int)) ∧ ((∃ (y : Nat), y = (1 : Nat) ∧ (n.tdiv (2 : Int)).toNat - y < (n.tdiv (2 : Int)).toNat - x_1 ∧ ((↑x_1 : Int) + (1 : Int) = (↑y : Int) ∧ ((0 : Nat) = (0 : Nat) ∧ (2 :
Nat) + (2 : Nat) = (2 : Nat) ∧ False) ∧ True) ∧ List.take (2 : Nat) (rgL (n.tdiv (2 : Int)).toNat x ((2 : Nat) * x_1)) ++ List.take (2 : Nat) [D.int ((↑x : Int) + (↑x_1 : Int)), D.int (((↑x : Int) -
(↑x_1 : Int) + (2 : Int) * n.tdiv (2 : Int)).tmod ((2 : Int) * n.tdiv (2 : Int)))] = rgL (n.tdiv (2 : Int)).toNat x ((2 : Nat) * y) ∧ True) ∨ ∃ (y : Nat), ((1 : Nat) < y ∧ y ≤ (n.tdiv (2 :
Int)).toNat) ∧ (n.tdiv (2 : Int)).toNat - y < (n.tdiv (2 : Int)).toNat - x_1 ∧ ((↑x_1 : Int) + (1 : Int) = (↑y : Int) ∧ ((0 : Nat) = (0 : Nat) ∧ (2 : Nat) + (2 : Nat) = (2 : Nat) * y ∧ True) ∧ True) ∧
List.take (2 : Nat) (rgL (n.tdiv (2 : Int)).toNat x ((2 : Nat) * x_1)) ++ List.take (2 : Nat) [D.int ((↑x : Int) + (↑x_1 : Int)), D.int (((↑x : Int) - (↑x_1 : Int) + (2 : Int) * n.tdiv (2 : Int)).tmod
((2 : Int) * n.tdiv (2 : Int)))] = rgL (n.tdiv (2 : Int)).toNat x ((2 : Nat) * y) ∧ True)) ∧ (((↑x_1 : Int) < n.tdiv (2 : Int) → False) → ((-9223372036854775808 : Int) ≤ (↑x : Int) + n.tdiv (2 : Int)
∧ (↑x : Int) + n.tdiv (2 : Int) < (9223372036854775808 : Int)) ∧ (0 : Nat) + (1 : Nat) ≤ [D.int ((↑x : Int) + n.tdiv (2 : Int))].length ∧ (0 : Nat) + (2 : Nat) ≤ (rgL (n.tdiv (2 : Int)).toNat x ((2 :
Nat) * x_1)).length ∧ (2 : Nat) + (1 : Nat) ≤ (16777216 : Nat) ∧ (0 : Nat) + ((2 : Nat) + (1 : Nat)) ≤ (List.take (2 : Nat) (rgL (n.tdiv (2 : Int)).toNat x ((2 : Nat) * x_1)) ++ List.take (1 : Nat)
[D.int ((↑x : Int) + n.tdiv (2 : Int))]).length ∧ (0 : Int) ≤ (↑x : Int) ∧ (↑x : Int) < (↑(n.tdiv (2 : Int)).toNat : Int) ∧ x < (rgS (n.tdiv (2 : Int)).toNat x ++ List.replicate ((n.tdiv (2 :
Int)).toNat - x) D.nil).length ∧ True ∧ (0 : Nat) = (0 : Nat) ∧ (1 : Nat) = [D.list (List.take ((2 : Nat) + (1 : Nat)) (List.take (2 : Nat) (rgL (n.tdiv (2 : Int)).toNat x ((2 : Nat) * x_1)) ++
List.take (1 : Nat) [D.int ((↑x : Int) + n.tdiv (2 : Int))]))].length ∧ (1 : Nat) = (1 : Nat) ∧ ((-9223372036854775808 : Int) ≤ (↑x : Int) + (1 : Int) ∧ (↑x : Int) + (1 : Int) < (9223372036854775808 :
Int)) ∧ ∃ (y : Nat), y.le (n.tdiv (2 : Int)).toNat ∧ (n.tdiv (2 : Int)).toNat - y < (n.tdiv (2 : Int)).toNat - x ∧ ((↑x : Int) + (1 : Int) = (↑y : Int) ∧ True) ∧ (rgS (n.tdiv (2 : Int)).toNat x ++
List.replicate ((n.tdiv (2 : Int)).toNat - x) D.nil).set x (D.list [D.list (List.take ((2 : Nat) + (1 : Nat)) (List.take (2 : Nat) (rgL (n.tdiv (2 : Int)).toNat x ((2 : Nat) * x_1)) ++ List.take (1 :
Nat) [D.int ((↑x : Int) + n.tdiv (2 : Int))]))]) = rgS (n.tdiv (2 : Int)).toNat y ++ List.replicate ((n.tdiv (2 : Int)).toNat - y) D.nil ∧ True)) ∧ ∀ (x_1 : Nat), (1 : Nat) < x_1 ∧ x_1 ≤ (n.tdiv (2 :
Int)).toNat → (n.tdiv (2 : Int)).toNat - x_1 < LIM ∧ ((↑x_1 : Int) < n.tdiv (2 : Int) → ((-9223372036854775808 : Int) ≤ (↑x : Int) + (↑x_1 : Int) ∧ (↑x : Int) + (↑x_1 : Int) < (9223372036854775808 :
Int)) ∧ ((-9223372036854775808 : Int) ≤ (↑x : Int) - (↑x_1 : Int) ∧ (↑x : Int) - (↑x_1 : Int) < (9223372036854775808 : Int)) ∧ ((-9223372036854775808 : Int) ≤ (2 : Int) * n.tdiv (2 : Int) ∧ (2 : Int)
* n.tdiv (2 : Int) < (9223372036854775808 : Int)) ∧ ((-9223372036854775808 : Int) ≤ (↑x : Int) - (↑x_1 : Int) + (2 : Int) * n.tdiv (2 : Int) ∧ (↑x : Int) - (↑x_1 : Int) + (2 : Int) * n.tdiv (2 : Int)
< (9223372036854775808 : Int)) ∧ ((-9223372036854775808 : Int) ≤ (2 : Int) * n.tdiv (2 : Int) ∧ (2 : Int) * n.tdiv (2 : Int) < (9223372036854775808 : Int)) ∧ ((2 : Int) * n.tdiv (2 : Int) = (0 : Int)
→ False) ∧ (0 : Nat) + (2 : Nat) ≤ [D.int ((↑x : Int) + (↑x_1 : Int)), D.int (((↑x : Int) - (↑x_1 : Int) + (2 : Int) * n.tdiv (2 : Int)).tmod ((2 : Int) * n.tdiv (2 : Int)))].length ∧ (0 : Nat) + (2 :
Nat) * x_1 ≤ (rgL (n.tdiv (2 : Int)).toNat x ((2 : Nat) * x_1)).length ∧ (2 : Nat) * x_1 + (2 : Nat) ≤ (16777216 : Nat) ∧ ((-9223372036854775808 : Int) ≤ (↑x_1 : Int) + (1 : Int) ∧ (↑x_1 : Int) + (1 :
Int) < (9223372036854775808 : Int)) ∧ ((∃ (y : Nat), y = (1 : Nat) ∧ (n.tdiv (2 : Int)).toNat - y < (n.tdiv (2 : Int)).toNat - x_1 ∧ ((↑x_1 : Int) + (1 : Int) = (↑y : Int) ∧ ((0 : Nat) = (0 : Nat) ∧
(2 : Nat) * x_1 + (2 : Nat) = (2 : Nat) ∧ False) ∧ True) ∧ List.take ((2 : Nat) * x_1) (rgL (n.tdiv (2 : Int)).toNat x ((2 : Nat) * x_1)) ++ List.take (2 : Nat) [D.int ((↑x : Int) + (↑x_1 : Int)),
D.int (((↑x : Int) - (↑x_1 : Int) + (2 : Int) * n.tdiv (2 : Int)).tmod ((2 : Int) * n.tdiv (2 : Int)))] = rgL (n.tdiv (2 : Int)).toNat x ((2 : Nat) * y) ∧ True) ∨ ∃ (y : Nat), ((1 : Nat) < y ∧ y ≤
(n.tdiv (2 : Int)).toNat) ∧ (n.tdiv (2 : Int)).toNat - y < (n.tdiv (2 : Int)).toNat - x_1 ∧ ((↑x_1 : Int) + (1 : Int) = (↑y : Int) ∧ ((0 : Nat) = (0 : Nat) ∧ (2 : Nat) * x_1 + (2 : Nat) = (2 : Nat) *
y ∧ True) ∧ True) ∧ List.take ((2 : Nat) * x_1) (rgL (n.tdiv (2 : Int)).toNat x ((2 : Nat) * x_1)) ++ List.take (2 : Nat) [D.int ((↑x : Int) + (↑x_1 : Int)), D.int (((↑x : Int) - (↑x_1 : Int) + (2 :
Int) * n.tdiv (2 : Int)).tmod ((2 : Int) * n.tdiv (2 : Int)))] = rgL (n.tdiv (2 : Int)).toNat x ((2 : Nat) * y) ∧ True)) ∧ (((↑x_1 : Int) < n.tdiv (2 : Int) → False) → ((-9223372036854775808 : Int) ≤
(↑x : Int) + n.tdiv (2 : Int) ∧ (↑x : Int) + n.tdiv (2 : Int) < (9223372036854775808 : Int)) ∧ (0 : Nat) + (1 : Nat) ≤ [D.int ((↑x : Int) + n.tdiv (2 : Int))].length ∧ (0 : Nat) + (2 : Nat) * x_1 ≤
(rgL (n.tdiv (2 : Int)).toNat x ((2 : Nat) * x_1)).length ∧ (2 : Nat) * x_1 + (1 : Nat) ≤ (16777216 : Nat) ∧ (0 : Nat) + ((2 : Nat) * x_1 + (1 : Nat)) ≤ (List.take ((2 : Nat) * x_1) (rgL (n.tdiv (2 :
Int)).toNat x ((2 : Nat) * x_1)) ++ List.take (1 : Nat) [D.int ((↑x : Int) + n.tdiv (2 : Int))]).length ∧ (0 : Int) ≤ (↑x : Int) ∧ (↑x : Int) < (↑(n.tdiv (2 : Int)).toNat : Int) ∧ x < (rgS (n.tdiv (2
: Int)).toNat x ++ List.replicate ((n.tdiv (2 : Int)).toNat - x) D.nil).length ∧ True ∧ (0 : Nat) = (0 : Nat) ∧ (1 : Nat) = [D.list (List.take ((2 : Nat) * x_1 + (1 : Nat)) (List.take ((2 : Nat) *
x_1) (rgL (n.tdiv (2 : Int)).toNat x ((2 : Nat) * x_1)) ++ List.take (1 : Nat) [D.int ((↑x : Int) + n.tdiv (2 : Int))]))].length ∧ (1 : Nat) = (1 : Nat) ∧ ((-9223372036854775808 : Int) ≤ (↑x : Int) +
(1 : Int) ∧ (↑x : Int) + (1 : Int) < (9223372036854775808 : Int)) ∧ ∃ (y : Nat), y.le (n.tdiv (2 : Int)).toNat ∧ (n.tdiv (2 : Int)).toNat - y < (n.tdiv (2 : Int)).toNat - x ∧ ((↑x : Int) + (1 : Int) =
(↑y : Int) ∧ True) ∧ (rgS (n.tdiv (2 : Int)).toNat x ++ List.replicate ((n.tdiv (2 : Int)).toNat - x) D.nil).set x (D.list [D.list (List.take ((2 : Nat) * x_1 + (1 : Nat)) (List.take ((2 : Nat) * x_1)
(rgL (n.tdiv (2 : Int)).toNat x ((2 : Nat) * x_1)) ++ List.take (1 : Nat) [D.int ((↑x : Int) + n.tdiv (2 : Int))]))]) = rgS (n.tdiv (2 : Int)).toNat y ++ List.replicate ((n.tdiv (2 : Int)).toNat - y)
D.nil ∧ True)) ∧ (((↑x : Int) < n.tdiv (2 : Int) → False) → ((0 : Nat) + (n.tdiv (2 : Int)).toNat ≤ (rgS (n.tdiv (2 : Int)).toNat x ++ List.replicate ((n.tdiv (2 : Int)).toNat - x) D.nil).length ∧
noHole (rgS (n.tdiv (2 : Int)).toNat x ++ List.replicate ((n.tdiv (2 : Int)).toNat - x) D.nil) ∧ (isSliceT (ctx cc0 rnAnn).P (30 : TypeId) = true ∧ sizeIs (ctx cc0 rnAnn).P (30 : TypeId) (1 : Nat) =
true) ∧ D.list (List.take (n.tdiv (2 : Int)).toNat (rgS (n.tdiv (2 : Int)).toNat x ++ List.replicate ((n.tdiv (2 : Int)).toNat - x) D.nil)) = ringR n) ∧ (0 : Int) = ringE n ∧ True)))) ∧ (n < (3 : Int)
→ D.nil = ringR n ∧ (90 : Int) = ringE n ∧ True)) := by intros; kernel_rfl
theorem rgN_zero (m i : Nat) : rgN m i 0 = 2 * m := rfl
theorem rgN_even (m i : Nat) {k : Nat} (h : 1 ≤ k) : rgN m i (2 * k) = i + k := by
 unfold rgN
 rw [show Nat.beq (2 * k) 0 = false from Bool.eq_false_iff.2 fun h0 => by have := Nat.eq_of_beq_eq_true h0; omega, show 2 * k % 2 = 0 by omega, show 2 * k / 2 = k by omega]
 rfl
theorem rgN_odd (m i k : Nat) : rgN m i (2 * k + 1) = (i + 2 * m - k) % (2 * m) := by
 unfold rgN
 rw [show Nat.beq (2 * k + 1) 0 = false from Bool.eq_false_iff.2 fun h0 => by have := Nat.eq_of_beq_eq_true h0; omega, show (2 * k + 1) % 2 = 1 by omega, show (2 * k + 1) / 2 = k by omega]
 rfl
theorem rgL_succ (m i j : Nat) : rgL m i (j + 1) = rgL m i j ++ [.int (rgN m i j : Nat)] := by
 unfold rgL; rw [List.range_succ, List.map_append]; rfl
theorem rgL_two {m i k : Nat} (h : 1 ≤ k) (hi : i < m) (hk : k < m) : rgL m i (2 * k) ++ [.int ((i : Int) + k), .int (((i : Int) - k + 2 * m).tmod (2 * m))] = rgL m i (2 * (k + 1)) := by
 rw [show 2 * (k + 1) = 2 * k + 1 + 1 by omega, rgL_succ, rgL_succ, rgN_even m i h, rgN_odd, List.append_assoc]
 have e : ((i : Int) - k + 2 * m).tmod (2 * m) = (((i + 2 * m - k) % (2 * m) : Nat) : Int) := by
  rw [Int.tmod_eq_emod_of_nonneg (by omega), Int.natCast_emod, show ((i : Int) - k + 2 * m) = ((i + 2 * m - k : Nat) : Int) by omega]
  rfl
 rw [e]
 rfl
theorem rgL_first {m i : Nat} (hi : i < m) : [D.int (2 * (m : Int) + 1 - 1), D.int (i : Int)] = rgL m i (2 * 1) := by
 have e1 : rgN m i 1 = (i + 2 * m - 0) % (2 * m) := rgN_odd m i 0
 rw [show 2 * 1 = 0 + 1 + 1 by omega, rgL_succ, rgL_succ, rgN_zero, e1]
 have e : (i + 2 * m - 0) % (2 * m) = i := by rw [Nat.sub_zero, Nat.add_mod_right, Nat.mod_eq_of_lt (by omega)]
 rw [e, show 2 * (m : Int) + 1 - 1 = ((2 * m : Nat) : Int) by omega]
 rfl
theorem rgL_last {m i : Nat} (h : 0 < m) : rgL m i (2 * m) ++ [.int ((i : Int) + m)] = rgL m i (2 * m + 1) := by
 rw [rgL_succ, rgN_even m i h]; rfl
theorem rgS_next {m x : Nat} (h : x < m) : (rgS m x ++ List.replicate (m - x) D.nil).set x (.list [.list (rgL m x (2 * m + 1))]) = rgS m (x + 1) ++ List.replicate (m - (x + 1)) D.nil := by
 have e : m - x = m - (x + 1) + 1 := by omega
 rw [List.set_append_right _ _ (by rw [rgS_len]; exact Nat.le_refl _), rgS_len, Nat.sub_self, e, List.replicate_succ, List.set_cons_zero]
 unfold rgS
 rw [List.range_succ, List.map_append, List.append_assoc]
 rfl
theorem rgS_noHole (m : Nat) : noHole (rgS m m ++ List.replicate (m - m) D.nil) := ⟨fun k h => by
 rw [Nat.sub_self, List.replicate_zero, List.append_nil] at h
 obtain ⟨i, _, e⟩ := List.mem_map.1 h
 cases e⟩
theorem sl4 : isSliceT (ctx cc0 rnAnn).P (30 : TypeId) = true ∧ sizeIs (ctx cc0 rnAnn).P (30 : TypeId) (1 : Nat) = true := by constructor <;> kernel_rfl
theorem ringR_odd (m : Nat) : ringR (2 * (m : Int) + 1) = .list (rgS m m) := by
 unfold ringR
 rw [if_neg (by omega), show ((2 * (m : Int) + 1) / 2).toNat = m by omega]
theorem ringE_odd (m : Nat) : ringE (2 * (m : Int) + 1) = 0 := by unfold ringE; rw [if_neg (by omega)]
theorem s4 (n : Int) (h0 : 3 ≤ n) (h1 : n ≤ 64) : symFun (ctx cc0 rnAnn) 4 4 [.int .i64 n] (.tup [.dat 22 (ringR n), .int .i64 (ringE n)]) := by
 rw [vc4]
 refine ⟨fun _ => ⟨fun h => by omega, fun _ => ⟨fun h => by omega, fun he => ?_, fun ho => ?_⟩⟩, fun h => by omega⟩
 ·have : n % 2 = 0 := by rw [Int.tmod_eq_emod_of_nonneg (by omega)] at he; exact he
  unfold ringR ringE
  rw [if_pos this, if_pos this]
  exact ⟨rfl, rfl, trivial⟩
 ·have ho : ¬ n % 2 = 0 := fun e => ho (by rw [Int.tmod_eq_emod_of_nonneg (by omega)]; exact e)
  obtain ⟨m, rfl⟩ : ∃ m : Nat, n = 2 * (m : Int) + 1 := ⟨(n / 2).toNat, by omega⟩
  have hd : (2 * (m : Int) + 1).tdiv 2 = (m : Int) := by rw [Int.tdiv_eq_ediv_of_nonneg (by omega)]; omega
  rw [hd, Int.toNat_natCast, ringR_odd, ringE_odd]
  have hm : 0 < m := by omega
  have hm2 : m ≤ 31 := by omega
  refine ⟨fun h => by omega, ⟨by omega, by omega⟩, by omega, Int.le_refl _, by omega, by omega, ⟨0, Nat.zero_le _, ⟨rfl, trivial⟩, ⟨rfl, allNil_rep _⟩, trivial⟩, fun x hx => ?_⟩
  have hx : x ≤ m := hx
  have hSl : (rgS m x ++ List.replicate (m - x) D.nil).length = m := by rw [List.length_append, rgS_len, List.length_replicate]; omega
  refine ⟨limS (by omega), fun hlt => ⟨⟨by omega, by omega⟩, .inl ⟨1, rfl, ⟨rfl, ⟨rfl, rfl, rfl⟩, trivial⟩, rgL_first (by omega), trivial⟩, ?_, ?_⟩, fun hge => ?_⟩
  ·intro k hk
   subst hk
   refine ⟨limS (by omega), fun hlt2 => ?_, fun hge2 => ?_⟩
   ·refine ⟨⟨by omega, by omega⟩, ⟨by omega, by omega⟩, ⟨by omega, by omega⟩, ⟨by omega, by omega⟩, ⟨by omega, by omega⟩, fun h => by omega, Nat.le_refl _, by rw [rgL_len]; omega, by decide, ⟨by decide, by decide⟩, .inr ⟨2, ⟨by omega, by omega⟩, by omega, ⟨rfl, ⟨rfl, rfl, trivial⟩, trivial⟩, ?_, trivial⟩⟩
    rw [List.take_of_length_le (by rw [rgL_len]; omega)]
    exact rgL_two (Nat.le_refl _) (by omega) (by omega)
   ·have hge2 := not_of hge2
    have e1 : m = 1 := by omega
    subst e1
    have eq : List.take (2 + 1) (List.take 2 (rgL 1 x (2 * 1)) ++ List.take 1 [D.int ((x : Int) + ((1 : Nat) : Int))]) = rgL 1 x (2 * 1 + 1) := by
     rw [List.take_of_length_le (l := rgL 1 x (2 * 1)) (by rw [rgL_len]; omega), show List.take 1 [D.int ((x : Int) + ((1 : Nat) : Int))] = [D.int ((x : Int) + ((1 : Nat) : Int))] from rfl, rgL_last (by omega), List.take_of_length_le (by rw [rgL_len]; omega)]
    refine ⟨⟨by omega, by omega⟩, Nat.le_refl _, by rw [rgL_len]; omega, by decide, by rw [List.length_append, List.length_take, rgL_len]; simp, by omega, by omega, by rw [hSl]; omega, trivial, rfl, rfl, rfl, ⟨by omega, by omega⟩, x + 1, by show x + 1 ≤ _; omega, by omega, ⟨by omega, trivial⟩, ?_, trivial⟩
    rw [eq]
    exact rgS_next (by omega)
  ·intro k ⟨hk1, hk2⟩
   refine ⟨limS (by omega), fun hlt2 => ?_, fun hge2 => ?_⟩
   ·refine ⟨⟨by omega, by omega⟩, ⟨by omega, by omega⟩, ⟨by omega, by omega⟩, ⟨by omega, by omega⟩, ⟨by omega, by omega⟩, fun h => by omega, Nat.le_refl _, by rw [rgL_len]; omega, by omega, ⟨by omega, by omega⟩, .inr ⟨k + 1, ⟨by omega, by omega⟩, by omega, ⟨by omega, ⟨rfl, by omega, trivial⟩, trivial⟩, ?_, trivial⟩⟩
    rw [List.take_of_length_le (by rw [rgL_len]; omega)]
    exact rgL_two (by omega) (by omega) (by omega)
   ·have hge2 := not_of hge2
    have e1 : k = m := by omega
    subst e1
    have eq : List.take (2 * k + 1) (List.take (2 * k) (rgL k x (2 * k)) ++ List.take 1 [D.int ((x : Int) + (k : Int))]) = rgL k x (2 * k + 1) := by
     rw [List.take_of_length_le (l := rgL k x (2 * k)) (by rw [rgL_len]; omega), show List.take 1 [D.int ((x : Int) + (k : Int))] = [D.int ((x : Int) + (k : Int))] from rfl, rgL_last (by omega), List.take_of_length_le (by rw [rgL_len]; omega)]
    refine ⟨⟨by omega, by omega⟩, Nat.le_refl _, by rw [rgL_len]; omega, by omega, by rw [List.length_append, List.length_take, rgL_len]; simp, by omega, by omega, by rw [hSl]; omega, trivial, rfl, rfl, rfl, ⟨by omega, by omega⟩, x + 1, by show x + 1 ≤ _; omega, by omega, ⟨by omega, trivial⟩, ?_, trivial⟩
    rw [eq]
    exact rgS_next (by omega)
  ·have hge := not_of hge
   have ex : x = m := by omega
   subst ex
   refine ⟨⟨by rw [hSl]; omega, rgS_noHole _, sl4, ?_⟩, rfl, trivial⟩
   rw [Nat.sub_self, List.replicate_zero, List.append_nil, List.take_of_length_le (by rw [rgS_len]; exact Nat.le_refl _)]
end Go.Ev

end

section
open Go.Proofs
namespace Go.Ev
set_option maxRecDepth 100000
set_option maxHeartbeats 4000000
theorem vc3 : ∀ (k : Int), symFun (ctx rn3 rnAnn) (4 : Nat) (3 : FuncId) [V.int IntKind.u8 k] (V.prop True) = (((62 : Int) = (0 : Int) → False) ∧ ((-9223372036854775808 : Int) ≤ (3 : Int) +
IntKind.i64.wrap (k.tmod (62 : Int)) ∧ (3 : Int) + IntKind.i64.wrap (k.tmod (62 : Int)) < (9223372036854775808 : Int)) ∧ ((3 : Int) ≤ (3 : Int) + IntKind.i64.wrap (k.tmod (62 : Int)) ∧ (3 : Int) +
IntKind.i64.wrap (k.tmod (62 : Int)) ≤ (64 : Int)) ∧ ((2 : Int) = (0 : Int) → False) ∧ (((3 : Int) + IntKind.i64.wrap (k.tmod (62 : Int))).tmod (2 : Int) = (0 : Int) → (ringE ((3 : Int) +
IntKind.i64.wrap (k.tmod (62 : Int))) = (91 : Int) → ((↑(ringR ((3 : Int) + IntKind.i64.wrap (k.tmod (62 : Int)))).len : Int) = (0 : Int) → (true = true ↔ True)) ∧ (((↑(ringR ((3 : Int) +
IntKind.i64.wrap (k.tmod (62 : Int)))).len : Int) = (0 : Int) → False) → (false = true ↔ True))) ∧ ((ringE ((3 : Int) + IntKind.i64.wrap (k.tmod (62 : Int))) = (91 : Int) → False) → (false = true ↔
True))) ∧ ((((3 : Int) + IntKind.i64.wrap (k.tmod (62 : Int))).tmod (2 : Int) = (0 : Int) → False) → (0 : Nat) + (1 : Nat) ≤ [D.int ((3 : Int) + IntKind.i64.wrap (k.tmod (62 : Int)))].length ∧
((List.take (1 : Nat) [D.int ((3 : Int) + IntKind.i64.wrap (k.tmod (62 : Int)))]).length ≤ (1000 : Nat) ∧ bigP (ringR ((3 : Int) + IntKind.i64.wrap (k.tmod (62 : Int))))) ∧ (((ringE ((3 : Int) +
IntKind.i64.wrap (k.tmod (62 : Int))) = (0 : Int) → False) → False) → ((((chk ((3 : Int) + IntKind.i64.wrap (k.tmod (62 : Int))) (D.list (List.take (1 : Nat) [D.int ((3 : Int) + IntKind.i64.wrap
(k.tmod (62 : Int)))])) (ringR ((3 : Int) + IntKind.i64.wrap (k.tmod (62 : Int))))).fst = (0 : Int) → False) → False) → ((((chk ((3 : Int) + IntKind.i64.wrap (k.tmod (62 : Int))) (D.list (List.take (1
: Nat) [D.int ((3 : Int) + IntKind.i64.wrap (k.tmod (62 : Int)))])) (ringR ((3 : Int) + IntKind.i64.wrap (k.tmod (62 : Int))))).snd = (0 : Int) → False) → False) → ((2 : Int) = (0 : Int) → False) ∧
((-9223372036854775808 : Int) ≤ ((3 : Int) + IntKind.i64.wrap (k.tmod (62 : Int))).tdiv (2 : Int) ∧ ((3 : Int) + IntKind.i64.wrap (k.tmod (62 : Int))).tdiv (2 : Int) < (9223372036854775808 : Int)) ∧
(((↑(ringR ((3 : Int) + IntKind.i64.wrap (k.tmod (62 : Int)))).len : Int) = ((3 : Int) + IntKind.i64.wrap (k.tmod (62 : Int))).tdiv (2 : Int) → False) → (false = true ↔ True)) ∧ ((((↑(ringR ((3 : Int)
+ IntKind.i64.wrap (k.tmod (62 : Int)))).len : Int) = ((3 : Int) + IntKind.i64.wrap (k.tmod (62 : Int))).tdiv (2 : Int) → False) → False) → goodS ((3 : Int) + IntKind.i64.wrap (k.tmod (62 : Int)))
(ringR ((3 : Int) + IntKind.i64.wrap (k.tmod (62 : Int)))) ∧ (((↑(addS (zrL ((3 : Int) + IntKind.i64.wrap (k.tmod (62 : Int))).toNat ((3 : Int) + IntKind.i64.wrap (k.tmod (62 : Int))).toNat) (ringR
((3 : Int) + IntKind.i64.wrap (k.tmod (62 : Int)))) (ringR ((3 : Int) + IntKind.i64.wrap (k.tmod (62 : Int)))).len).length : Int) = (3 : Int) + IntKind.i64.wrap (k.tmod (62 : Int)) → False) → (false =
true ↔ True)) ∧ ((((↑(addS (zrL ((3 : Int) + IntKind.i64.wrap (k.tmod (62 : Int))).toNat ((3 : Int) + IntKind.i64.wrap (k.tmod (62 : Int))).toNat) (ringR ((3 : Int) + IntKind.i64.wrap (k.tmod (62 :
Int)))) (ringR ((3 : Int) + IntKind.i64.wrap (k.tmod (62 : Int)))).len).length : Int) = (3 : Int) + IntKind.i64.wrap (k.tmod (62 : Int)) → False) → False) → (∃ (x : Nat), x.le (addS (zrL ((3 : Int) +
IntKind.i64.wrap (k.tmod (62 : Int))).toNat ((3 : Int) + IntKind.i64.wrap (k.tmod (62 : Int))).toNat) (ringR ((3 : Int) + IntKind.i64.wrap (k.tmod (62 : Int)))) (ringR ((3 : Int) + IntKind.i64.wrap
(k.tmod (62 : Int)))).len).length ∧ ((0 : Int) = (↑x : Int) ∧ True) ∧ True) ∧ ∀ (x : Nat), x.le (addS (zrL ((3 : Int) + IntKind.i64.wrap (k.tmod (62 : Int))).toNat ((3 : Int) + IntKind.i64.wrap
(k.tmod (62 : Int))).toNat) (ringR ((3 : Int) + IntKind.i64.wrap (k.tmod (62 : Int)))) (ringR ((3 : Int) + IntKind.i64.wrap (k.tmod (62 : Int)))).len).length → (addS (zrL ((3 : Int) + IntKind.i64.wrap
(k.tmod (62 : Int))).toNat ((3 : Int) + IntKind.i64.wrap (k.tmod (62 : Int))).toNat) (ringR ((3 : Int) + IntKind.i64.wrap (k.tmod (62 : Int)))) (ringR ((3 : Int) + IntKind.i64.wrap (k.tmod (62 :
Int)))).len).length - x < LIM ∧ ((↑x : Int) < (↑(addS (zrL ((3 : Int) + IntKind.i64.wrap (k.tmod (62 : Int))).toNat ((3 : Int) + IntKind.i64.wrap (k.tmod (62 : Int))).toNat) (ringR ((3 : Int) +
IntKind.i64.wrap (k.tmod (62 : Int)))) (ringR ((3 : Int) + IntKind.i64.wrap (k.tmod (62 : Int)))).len).length : Int) → (0 : Int) ≤ (↑x : Int) ∧ (↑x : Int) < (↑(addS (zrL ((3 : Int) + IntKind.i64.wrap
(k.tmod (62 : Int))).toNat ((3 : Int) + IntKind.i64.wrap (k.tmod (62 : Int))).toNat) (ringR ((3 : Int) + IntKind.i64.wrap (k.tmod (62 : Int)))) (ringR ((3 : Int) + IntKind.i64.wrap (k.tmod (62 :
Int)))).len).length : Int) ∧ (((↑(nthD (addS (zrL ((3 : Int) + IntKind.i64.wrap (k.tmod (62 : Int))).toNat ((3 : Int) + IntKind.i64.wrap (k.tmod (62 : Int))).toNat) (ringR ((3 : Int) +
IntKind.i64.wrap (k.tmod (62 : Int)))) (ringR ((3 : Int) + IntKind.i64.wrap (k.tmod (62 : Int)))).len) x).len : Int) = (3 : Int) + IntKind.i64.wrap (k.tmod (62 : Int)) → False) → (false = true ↔
True)) ∧ ((((↑(nthD (addS (zrL ((3 : Int) + IntKind.i64.wrap (k.tmod (62 : Int))).toNat ((3 : Int) + IntKind.i64.wrap (k.tmod (62 : Int))).toNat) (ringR ((3 : Int) + IntKind.i64.wrap (k.tmod (62 :
Int)))) (ringR ((3 : Int) + IntKind.i64.wrap (k.tmod (62 : Int)))).len) x).len : Int) = (3 : Int) + IntKind.i64.wrap (k.tmod (62 : Int)) → False) → False) → (∃ (x_1 : Nat), x_1.le (nthD (addS (zrL ((3
: Int) + IntKind.i64.wrap (k.tmod (62 : Int))).toNat ((3 : Int) + IntKind.i64.wrap (k.tmod (62 : Int))).toNat) (ringR ((3 : Int) + IntKind.i64.wrap (k.tmod (62 : Int)))) (ringR ((3 : Int) +
IntKind.i64.wrap (k.tmod (62 : Int)))).len) x).len ∧ ((0 : Int) = (↑x_1 : Int) ∧ True) ∧ True) ∧ ∀ (x_1 : Nat), x_1.le (nthD (addS (zrL ((3 : Int) + IntKind.i64.wrap (k.tmod (62 : Int))).toNat ((3 :
Int) + IntKind.i64.wrap (k.tmod (62 : Int))).toNat) (ringR ((3 : Int) + IntKind.i64.wrap (k.tmod (62 : Int)))) (ringR ((3 : Int) + IntKind.i64.wrap (k.tmod (62 : Int)))).len) x).len → (nthD (addS (zrL
((3 : Int) + IntKind.i64.wrap (k.tmod (62 : Int))).toNat ((3 : Int) + IntKind.i64.wrap (k.tmod (62 : Int))).toNat) (ringR ((3 : Int) + IntKind.i64.wrap (k.tmod (62 : Int)))) (ringR ((3 : Int) +
IntKind.i64.wrap (k.tmod (62 : Int)))).len) x).len - x_1 < LIM ∧ ((↑x_1 : Int) < (↑(nthD (addS (zrL ((3 : Int) + IntKind.i64.wrap (k.tmod (62 : Int))).toNat ((3 : Int) + IntKind.i64.wrap (k.tmod (62 :
Int))).toNat) (ringR ((3 : Int) + IntKind.i64.wrap (k.tmod (62 : Int)))) (ringR ((3 : Int) + IntKind.i64.wrap (k.tmod (62 : Int)))).len) x).len : Int) → (0 : Int) ≤ (↑x_1 : Int) ∧ (↑x_1 : Int) <
(↑(nthD (addS (zrL ((3 : Int) + IntKind.i64.wrap (k.tmod (62 : Int))).toNat ((3 : Int) + IntKind.i64.wrap (k.tmod (62 : Int))).toNat) (ringR ((3 : Int) + IntKind.i64.wrap (k.tmod (62 : Int)))) (ringR
((3 : Int) + IntKind.i64.wrap (k.tmod (62 : Int)))).len) x).len : Int) ∧ ((((nAt (nthD (addS (zrL ((3 : Int) + IntKind.i64.wrap (k.tmod (62 : Int))).toNat ((3 : Int) + IntKind.i64.wrap (k.tmod (62 :
Int))).toNat) (ringR ((3 : Int) + IntKind.i64.wrap (k.tmod (62 : Int)))) (ringR ((3 : Int) + IntKind.i64.wrap (k.tmod (62 : Int)))).len) x) x_1 = (1 : Int) ↔ (↑x : Int) = (↑x_1 : Int) → False) →
False) → False) → ((nAt (nthD (addS (zrL ((3 : Int) + IntKind.i64.wrap (k.tmod (62 : Int))).toNat ((3 : Int) + IntKind.i64.wrap (k.tmod (62 : Int))).toNat) (ringR ((3 : Int) + IntKind.i64.wrap (k.tmod
(62 : Int)))) (ringR ((3 : Int) + IntKind.i64.wrap (k.tmod (62 : Int)))).len) x) x_1 < (0 : Int) → False) → ((1 : Int) < nAt (nthD (addS (zrL ((3 : Int) + IntKind.i64.wrap (k.tmod (62 : Int))).toNat
((3 : Int) + IntKind.i64.wrap (k.tmod (62 : Int))).toNat) (ringR ((3 : Int) + IntKind.i64.wrap (k.tmod (62 : Int)))) (ringR ((3 : Int) + IntKind.i64.wrap (k.tmod (62 : Int)))).len) x) x_1 → (false =
true ↔ True)) ∧ (((1 : Int) < nAt (nthD (addS (zrL ((3 : Int) + IntKind.i64.wrap (k.tmod (62 : Int))).toNat ((3 : Int) + IntKind.i64.wrap (k.tmod (62 : Int))).toNat) (ringR ((3 : Int) +
IntKind.i64.wrap (k.tmod (62 : Int)))) (ringR ((3 : Int) + IntKind.i64.wrap (k.tmod (62 : Int)))).len) x) x_1 → False) → ((-9223372036854775808 : Int) ≤ (↑x_1 : Int) + (1 : Int) ∧ (↑x_1 : Int) + (1 :
Int) < (9223372036854775808 : Int)) ∧ ∃ (y : Nat), y.le (nthD (addS (zrL ((3 : Int) + IntKind.i64.wrap (k.tmod (62 : Int))).toNat ((3 : Int) + IntKind.i64.wrap (k.tmod (62 : Int))).toNat) (ringR ((3 :
Int) + IntKind.i64.wrap (k.tmod (62 : Int)))) (ringR ((3 : Int) + IntKind.i64.wrap (k.tmod (62 : Int)))).len) x).len ∧ (nthD (addS (zrL ((3 : Int) + IntKind.i64.wrap (k.tmod (62 : Int))).toNat ((3 :
Int) + IntKind.i64.wrap (k.tmod (62 : Int))).toNat) (ringR ((3 : Int) + IntKind.i64.wrap (k.tmod (62 : Int)))) (ringR ((3 : Int) + IntKind.i64.wrap (k.tmod (62 : Int)))).len) x).len - y < (nthD (addS
(zrL ((3 : Int) + IntKind.i64.wrap (k.tmod (62 : Int))).toNat ((3 : Int) + IntKind.i64.wrap (k.tmod (62 : Int))).toNat) (ringR ((3 : Int) + IntKind.i64.wrap (k.tmod (62 : Int)))) (ringR ((3 : Int) +
IntKind.i64.wrap (k.tmod (62 : Int)))).len) x).len - x_1 ∧ ((↑x_1 : Int) + (1 : Int) = (↑y : Int) ∧ True) ∧ True)) ∧ (nAt (nthD (addS (zrL ((3 : Int) + IntKind.i64.wrap (k.tmod (62 : Int))).toNat ((3
: Int) + IntKind.i64.wrap (k.tmod (62 : Int))).toNat) (ringR ((3 : Int) + IntKind.i64.wrap (k.tmod (62 : Int)))) (ringR ((3 : Int) + IntKind.i64.wrap (k.tmod (62 : Int)))).len) x) x_1 < (0 : Int) →
(false = true ↔ True))) ∧ (((nAt (nthD (addS (zrL ((3 : Int) + IntKind.i64.wrap (k.tmod (62 : Int))).toNat ((3 : Int) + IntKind.i64.wrap (k.tmod (62 : Int))).toNat) (ringR ((3 : Int) +
IntKind.i64.wrap (k.tmod (62 : Int)))) (ringR ((3 : Int) + IntKind.i64.wrap (k.tmod (62 : Int)))).len) x) x_1 = (1 : Int) ↔ (↑x : Int) = (↑x_1 : Int) → False) → False) → (false = true ↔ True))) ∧
(((↑x_1 : Int) < (↑(nthD (addS (zrL ((3 : Int) + IntKind.i64.wrap (k.tmod (62 : Int))).toNat ((3 : Int) + IntKind.i64.wrap (k.tmod (62 : Int))).toNat) (ringR ((3 : Int) + IntKind.i64.wrap (k.tmod (62
: Int)))) (ringR ((3 : Int) + IntKind.i64.wrap (k.tmod (62 : Int)))).len) x).len : Int) → False) → ((-9223372036854775808 : Int) ≤ (↑x : Int) + (1 : Int) ∧ (↑x : Int) + (1 : Int) <
(9223372036854775808 : Int)) ∧ ∃ (y : Nat), y.le (addS (zrL ((3 : Int) + IntKind.i64.wrap (k.tmod (62 : Int))).toNat ((3 : Int) + IntKind.i64.wrap (k.tmod (62 : Int))).toNat) (ringR ((3 : Int) +
IntKind.i64.wrap (k.tmod (62 : Int)))) (ringR ((3 : Int) + IntKind.i64.wrap (k.tmod (62 : Int)))).len).length ∧ (addS (zrL ((3 : Int) + IntKind.i64.wrap (k.tmod (62 : Int))).toNat ((3 : Int) +
IntKind.i64.wrap (k.tmod (62 : Int))).toNat) (ringR ((3 : Int) + IntKind.i64.wrap (k.tmod (62 : Int)))) (ringR ((3 : Int) + IntKind.i64.wrap (k.tmod (62 : Int)))).len).length - y < (addS (zrL ((3 :
Int) + IntKind.i64.wrap (k.tmod (62 : Int))).toNat ((3 : Int) + IntKind.i64.wrap (k.tmod (62 : Int))).toNat) (ringR ((3 : Int) + IntKind.i64.wrap (k.tmod (62 : Int)))) (ringR ((3 : Int) +
IntKind.i64.wrap (k.tmod (62 : Int)))).len).length - x ∧ ((↑x : Int) + (1 : Int) = (↑y : Int) ∧ True) ∧ True))) ∧ (((↑x : Int) < (↑(addS (zrL ((3 : Int) + IntKind.i64.wrap (k.tmod (62 : Int))).toNat
((3 : Int) + IntKind.i64.wrap (k.tmod (62 : Int))).toNat) (ringR ((3 : Int) + IntKind.i64.wrap (k.tmod (62 : Int)))) (ringR ((3 : Int) + IntKind.i64.wrap (k.tmod (62 : Int)))).len).length : Int) →
False) → (true = true ↔ True))))) ∧ (((chk ((3 : Int) + IntKind.i64.wrap (k.tmod (62 : Int))) (D.list (List.take (1 : Nat) [D.int ((3 : Int) + IntKind.i64.wrap (k.tmod (62 : Int)))])) (ringR ((3 :
Int) + IntKind.i64.wrap (k.tmod (62 : Int))))).snd = (0 : Int) → False) → (false = true ↔ True))) ∧ (((chk ((3 : Int) + IntKind.i64.wrap (k.tmod (62 : Int))) (D.list (List.take (1 : Nat) [D.int ((3 :
Int) + IntKind.i64.wrap (k.tmod (62 : Int)))])) (ringR ((3 : Int) + IntKind.i64.wrap (k.tmod (62 : Int))))).fst = (0 : Int) → False) → (false = true ↔ True))) ∧ ((ringE ((3 : Int) + IntKind.i64.wrap
(k.tmod (62 : Int))) = (0 : Int) → False) → (false = true ↔ True)))) := by intros; kernel_rfl
theorem cnt_map : ∀ (l : List Nat) (x : Nat), cntF (l.map fun v => D.int (v : Nat)) (x : Int) = (l.count x : Nat)
 | [], _ => rfl
 | a :: l, x => by
  have ih := cnt_map l x
  show cntF (l.map fun v => D.int (v : Nat)) (x : Int) + (if (a : Int) = (x : Int) then 1 else 0) = _
  rw [ih, List.count_cons]
  by_cases e : a = x
  ·subst e; simp
  ·rw [if_neg (by omega), if_neg (by simpa using e)]; rfl
theorem rgL_map (m i j : Nat) : rgL m i j = ((List.range j).map (rgN m i)).map fun v => D.int (v : Nat) := by
 unfold rgL; rw [List.map_map]; rfl
theorem ring_errG {m i : Nat} (h : ringP m) (hi : i < m) : errG (2 * (m : Int) + 1) (rgL m i (2 * m + 1)) = 0 := by
 have hno : ¬ outP (2 * (m : Int) + 1) (rgL m i (2 * m + 1)) := fun ⟨a, ha, hb⟩ => by
  unfold rgL at ha
  obtain ⟨p, hp, rfl⟩ := List.mem_map.1 ha
  have := h.rng i p hi (List.mem_range.1 hp)
  apply hb
  show 0 ≤ ((rgN m i p : Nat) : Int) ∧ ((rgN m i p : Nat) : Int) < _
  omega
 have hone : ∀ x : Int, (0 ≤ x ∧ x < 2 * (m : Int) + 1) → cntF (rgL m i (2 * m + 1)) x = 1 := fun x hx => by
  obtain ⟨v, rfl⟩ : ∃ v : Nat, x = (v : Int) := ⟨x.toNat, by omega⟩
  rw [rgL_map, cnt_map, List.Nodup.count (h.inj i hi), if_pos (h.all i v hi (by omega))]
  rfl
 unfold errG
 rw [if_neg hno, if_neg (fun ⟨x, hx, h1⟩ => by rw [hone x hx] at h1; omega), if_neg (fun ⟨x, hx, h1⟩ => by rw [hone x hx] at h1; omega)]
theorem ring_errE {m i : Nat} {sz : D} (h : ringP m) (hi : i < m) (hs : 0 < sz.len → sz.len = 1 ∧ nAt sz 0 = 2 * (m : Int) + 1) : errE (2 * (m : Int) + 1) sz (.list [.list (rgL m i (2 * m + 1))]) = 0 := by
 have hl : (el (.list [.list (rgL m i (2 * m + 1))]) 0).len = 2 * m + 1 := rgL_len _ _ _
 unfold errE
 rw [if_neg ?_]
 ·exact ring_errG h hi
 ·rintro (⟨j, hj, he⟩ | ⟨h0, hn⟩)
  ·have : j = 0 := by have : j < 1 := hj; omega
   subst this
   rw [hl] at he; omega
  ·obtain ⟨h1, h2⟩ := hs h0
   refine hn ⟨h1.symm ▸ rfl, fun j hj => ?_⟩
   have : j = 0 := by have : j < 1 := hj; omega
   subst this
   rw [hl, h2]; omega
theorem scan_zero {n : Int} {sz s : D} : ∀ f i, (∀ k, i ≤ k → k < i + f → errE n sz (el s k) = 0) → scanK n sz s f i = (0, 0)
 | 0, i, _ => rfl
 | f + 1, i, h => by
  unfold scanK
  rw [if_neg (fun hne => hne (h i (Nat.le_refl _) (by omega)))]
  exact scan_zero f (i + 1) fun k h1 h2 => h k (by omega) (by omega)
theorem ring_chk {m : Nat} {sz : D} (h0 : 0 < m) (hm : m ≤ 31) (hs : 0 < sz.len → sz.len = 1 ∧ nAt sz 0 = 2 * (m : Int) + 1) : chk (2 * (m : Int) + 1) sz (.list (rgS m m)) = (0, 0) := by
 have h := ring_ok h0 hm
 have hl : (D.list (rgS m m)).len = m := rgS_len _ _
 unfold chk
 rw [if_neg ?_, if_neg (by omega), hl]
 ·refine scan_zero m 0 fun k _ hk => ?_
  have e : el (.list (rgS m m)) k = .list [.list (rgL m k (2 * m + 1))] := rgS_at m (by omega)
  rw [e]
  exact ring_errE h (by omega) hs
 ·rintro (h1 | ⟨h1, h2⟩)
  ·exact h1 ⟨by omega, by omega⟩
  ·obtain ⟨q1, q2⟩ := hs h1
   refine h2 ⟨fun i hi => ?_, ?_⟩
   ·have : i = 0 := by omega
    subst this; omega
   ·rw [q1]
    show 0 + nAt sz 0 = _
    omega
theorem ring_big {m : Nat} (hm : m ≤ 31) : bigP (.list (rgS m m)) := by
 refine ⟨by rw [show (D.list (rgS m m)).len = m from rgS_len _ _]; omega, fun i hi => ?_⟩
 have hi : i < (rgS m m).length := hi
 rw [rgS_len] at hi
 have e : el (.list (rgS m m)) i = .list [.list (rgL m i (2 * m + 1))] := rgS_at m hi
 rw [e]
 refine ⟨by show 1 ≤ 100; omega, fun j hj => ?_⟩
 have : j = 0 := by have : j < 1 := hj; omega
 subst this
 show (rgL m i (2 * m + 1)).length ≤ 1000
 rw [rgL_len]; omega
theorem tt : (true = true ↔ True) := ⟨fun _ => trivial, fun _ => rfl⟩
theorem sl3 (k : Int) (h0 : 0 ≤ k) (h1 : k < 256) : symFun (ctx rn3 rnAnn) 4 3 [.int .u8 k] (.prop True) := by
 rw [vc3]
 have hk : k.tmod 62 = k % 62 := Int.tmod_eq_emod_of_nonneg h0
 have hw : IntKind.i64.wrap (k.tmod 62) = k % 62 := by rw [hk]; exact wrap_inR (k := .i64) ⟨by omega, by omega⟩
 rw [hw]
 obtain ⟨N, hN⟩ : ∃ N, N = 3 + k % 62 := ⟨_, rfl⟩
 rw [← hN]
 have hN3 : 3 ≤ N := by omega
 have hN4 : N ≤ 64 := by omega
 refine ⟨fun h => by omega, ⟨by omega, by omega⟩, ⟨hN3, hN4⟩, fun h => by omega, fun he => ?_, fun ho => ?_⟩
 ·have he : N % 2 = 0 := by rw [Int.tmod_eq_emod_of_nonneg (by omega)] at he; exact he
  have e1 : ringR N = .nil := by unfold ringR; rw [if_pos he]
  have e2 : ringE N = 91 := by unfold ringE; rw [if_pos he]
  rw [e1, e2]
  exact ⟨fun _ => ⟨fun _ => tt, fun hne => (hne rfl).elim⟩, fun hne => (hne rfl).elim⟩
 ·have ho : ¬ N % 2 = 0 := fun e => ho (by rw [Int.tmod_eq_emod_of_nonneg (by omega)]; exact e)
  obtain ⟨m, rfl⟩ : ∃ m : Nat, N = 2 * (m : Int) + 1 := ⟨(N / 2).toNat, by omega⟩
  clear hN
  have hm0 : 0 < m := by omega
  have hm : m ≤ 31 := by omega
  have hd : (2 * (m : Int) + 1).tdiv 2 = (m : Int) := by rw [Int.tdiv_eq_ediv_of_nonneg (by omega)]; omega
  have hn : (2 * (m : Int) + 1).toNat = 2 * m + 1 := by omega
  have hlen : (D.list (rgS m m)).len = m := rgS_len _ _
  have hc1 : chk (2 * (m : Int) + 1) (.list (List.take 1 [D.int (2 * (m : Int) + 1)])) (.list (rgS m m)) = (0, 0) := ring_chk hm0 hm fun _ => ⟨rfl, rfl⟩
  have hgood : goodS (2 * (m : Int) + 1) (.list (rgS m m)) := ⟨⟨by omega, by omega⟩, ring_big hm, ring_chk hm0 hm fun h => by simp [D.len, D.asList] at h⟩
  have hsq := addS_sq hgood (zr_sq _) (D.list (rgS m m)).len (Nat.le_refl _)
  have hAA := hsq.eq
  rw [ringR_odd, ringE_odd, hc1, hd, hAA, sqD_len, hn, hlen]
  refine ⟨Nat.le_refl _, ⟨by show 1 ≤ 1000; omega, ring_big hm⟩, fun _ => ⟨fun _ => ⟨fun _ => ⟨fun h => by omega, ⟨by omega, by omega⟩, fun h => (h rfl).elim, fun _ => ⟨hgood, fun h => (h (by omega)).elim, fun _ => ⟨⟨0, Nat.zero_le _, ⟨rfl, trivial⟩, trivial⟩, fun x hx => ?_⟩⟩⟩, fun h => (h rfl).elim⟩, fun h => (h rfl).elim⟩, fun h => (h rfl).elim⟩
  have hx : x ≤ 2 * m + 1 := hx
  refine ⟨limS (by omega), fun hlt => ?_, fun _ => tt⟩
  have hx2 : x < 2 * m + 1 := by omega
  have er : nthD (sqD (2 * m + 1) (nbS (D.list (rgS m m)) m)) x = .list (rowF (2 * m + 1) (nbS (D.list (rgS m m)) m) x) := sqD_at _ hx2
  have hrl : (D.list (rowF (2 * m + 1) (nbS (D.list (rgS m m)) m) x)).len = 2 * m + 1 := rowF_len _ _ _
  rw [er, hrl]
  refine ⟨by omega, hlt, fun h => (h (by omega)).elim, fun _ => ⟨⟨0, Nat.zero_le _, ⟨rfl, trivial⟩, trivial⟩, fun y hy => ?_⟩⟩
  have hy : y ≤ 2 * m + 1 := hy
  refine ⟨limS (by omega), fun hlt2 => ?_, fun hge2 => ⟨⟨by omega, by omega⟩, x + 1, by show x + 1 ≤ _; omega, by omega, ⟨by omega, trivial⟩, trivial⟩⟩
  have hy2 : y < 2 * m + 1 := by omega
  have ev : nAt (.list (rowF (2 * m + 1) (nbS (D.list (rgS m m)) m) x)) y = if x = y then 0 else 1 := by
   show (nthD (rowF (2 * m + 1) (nbS (D.list (rgS m m)) m) x) y).asInt = _
   rw [rowF_at _ _ hy2]
   exact ring_beside hm0 hm hx2 hy2
  rw [ev]
  have hP : ((if x = y then (0 : Int) else 1) = 1 ↔ ((x : Int) = (y : Int) → False)) := by
   by_cases e : x = y
   ·rw [if_pos e]; exact ⟨fun h => by omega, fun h => (h (by omega)).elim⟩
   ·rw [if_neg e]; exact ⟨fun _ h => by omega, fun _ => rfl⟩
  have hv : 0 ≤ (if x = y then (0 : Int) else 1) ∧ (if x = y then (0 : Int) else 1) ≤ 1 := by split <;> omega
  exact ⟨by omega, hlt2, fun _ => ⟨fun _ => ⟨fun h => by omega, fun _ => ⟨⟨by omega, by omega⟩, y + 1, by show y + 1 ≤ _; omega, by omega, ⟨by omega, trivial⟩, trivial⟩⟩, fun h => by omega⟩, fun h => (h hP).elim⟩
end Go.Ev

end
