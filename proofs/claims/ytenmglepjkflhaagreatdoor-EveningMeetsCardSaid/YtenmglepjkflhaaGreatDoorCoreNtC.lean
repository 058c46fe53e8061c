/-
  Part of the engine that the claim is proved with: it states nothing of the document by itself.
-/
import Derived.Test.YtenmglepjkflhaaGreatDoorCoreNtB
open Go.Proofs
namespace Go.Ev
set_option maxRecDepth 100000
set_option maxHeartbeats 4000000
theorem vc7 : ∀ (n : Int) (s : D), symFun (ctx nt2 ntAnn) 8 (8 : FuncId) [V.int IntKind.i64 n, V.dat (22 : TypeId) s] (V.dat (26 : TypeId) (D.list (pqS (zrL n.toNat n.toNat) s s.len))) = (bigP s ∧ (((chk n D.nil s).snd =
0 → False) → D.nil = D.list (pqS (zrL n.toNat n.toNat) s s.len)) ∧ ((((chk n D.nil s).snd = 0 → False) → False) → 0 ≤ n ∧ n ≤ n ∧ n ≤ 16777216 ∧ 24 * n.toNat ≤ 281474976710656 ∧ (∃ (x : Nat), x.le n.toNat ∧ (0 = (x :
Int) ∧ True) ∧ (List.replicate n.toNat D.nil = zrL n.toNat x ∧ allNil (List.replicate n.toNat D.nil)) ∧ True) ∧ ∀ (x : Nat), x.le n.toNat → n.toNat - x < LIM ∧ ((x : Int) < n → 0 ≤ n ∧ n ≤ n ∧ n ≤ 16777216 ∧ 8 * n.toNat
≤ 281474976710656 ∧ 0 ≤ (x : Int) ∧ (x : Int) < (n.toNat : Int) ∧ x < (zrL n.toNat x).length ∧ True ∧ (0 : Nat) = 0 ∧ n.toNat = (List.replicate n.toNat (D.int 0)).length ∧ n.toNat = n.toNat ∧ fits64 ((x : Int) + 1) ∧ ∃
(y : Nat), y.le n.toNat ∧ n.toNat - y < n.toNat - x ∧ ((x : Int) + 1 = (y : Int) ∧ True) ∧ (zrL n.toNat x).set x (D.list (List.replicate n.toNat (D.int 0))) = zrL n.toNat y ∧ True) ∧ (((x : Int) < n → False) → (∃ (x_1 :
Nat), x_1.le s.len ∧ (0 = (x_1 : Int) ∧ True) ∧ zrL n.toNat x = pqS (zrL n.toNat x) s x_1 ∧ True) ∧ ∀ (x_1 : Nat), x_1.le s.len → s.len - x_1 < LIM ∧ ((x_1 : Int) < (s.len : Int) → 0 ≤ (x_1 : Int) ∧ (x_1 : Int) < (s.len
: Int) ∧ (∃ (x_2 : Nat), x_2.le (el s x_1).len ∧ (0 = (x_2 : Int) ∧ True) ∧ pqS (zrL n.toNat x) s x_1 = pqE (pqS (zrL n.toNat x) s x_1) (el s x_1) x_2 ∧ True) ∧ ∀ (x_2 : Nat), x_2.le (el s x_1).len → (el s x_1).len - x_2
< LIM ∧ ((x_2 : Int) < (↑(el s x_1).len : Int) → 0 ≤ (x_2 : Int) ∧ (x_2 : Int) < (↑(el s x_1).len : Int) ∧ (∃ (x_3 : Nat), x_3.le (el (el s x_1) x_2).len ∧ (0 = (x_3 : Int) ∧ True) ∧ pqE (pqS (zrL n.toNat x) s x_1) (el s
x_1) x_2 = pqN (pqE (pqS (zrL n.toNat x) s x_1) (el s x_1) x_2) (el (el s x_1) x_2) x_3 ∧ True) ∧ ∀ (x_3 : Nat), x_3.le (el (el s x_1) x_2).len → (el (el s x_1) x_2).len - x_3 < LIM ∧ ((x_3 : Int) < (↑(el (el s x_1)
x_2).len : Int) → 0 ≤ (x_3 : Int) ∧ (x_3 : Int) < (↑(el (el s x_1) x_2).len : Int) ∧ (0 : Int) ≤ 0 ∧ 0 ≤ (x_3 : Int) ∧ (x_3 : Int) ≤ (↑(el (el s x_1) x_2).len : Int) ∧ (∃ (x_4 : Nat), x_4.le x_3 ∧ (0 = (x_4 : Int) ∧
True) ∧ pqN (pqE (pqS (zrL n.toNat x) s x_1) (el s x_1) x_2) (el (el s x_1) x_2) x_3 = (pqI (pqN (pqE (pqS (zrL n.toNat x) s x_1) (el s x_1) x_2) (el (el s x_1) x_2) x_3) (el (el s x_1) x_2) x_3 x_4) ∧ True) ∧ ∀ (x_4 :
Nat), x_4.le x_3 → x_3 - x_4 < LIM ∧ ((x_4 : Int) < (↑((el (el s x_1) x_2).sub 0 x_3).len : Int) → 0 ≤ (x_4 : Int) ∧ (x_4 : Int) < (↑((el (el s x_1) x_2).sub 0 x_3).len : Int) ∧ wrC n.toNat (pqI (pqN (pqE (pqS (zrL
n.toNat x) s x_1) (el s x_1) x_2) (el (el s x_1) x_2) x_3) (el (el s x_1) x_2) x_3 x_4) (nAt ((el (el s x_1) x_2).sub 0 x_3) x_4) (nAt (el (el s x_1) x_2) x_3) (wrC n.toNat (incZ (pqI (pqN (pqE (pqS (zrL n.toNat x) s
x_1) (el s x_1) x_2) (el (el s x_1) x_2) x_3) (el (el s x_1) x_2) x_3 x_4) (nAt ((el (el s x_1) x_2).sub 0 x_3) x_4) (nAt (el (el s x_1) x_2) x_3)) (nAt (el (el s x_1) x_2) x_3) (nAt ((el (el s x_1) x_2).sub 0 x_3) x_4)
(fits64 ((x_4 : Int) + 1) ∧ ∃ (y : Nat), y.le x_3 ∧ x_3 - y < x_3 - x_4 ∧ ((x_4 : Int) + 1 = (y : Int) ∧ True) ∧ (incZ (incZ (pqI (pqN (pqE (pqS (zrL n.toNat x) s x_1) (el s x_1) x_2) (el (el s x_1) x_2) x_3) (el (el s
x_1) x_2) x_3 x_4) (nAt ((el (el s x_1) x_2).sub 0 x_3) x_4) (nAt (el (el s x_1) x_2) x_3)) (nAt (el (el s x_1) x_2) x_3) (nAt ((el (el s x_1) x_2).sub 0 x_3) x_4)) = pqI (pqN (pqE (pqS (zrL n.toNat x) s x_1) (el s x_1)
x_2) (el (el s x_1) x_2) x_3) (el (el s x_1) x_2) x_3 y ∧ True))) ∧ (((x_4 : Int) < (↑((el (el s x_1) x_2).sub 0 x_3).len : Int) → False) → fits64 ((x_3 : Int) + 1) ∧ ∃ (y : Nat), y.le (el (el s x_1) x_2).len ∧ (el (el s
x_1) x_2).len - y < (el (el s x_1) x_2).len - x_3 ∧ ((x_3 : Int) + 1 = (y : Int) ∧ True) ∧ (pqI (pqN (pqE (pqS (zrL n.toNat x) s x_1) (el s x_1) x_2) (el (el s x_1) x_2) x_3) (el (el s x_1) x_2) x_3 x_4) = pqN (pqE (pqS
(zrL n.toNat x) s x_1) (el s x_1) x_2) (el (el s x_1) x_2) y ∧ True)) ∧ (((x_3 : Int) < (↑(el (el s x_1) x_2).len : Int) → False) → fits64 ((x_2 : Int) + 1) ∧ ∃ (y : Nat), y.le (el s x_1).len ∧ (el s x_1).len - y < (el s
x_1).len - x_2 ∧ ((x_2 : Int) + 1 = (y : Int) ∧ True) ∧ pqN (pqE (pqS (zrL n.toNat x) s x_1) (el s x_1) x_2) (el (el s x_1) x_2) x_3 = pqE (pqS (zrL n.toNat x) s x_1) (el s x_1) y ∧ True)) ∧ (((x_2 : Int) < (↑(el s
x_1).len : Int) → False) → fits64 ((x_1 : Int) + 1) ∧ ∃ (y : Nat), y.le s.len ∧ s.len - y < s.len - x_1 ∧ ((x_1 : Int) + 1 = (y : Int) ∧ True) ∧ pqE (pqS (zrL n.toNat x) s x_1) (el s x_1) x_2 = pqS (zrL n.toNat x) s y ∧
True)) ∧ (((x_1 : Int) < (s.len : Int) → False) → 0 + n.toNat ≤ (pqS (zrL n.toNat x) s x_1).length ∧ noHole (pqS (zrL n.toNat x) s x_1) ∧ (isSliceT (ctx nt2 ntAnn).P (27 : TypeId) = true ∧ sizeIs (ctx nt2 ntAnn).P (27 :
TypeId) 1 = true) ∧ D.list (List.take n.toNat (pqS (zrL n.toNat x) s x_1)) = D.list (pqS (zrL n.toNat n.toNat) s s.len))))) := by intros; kernel_rfl
theorem vc16 : ∀ (n : Int) (s : D), symFun (ctx nt1 ntAnn) 3 (31 : FuncId) [V.int IntKind.i64 n, V.dat (22 : TypeId) s] (V.prop ((chk n D.nil s).snd = 0)) = (((0 : Nat) ≤ 1000 ∧ bigP s) ∧ ((chk n D.nil s).snd = 0 ↔ (chk
n D.nil s).snd = 0)) := by intros; kernel_rfl
theorem limS {n : Nat} (h : n ≤ 16777216) : n < LIM := by unfold LIM; omega
theorem scan_all {n : Int} {s : D} : ∀ f i, scanK n .nil s f i = (0, 0) → ∀ k, i ≤ k → k < i + f → errE n .nil (el s k) = 0
 | 0, i, _, k, h1, h2 => by omega
 | f + 1, i, h, k, h1, h2 => by
  unfold scanK at h
  by_cases he : errE n .nil (el s i) ≠ 0
  ·rw [if_pos he] at h
   exact absurd (congrArg Prod.snd h) he
  ·rw [if_neg he] at h
   rcases Nat.lt_or_ge i k with h3 | h3
   ·exact scan_all f (i + 1) h k h3 (by omega)
   ·have : k = i := by omega
    subst this; exact Classical.not_not.1 he
theorem good_err {n : Int} {s : D} (h : goodS n s) {i : Nat} (hi : i < s.len) : errE n .nil (el s i) = 0 := by
 have hc := h.chk
 unfold chk at hc
 split at hc
 ·exact absurd (congrArg Prod.snd hc) (by decide)
 ·split at hc
  ·exact absurd (congrArg Prod.snd hc) (by decide)
  ·exact scan_all _ _ hc i (Nat.zero_le _) (by omega)
theorem flat_mem (ev : D) {j : Nat} {a : D} (ha : a ∈ (el ev j).asList) : ∀ m, j < m → a ∈ flatL ev m
 | 0, h => by omega
 | m + 1, h => by
  show a ∈ flatL ev m ++ (el ev m).asList
  rcases Nat.lt_or_ge j m with h1 | h1
  ·exact List.mem_append_left _ (flat_mem ev ha m h1)
  ·have : j = m := by omega
   subst this; exact List.mem_append_right _ ha
structure tabP (n : Int) (tb : D) : Prop where
 pos : 0 < tb.len
 rng : ∀ k, k < tb.len → 0 ≤ nAt tb k ∧ nAt tb k < n
theorem good_tab {n : Int} {s : D} (h : goodS n s) {i j : Nat} (hi : i < s.len) (hj : j < (el s i).len) : tabP n (el (el s i) j) := by
 have he := good_err h hi
 unfold errE at he
 split at he
 ·cases he
 ·rename_i hne
  have h1 : ¬ emptyP (el s i) := fun q => hne (.inl q)
  refine ⟨Nat.pos_of_ne_zero fun h0 => h1 ⟨j, hj, h0⟩, fun k hk => ?_⟩
  unfold errG at he
  split at he
  ·cases he
  ·rename_i ho
   refine Classical.byContradiction fun hc => ho ⟨nthD (el (el s i) j).asList k, flat_mem _ (nthD_mem hk) _ hj, hc⟩
theorem s16 (n : Int) (s : D) (hs : bigP s) : symFun (ctx nt1 ntAnn) 3 31 [.int .i64 n, .dat 22 s] (.prop ((chk n .nil s).2 = 0)) := by
 rw [vc16]; exact ⟨⟨Nat.zero_le _, hs⟩, Iff.rfl⟩
def rowF (m : Nat) (f : Nat → Nat → Int) (a : Nat) : List D := (List.range m).map fun b => .int (f a b)
theorem rowF_len (m : Nat) (f : Nat → Nat → Int) (a : Nat) : (rowF m f a).length = m := by unfold rowF; rw [List.length_map, List.length_range]
theorem rowF_at {m : Nat} (f : Nat → Nat → Int) (a : Nat) {b : Nat} (h : b < m) : nthD (rowF m f a) b = .int (f a b) := by
 unfold rowF nthD
 rw [List.getElem?_map, List.getElem?_range h]; rfl
theorem sqD_len (m : Nat) (f : Nat → Nat → Int) : (sqD m f).length = m := by unfold sqD; rw [List.length_map, List.length_range]
theorem sqD_at {m : Nat} (f : Nat → Nat → Int) {a : Nat} (h : a < m) : nthD (sqD m f) a = .list (rowF m f a) := by
 unfold sqD nthD
 rw [List.getElem?_map, List.getElem?_range h]; rfl
structure sqF (m : Nat) (K : Int) (f : Nat → Nat → Int) (q : List D) : Prop where
 eq : q = sqD m f
 bnd : ∀ a b, a < m → b < m → 0 ≤ f a b ∧ f a b ≤ K
theorem sqF.cong {m : Nat} {K K' : Int} {f g : Nat → Nat → Int} {q : List D} (h : sqF m K f q) (hK : K ≤ K') (he : ∀ a b, a < m → b < m → f a b = g a b) : sqF m K' g q := by
 refine ⟨h.eq.trans ?_, fun a b ha hb => by have := h.bnd a b ha hb; rw [← he a b ha hb]; omega⟩
 unfold sqD
 apply List.map_congr_left
 intro a ha
 congr 1
 apply List.map_congr_left
 intro b hb
 rw [he a b (List.mem_range.1 ha) (List.mem_range.1 hb)]
theorem set_map {α : Type} (m X : Nat) (g : Nat → α) (v : α) : ((List.range m).map g).set X v = (List.range m).map fun a => if X = a then v else g a := by
 apply List.ext_getElem (by simp)
 intro i h1 h2
 rw [List.getElem_set]
 simp only [List.getElem_map, List.getElem_range]
theorem incZ_sq {m : Nat} {K : Int} {f : Nat → Nat → Int} {q : List D} {x y : Int} (h : sqF m K f q) (hx : 0 ≤ x ∧ x < m) (hy : 0 ≤ y ∧ y < m) : sqF m (K + 1) (fun a b => f a b + if x = a ∧ y = b then 1 else 0) (incZ q x y) := by
 refine ⟨?_, fun a b ha hb => by have := h.bnd a b ha hb; split <;> omega⟩
 rw [h.eq]
 unfold incZ
 rw [sqD_at f (a := x.toNat) (by omega)]
 have e1 : nAt (.list (rowF m f x.toNat)) y.toNat = f x.toNat y.toNat := by
  show (nthD (rowF m f x.toNat) y.toNat).asInt = _
  rw [rowF_at f _ (by omega)]; rfl
 rw [e1]
 show (sqD m f).set x.toNat (.list ((rowF m f x.toNat).set y.toNat (.int (f x.toNat y.toNat + 1)))) = _
 unfold sqD rowF
 rw [set_map, set_map]
 apply List.map_congr_left
 intro a _
 by_cases e : x.toNat = a
 ·subst e
  rw [if_pos rfl]
  congr 1
  apply List.map_congr_left
  intro b _
  show _ = D.int (f x.toNat b + if x = (x.toNat : Int) ∧ y = (b : Int) then (1 : Int) else 0)
  by_cases e2 : y.toNat = b
  ·subst e2; rw [if_pos rfl, if_pos ⟨by omega, by omega⟩]
  ·rw [if_neg e2, if_neg (by omega), Int.add_zero]
 ·rw [if_neg e]
  congr 1
  apply List.map_congr_left
  intro b _
  show _ = D.int (f a b + if x = (a : Int) ∧ y = (b : Int) then (1 : Int) else 0)
  rw [if_neg (by omega), Int.add_zero]
theorem wr_ok {m : Nat} {K : Int} {f : Nat → Nat → Int} {q : List D} {x y : Int} {k : Prop} (h : sqF m K f q) (hK : K < 9000000000000000000) (hx : 0 ≤ x ∧ x < m) (hy : 0 ≤ y ∧ y < m) (hk : k) : wrC m q x y k := by
 have hq := h.eq
 subst hq
 have e0 := sqD_at f (a := x.toNat) (m := m) (by omega)
 have hl := sqD_len m f
 have e1 : nAt (.list (rowF m f x.toNat)) y.toNat = f x.toNat y.toNat := by
  show (nthD (rowF m f x.toNat) y.toNat).asInt = _
  rw [rowF_at f _ (by omega)]; rfl
 have hb := h.bnd x.toNat y.toNat (by omega) (by omega)
 have hrl : (D.list (rowF m f x.toNat)).len = m := rowF_len m f x.toNat
 unfold wrC
 rw [e0, e1, hl, hrl]
 refine ⟨hx.1, hx.2, by omega, (by intro h; cases h), fun r hr => ?_, fun _ h => by cases h⟩
 have hrm : r.length = m := by cases hr; exact rowF_len m f _
 rw [hrm]
 exact ⟨hy.1, hy.2, by omega, hy.2, by omega, by omega, ⟨by omega, by omega⟩, hy.1, hy.2, by omega, hy.2, by omega, by omega, hk⟩
theorem updP_sq {m : Nat} {K : Int} {f : Nat → Nat → Int} {q : List D} {x y : Int} (h : sqF m K f q) (hx : 0 ≤ x ∧ x < m) (hy : 0 ≤ y ∧ y < m) : sqF m (K + 2) (fun a b => f a b + indN x y a b) (updP q x y) :=
 (incZ_sq (incZ_sq h hx hy) hy hx).cong (by omega) fun a b _ _ => by unfold indN; rw [Int.add_assoc]
theorem good_tabs {n : Int} {s : D} (h : goodS n s) {i j : Nat} (hi : i < s.len) (hj : j < (el s i).len) : (el (el s i) j).len ≤ 1000 ∧ ∀ k, k < (el (el s i) j).len → 0 ≤ nAt (el (el s i) j) k ∧ nAt (el (el s i) j) k < (n.toNat : Int) := by
 have ht := good_tab h hi hj
 have hn := h.n1
 refine ⟨(h.big.out.2 i hi).out.2 j hj, fun k hk => ?_⟩
 have := ht.rng k hk
 omega
theorem zr_sq (n : Nat) : sqF n 0 (fun _ _ => 0) (zrL n n) := by
 refine ⟨?_, fun _ _ _ _ => ⟨Int.le_refl _, Int.le_refl _⟩⟩
 unfold zrL sqD
 rw [Nat.sub_self, List.replicate_zero, List.append_nil]
 apply List.map_congr_left
 intro a _
 congr 1
 apply List.ext_getElem (by simp)
 intro i h1 h2
 simp
theorem zr_len (n x : Nat) (h : x ≤ n) : (zrL n x).length = n := by unfold zrL; simp; omega
theorem zr_next {n x : Nat} (h : x < n) : (zrL n x).set x (.list (List.replicate n (.int 0))) = zrL n (x + 1) := by
 unfold zrL
 have e : n - x = n - (x + 1) + 1 := by omega
 rw [List.set_append_right _ _ (by simp), List.length_map, List.length_range, Nat.sub_self, e, List.replicate_succ, List.set_cons_zero, List.range_succ, List.map_append, List.append_assoc]
 rfl
theorem zr_zero (n : Nat) : List.replicate n D.nil = zrL n 0 := rfl
theorem allNil_rep (n : Nat) : allNil (List.replicate n D.nil) := ⟨fun d h => List.eq_of_mem_replicate h⟩
theorem sq_noHole (m : Nat) (f : Nat → Nat → Int) : noHole (sqD m f) := ⟨fun k h => by
 obtain ⟨i, _, e⟩ := List.mem_map.1 h
 cases e⟩
theorem sub_at {t : D} {i j : Nat} (h : j < i) : nAt (t.sub 0 i) j = nAt t j := by
 unfold nAt nthD
 cases t <;> simp [D.sub, D.asList]
 rw [List.getElem?_take, if_pos h]
theorem sub_len {t : D} {i : Nat} (h : i ≤ t.len) : (t.sub 0 i).len = i := by
 cases t <;> simp [D.sub, D.len, D.asList] at h ⊢ <;> omega
theorem pqI_sq {m : Nat} {K : Int} {f : Nat → Nat → Int} {q : List D} {t : D} {i : Nat} (h : sqF m K f q) (ht : ∀ k, k < t.len → 0 ≤ nAt t k ∧ nAt t k < m) (hi : i < t.len) : ∀ j, j ≤ i → sqF m (K + 2 * j) (fun a b => f a b + mtI t i j a b) (pqI q t i j)
 | 0, _ => h.cong (by omega) fun a b _ _ => by simp [mtI]
 | j + 1, hj => (updP_sq (pqI_sq h ht hi j (by omega)) (ht j (by omega)) (ht i hi)).cong (by omega) fun a b _ _ => by
   show _ = f a b + (mtI t i j a b + indN (nAt t j) (nAt t i) a b)
   rw [Int.add_assoc]
theorem pqN_sq {m : Nat} {K : Int} {f : Nat → Nat → Int} {q : List D} {t : D} {L : Nat} (h : sqF m K f q) (ht : ∀ k, k < t.len → 0 ≤ nAt t k ∧ nAt t k < m) (hl : t.len ≤ L) : ∀ i, i ≤ t.len → sqF m (K + 2 * L * i) (fun a b => f a b + mtN t i a b) (pqN q t i)
 | 0, _ => h.cong (by omega) fun a b _ _ => by simp [mtN]
 | i + 1, hi => (pqI_sq (pqN_sq h ht hl i (by omega)) ht (show i < t.len by omega) i (Nat.le_refl _)).cong (by
   have : (2 * (L : Int) * ((i + 1 : Nat) : Int)) = 2 * (L : Int) * (i : Int) + 2 * (L : Int) := by rw [Int.natCast_add, Int.mul_add]; simp
   omega) fun a b _ _ => by
   show _ = f a b + (mtN t i a b + mtI t i i a b)
   rw [Int.add_assoc]
theorem pqE_sq {m : Nat} {K : Int} {f : Nat → Nat → Int} {q : List D} {ev : D} {L : Nat} (h : sqF m K f q) (ht : ∀ j, j < ev.len → (el ev j).len ≤ L ∧ ∀ k, k < (el ev j).len → 0 ≤ nAt (el ev j) k ∧ nAt (el ev j) k < m) : ∀ j, j ≤ ev.len → sqF m (K + 2 * L * L * j) (fun a b => f a b + mtE ev j a b) (pqE q ev j)
 | 0, _ => h.cong (by simp) fun a b _ _ => by simp [mtE]
 | j + 1, hj => (pqN_sq (pqE_sq h ht j (by omega)) (ht j (by omega)).2 (ht j (by omega)).1 (el ev j).len (Nat.le_refl _)).cong (by
   have h1 : (2 * (L : Int) * (L : Int) * ((j + 1 : Nat) : Int)) = 2 * (L : Int) * (L : Int) * (j : Int) + 2 * (L : Int) * (L : Int) := by rw [Int.natCast_add, Int.mul_add]; simp
   have h2 : 2 * (L : Int) * ((el ev j).len : Int) ≤ 2 * (L : Int) * (L : Int) := Int.mul_le_mul_of_nonneg_left (by have := (ht j (by omega)).1; omega) (by omega)
   omega) fun a b _ _ => by
   show _ = f a b + (mtE ev j a b + mtN (el ev j) (el ev j).len a b)
   rw [Int.add_assoc]
theorem pqS_sq {n : Int} {s : D} (h : goodS n s) {q : List D} (hq : sqF n.toNat 0 (fun _ _ => 0) q) : ∀ i, i ≤ s.len → sqF n.toNat (200000000 * i) (mtS s i) (pqS q s i)
 | 0, _ => hq.cong (by omega) fun _ _ _ _ => rfl
 | i + 1, hi => by
  have hb := (h.big.out.2 i (by omega)).out.1
  exact (pqE_sq (L := 1000) (pqS_sq h hq i (by omega)) (fun j hj => good_tabs h (by omega) hj) (el s i).len (Nat.le_refl _)).cong (by omega) fun _ _ _ _ => rfl
theorem sl7 : isSliceT (ctx nt2 ntAnn).P (27 : TypeId) = true ∧ sizeIs (ctx nt2 ntAnn).P (27 : TypeId) (1 : Nat) = true := by constructor <;> kernel_rfl
theorem s7 (n : Int) (s : D) (h : goodS n s) : symFun (ctx nt2 ntAnn) 8 8 [.int .i64 n, .dat 22 s] (.dat 26 (.list (pqS (zrL n.toNat n.toNat) s s.len))) := by
 rw [vc7]
 have hn := h.n1
 have hb := h.big.out.1
 have hz := zr_sq n.toNat
 refine ⟨h.big, fun hne => (hne (by rw [h.chk])).elim, fun _ => ⟨by omega, Int.le_refl _, by omega, by omega, ⟨0, Nat.zero_le _, ⟨rfl, trivial⟩, ⟨zr_zero _, allNil_rep _⟩, trivial⟩, fun x hx => ?_⟩⟩
 have hx : x ≤ n.toNat := hx
 refine ⟨limS (by omega), fun hlt => ⟨by omega, Int.le_refl _, by omega, by omega, by omega, by omega, by rw [zr_len _ _ hx]; omega, trivial, rfl, by rw [List.length_replicate], rfl, ⟨by omega, by omega⟩, x + 1, by show x + 1 ≤ _; omega, by omega, ⟨by omega, trivial⟩, zr_next (by omega), trivial⟩, fun hge => ?_⟩
 have hge := not_of hge
 have ex : x = n.toNat := by omega
 subst ex
 refine ⟨⟨0, Nat.zero_le _, ⟨rfl, trivial⟩, rfl, trivial⟩, fun i hi => ?_⟩
 have hi : i ≤ s.len := hi
 have hSq := pqS_sq h hz i hi
 refine ⟨limS (by omega), fun hlt2 => ?_, fun hge2 => ?_⟩
 ·have hi2 : i < s.len := by omega
  have hev := (h.big.out.2 i hi2).out.1
  refine ⟨by omega, hlt2, ⟨0, Nat.zero_le _, ⟨rfl, trivial⟩, rfl, trivial⟩, fun j hj => ?_⟩
  have hj : j ≤ (el s i).len := hj
  have hEq := pqE_sq (L := 1000) hSq (fun j hj => good_tabs h hi2 hj) j hj
  refine ⟨limS (by omega), fun hlt3 => ?_, fun hge3 => ?_⟩
  ·have hj2 : j < (el s i).len := by omega
   obtain ⟨htl, htr⟩ := good_tabs h hi2 hj2
   refine ⟨by omega, hlt3, ⟨0, Nat.zero_le _, ⟨rfl, trivial⟩, rfl, trivial⟩, fun z hz2 => ?_⟩
   have hz2 : z ≤ (el (el s i) j).len := hz2
   have hNq := pqN_sq (L := 1000) hEq htr htl z hz2
   refine ⟨limS (by omega), fun hlt4 => ?_, fun hge4 => ?_⟩
   ·have hz3 : z < (el (el s i) j).len := by omega
    have hsl := sub_len (t := el (el s i) j) hz2
    refine ⟨by omega, hlt4, Int.le_refl _, by omega, by omega, ⟨0, Nat.zero_le _, ⟨rfl, trivial⟩, rfl, trivial⟩, fun w hw => ?_⟩
    have hw : w ≤ z := hw
    have hIq := pqI_sq hNq htr hz3 w hw
    refine ⟨limS (by omega), fun hlt5 => ?_, fun hge5 => ?_⟩
    ·have hw2 : w < z := by omega
     have ea := sub_at (t := el (el s i) j) hw2
     have r1 := htr w (by omega)
     have r2 := htr z hz3
     rw [ea]
     exact ⟨by omega, hlt5, wr_ok hIq (by omega) r1 r2 (wr_ok (incZ_sq hIq r1 r2) (by omega) r2 r1 ⟨⟨by omega, by omega⟩, w + 1, by show w + 1 ≤ _; omega, by omega, ⟨by omega, trivial⟩, rfl, trivial⟩)⟩
    ·have hge5 := not_of hge5
     have ew : w = z := by omega
     subst ew
     exact ⟨⟨by omega, by omega⟩, w + 1, by show w + 1 ≤ _; omega, by omega, ⟨by omega, trivial⟩, rfl, trivial⟩
   ·have hge4 := not_of hge4
    have ez : z = (el (el s i) j).len := by omega
    subst ez
    exact ⟨⟨by omega, by omega⟩, j + 1, by show j + 1 ≤ _; omega, by omega, ⟨by omega, trivial⟩, rfl, trivial⟩
  ·have hge3 := not_of hge3
   have ej : j = (el s i).len := by omega
   subst ej
   exact ⟨⟨by omega, by omega⟩, i + 1, by show i + 1 ≤ _; omega, by omega, ⟨by omega, trivial⟩, rfl, trivial⟩
 ·have hge2 := not_of hge2
  have ei : i = s.len := by omega
  subst ei
  have hl : (pqS (zrL n.toNat n.toNat) s s.len).length = n.toNat := by rw [hSq.eq, sqD_len]
  exact ⟨by rw [hl]; omega, by rw [hSq.eq]; exact sq_noHole _ _, sl7, by rw [List.take_of_length_le (by omega)]⟩
end Go.Ev
