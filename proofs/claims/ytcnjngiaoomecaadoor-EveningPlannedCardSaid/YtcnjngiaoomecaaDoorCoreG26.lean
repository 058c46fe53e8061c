/-
  Part of the engine that the claim is proved with: it states nothing of the document by itself.
-/
import Derived.Test.YtcnjngiaoomecaaDoorCoreG25
import Derived.Test.YtcnjngiaoomecaaDoorCoreNtM
import Derived.Test.YtcnjngiaoomecaaDoorCoreRnD

section
open Go.Proofs
namespace Go.Ev
set_option maxRecDepth 100000
set_option maxHeartbeats 4000000
theorem vc16 : ∀ (n : Int) (s : D), symFun (ctx nt1 ntAnn) 3 (47 : FuncId) [V.int IntKind.i64 n, V.dat (25 : TypeId) s] (V.prop ((chk n D.nil s).snd = 0)) = (((0 : Nat) ≤ 1000 ∧ bigP s) ∧ ((chk n D.nil s).snd = 0 ↔ (chk
n D.nil s).snd = 0)) := by intros; kernel_rfl
theorem limS {n : Nat} (h : n ≤ 16777216) : n < LIM := by unfold LIM; omega
theorem scan_all {n : Int} {s : D} : ∀ f i, scanK n .nil s f i = (0, 0) → ∀ k, i ≤ k → k < i + f → errE n .nil (el s k) = 0
 | 0, i, _, k, h1, h2 => by omega
 | f + 1, i, h, k, h1, h2 => by
  unfold scanK at h
  by_cases he : errE n .nil (el s i) ≠ 0
  ·rw [if_pos he] at h
   exact absurd (congrArg Prod.snd h) he
  ·rw [if_neg he] at h
   rcases Nat.lt_or_ge i k with h3 | h3
   ·exact scan_all f (i + 1) h k h3 (by omega)
   ·have : k = i := by omega
    subst this; exact Classical.not_not.1 he
theorem good_err {n : Int} {s : D} (h : goodS n s) {i : Nat} (hi : i < s.len) : errE n .nil (el s i) = 0 := by
 have hc := h.chk
 unfold chk at hc
 split at hc
 ·exact absurd (congrArg Prod.snd hc) (by decide)
 ·split at hc
  ·exact absurd (congrArg Prod.snd hc) (by decide)
  ·exact scan_all _ _ hc i (Nat.zero_le _) (by omega)
theorem flat_mem (ev : D) {j : Nat} {a : D} (ha : a ∈ (el ev j).asList) : ∀ m, j < m → a ∈ flatL ev m
 | 0, h => by omega
 | m + 1, h => by
  show a ∈ flatL ev m ++ (el ev m).asList
  rcases Nat.lt_or_ge j m with h1 | h1
  ·exact List.mem_append_left _ (flat_mem ev ha m h1)
  ·have : j = m := by omega
   subst this; exact List.mem_append_right _ ha
structure tabP (n : Int) (tb : D) : Prop where
 pos : 0 < tb.len
 rng : ∀ k, k < tb.len → 0 ≤ nAt tb k ∧ nAt tb k < n
theorem good_tab {n : Int} {s : D} (h : goodS n s) {i j : Nat} (hi : i < s.len) (hj : j < (el s i).len) : tabP n (el (el s i) j) := by
 have he := good_err h hi
 unfold errE at he
 split at he
 ·cases he
 ·rename_i hne
  have h1 : ¬ emptyP (el s i) := fun q => hne (.inl q)
  refine ⟨Nat.pos_of_ne_zero fun h0 => h1 ⟨j, hj, h0⟩, fun k hk => ?_⟩
  unfold errG at he
  split at he
  ·cases he
  ·rename_i ho
   refine Classical.byContradiction fun hc => ho ⟨nthD (el (el s i) j).asList k, flat_mem _ (nthD_mem hk) _ hj, hc⟩
theorem s16 (n : Int) (s : D) (hs : bigP s) : symFun (ctx nt1 ntAnn) 3 47 [.int .i64 n, .dat 25 s] (.prop ((chk n .nil s).2 = 0)) := by
 rw [vc16]; exact ⟨⟨Nat.zero_le _, hs⟩, Iff.rfl⟩
def rowF (m : Nat) (f : Nat → Nat → Int) (a : Nat) : List D := (List.range m).map fun b => .int (f a b)
theorem rowF_len (m : Nat) (f : Nat → Nat → Int) (a : Nat) : (rowF m f a).length = m := by unfold rowF; rw [List.length_map, List.length_range]
theorem rowF_at {m : Nat} (f : Nat → Nat → Int) (a : Nat) {b : Nat} (h : b < m) : nthD (rowF m f a) b = .int (f a b) := by
 unfold rowF nthD
 rw [List.getElem?_map, List.getElem?_range h]; rfl
theorem sqD_len (m : Nat) (f : Nat → Nat → Int) : (sqD m f).length = m := by unfold sqD; rw [List.length_map, List.length_range]
theorem sqD_at {m : Nat} (f : Nat → Nat → Int) {a : Nat} (h : a < m) : nthD (sqD m f) a = .list (rowF m f a) := by
 unfold sqD nthD
 rw [List.getElem?_map, List.getElem?_range h]; rfl
structure sqF (m : Nat) (K : Int) (f : Nat → Nat → Int) (q : List D) : Prop where
 eq : q = sqD m f
 bnd : ∀ a b, a < m → b < m → 0 ≤ f a b ∧ f a b ≤ K
theorem sqF.cong {m : Nat} {K K' : Int} {f g : Nat → Nat → Int} {q : List D} (h : sqF m K f q) (hK : K ≤ K') (he : ∀ a b, a < m → b < m → f a b = g a b) : sqF m K' g q := by
 refine ⟨h.eq.trans ?_, fun a b ha hb => by have := h.bnd a b ha hb; rw [← he a b ha hb]; omega⟩
 unfold sqD
 apply List.map_congr_left
 intro a ha
 congr 1
 apply List.map_congr_left
 intro b hb
 rw [he a b (List.mem_range.1 ha) (List.mem_range.1 hb)]
theorem set_map {α : Type} (m X : Nat) (g : Nat → α) (v : α) : ((List.range m).map g).set X v = (List.range m).map fun a => if X = a then v else g a := by
 apply List.ext_getElem (by simp)
 intro i h1 h2
 rw [List.getElem_set]
 simp only [List.getElem_map, List.getElem_range]
theorem incZ_sq {m : Nat} {K : Int} {f : Nat → Nat → Int} {q : List D} {x y : Int} (h : sqF m K f q) (hx : 0 ≤ x ∧ x < m) (hy : 0 ≤ y ∧ y < m) : sqF m (K + 1) (fun a b => f a b + if x = a ∧ y = b then 1 else 0) (incZ q x y) := by
 refine ⟨?_, fun a b ha hb => by have := h.bnd a b ha hb; split <;> omega⟩
 rw [h.eq]
 unfold incZ
 rw [sqD_at f (a := x.toNat) (by omega)]
 have e1 : nAt (.list (rowF m f x.toNat)) y.toNat = f x.toNat y.toNat := by
  show (nthD (rowF m f x.toNat) y.toNat).asInt = _
  rw [rowF_at f _ (by omega)]; rfl
 rw [e1]
 show (sqD m f).set x.toNat (.list ((rowF m f x.toNat).set y.toNat (.int (f x.toNat y.toNat + 1)))) = _
 unfold sqD rowF
 rw [set_map, set_map]
 apply List.map_congr_left
 intro a _
 by_cases e : x.toNat = a
 ·subst e
  rw [if_pos rfl]
  congr 1
  apply List.map_congr_left
  intro b _
  show _ = D.int (f x.toNat b + if x = (x.toNat : Int) ∧ y = (b : Int) then (1 : Int) else 0)
  by_cases e2 : y.toNat = b
  ·subst e2; rw [if_pos rfl, if_pos ⟨by omega, by omega⟩]
  ·rw [if_neg e2, if_neg (by omega), Int.add_zero]
 ·rw [if_neg e]
  congr 1
  apply List.map_congr_left
  intro b _
  show _ = D.int (f a b + if x = (a : Int) ∧ y = (b : Int) then (1 : Int) else 0)
  rw [if_neg (by omega), Int.add_zero]
theorem wr_ok {m : Nat} {K : Int} {f : Nat → Nat → Int} {q : List D} {x y : Int} {k : Prop} (h : sqF m K f q) (hK : K < 9000000000000000000) (hx : 0 ≤ x ∧ x < m) (hy : 0 ≤ y ∧ y < m) (hk : k) : wrC m q x y k := by
 have hq := h.eq
 subst hq
 have e0 := sqD_at f (a := x.toNat) (m := m) (by omega)
 have hl := sqD_len m f
 have e1 : nAt (.list (rowF m f x.toNat)) y.toNat = f x.toNat y.toNat := by
  show (nthD (rowF m f x.toNat) y.toNat).asInt = _
  rw [rowF_at f _ (by omega)]; rfl
 have hb := h.bnd x.toNat y.toNat (by omega) (by omega)
 have hrl : (D.list (rowF m f x.toNat)).len = m := rowF_len m f x.toNat
 unfold wrC
 rw [e0, e1, hl, hrl]
 refine ⟨hx.1, hx.2, by omega, (by intro h; cases h), fun r hr => ?_, fun _ h => by cases h⟩
 have hrm : r.length = m := by cases hr; exact rowF_len m f _
 rw [hrm]
 exact ⟨hy.1, hy.2, by omega, hy.2, by omega, by omega, ⟨by omega, by omega⟩, hy.1, hy.2, by omega, hy.2, by omega, by omega, hk⟩
theorem updP_sq {m : Nat} {K : Int} {f : Nat → Nat → Int} {q : List D} {x y : Int} (h : sqF m K f q) (hx : 0 ≤ x ∧ x < m) (hy : 0 ≤ y ∧ y < m) : sqF m (K + 2) (fun a b => f a b + indN x y a b) (updP q x y) :=
 (incZ_sq (incZ_sq h hx hy) hy hx).cong (by omega) fun a b _ _ => by unfold indN; rw [Int.add_assoc]
theorem good_tabs {n : Int} {s : D} (h : goodS n s) {i j : Nat} (hi : i < s.len) (hj : j < (el s i).len) : (el (el s i) j).len ≤ 1000 ∧ ∀ k, k < (el (el s i) j).len → 0 ≤ nAt (el (el s i) j) k ∧ nAt (el (el s i) j) k < (n.toNat : Int) := by
 have ht := good_tab h hi hj
 have hn := h.n1
 refine ⟨(h.big.out.2 i hi).out.2 j hj, fun k hk => ?_⟩
 have := ht.rng k hk
 omega
theorem zr_sq (n : Nat) : sqF n 0 (fun _ _ => 0) (zrL n n) := by
 refine ⟨?_, fun _ _ _ _ => ⟨Int.le_refl _, Int.le_refl _⟩⟩
 unfold zrL sqD
 rw [Nat.sub_self, List.replicate_zero, List.append_nil]
 apply List.map_congr_left
 intro a _
 congr 1
 apply List.ext_getElem (by simp)
 intro i h1 h2
 simp
theorem zr_len (n x : Nat) (h : x ≤ n) : (zrL n x).length = n := by unfold zrL; simp; omega
theorem zr_next {n x : Nat} (h : x < n) : (zrL n x).set x (.list (List.replicate n (.int 0))) = zrL n (x + 1) := by
 unfold zrL
 have e : n - x = n - (x + 1) + 1 := by omega
 rw [List.set_append_right _ _ (by simp), List.length_map, List.length_range, Nat.sub_self, e, List.replicate_succ, List.set_cons_zero, List.range_succ, List.map_append, List.append_assoc]
 rfl
theorem zr_zero (n : Nat) : List.replicate n D.nil = zrL n 0 := rfl
theorem allNil_rep (n : Nat) : allNil (List.replicate n D.nil) := ⟨fun d h => List.eq_of_mem_replicate h⟩
theorem sq_noHole (m : Nat) (f : Nat → Nat → Int) : noHole (sqD m f) := ⟨fun k h => by
 obtain ⟨i, _, e⟩ := List.mem_map.1 h
 cases e⟩
theorem sub_at {t : D} {i j : Nat} (h : j < i) : nAt (t.sub 0 i) j = nAt t j := by
 unfold nAt nthD
 cases t <;> simp [D.sub, D.asList]
 rw [List.getElem?_take, if_pos h]
theorem sub_len {t : D} {i : Nat} (h : i ≤ t.len) : (t.sub 0 i).len = i := by
 cases t <;> simp [D.sub, D.len, D.asList] at h ⊢ <;> omega
theorem pqI_sq {m : Nat} {K : Int} {f : Nat → Nat → Int} {q : List D} {t : D} {i : Nat} (h : sqF m K f q) (ht : ∀ k, k < t.len → 0 ≤ nAt t k ∧ nAt t k < m) (hi : i < t.len) : ∀ j, j ≤ i → sqF m (K + 2 * j) (fun a b => f a b + mtI t i j a b) (pqI q t i j)
 | 0, _ => h.cong (by omega) fun a b _ _ => by simp [mtI]
 | j + 1, hj => (updP_sq (pqI_sq h ht hi j (by omega)) (ht j (by omega)) (ht i hi)).cong (by omega) fun a b _ _ => by
   show _ = f a b + (mtI t i j a b + indN (nAt t j) (nAt t i) a b)
   rw [Int.add_assoc]
theorem pqN_sq {m : Nat} {K : Int} {f : Nat → Nat → Int} {q : List D} {t : D} {L : Nat} (h : sqF m K f q) (ht : ∀ k, k < t.len → 0 ≤ nAt t k ∧ nAt t k < m) (hl : t.len ≤ L) : ∀ i, i ≤ t.len → sqF m (K + 2 * L * i) (fun a b => f a b + mtN t i a b) (pqN q t i)
 | 0, _ => h.cong (by omega) fun a b _ _ => by simp [mtN]
 | i + 1, hi => (pqI_sq (pqN_sq h ht hl i (by omega)) ht (show i < t.len by omega) i (Nat.le_refl _)).cong (by
   have : (2 * (L : Int) * ((i + 1 : Nat) : Int)) = 2 * (L : Int) * (i : Int) + 2 * (L : Int) := by rw [Int.natCast_add, Int.mul_add]; simp
   omega) fun a b _ _ => by
   show _ = f a b + (mtN t i a b + mtI t i i a b)
   rw [Int.add_assoc]
theorem pqE_sq {m : Nat} {K : Int} {f : Nat → Nat → Int} {q : List D} {ev : D} {L : Nat} (h : sqF m K f q) (ht : ∀ j, j < ev.len → (el ev j).len ≤ L ∧ ∀ k, k < (el ev j).len → 0 ≤ nAt (el ev j) k ∧ nAt (el ev j) k < m) : ∀ j, j ≤ ev.len → sqF m (K + 2 * L * L * j) (fun a b => f a b + mtE ev j a b) (pqE q ev j)
 | 0, _ => h.cong (by simp) fun a b _ _ => by simp [mtE]
 | j + 1, hj => (pqN_sq (pqE_sq h ht j (by omega)) (ht j (by omega)).2 (ht j (by omega)).1 (el ev j).len (Nat.le_refl _)).cong (by
   have h1 : (2 * (L : Int) * (L : Int) * ((j + 1 : Nat) : Int)) = 2 * (L : Int) * (L : Int) * (j : Int) + 2 * (L : Int) * (L : Int) := by rw [Int.natCast_add, Int.mul_add]; simp
   have h2 : 2 * (L : Int) * ((el ev j).len : Int) ≤ 2 * (L : Int) * (L : Int) := Int.mul_le_mul_of_nonneg_left (by have := (ht j (by omega)).1; omega) (by omega)
   omega) fun a b _ _ => by
   show _ = f a b + (mtE ev j a b + mtN (el ev j) (el ev j).len a b)
   rw [Int.add_assoc]
theorem pqS_sq {n : Int} {s : D} (h : goodS n s) {q : List D} (hq : sqF n.toNat 0 (fun _ _ => 0) q) : ∀ i, i ≤ s.len → sqF n.toNat (200000000 * i) (mtS s i) (pqS q s i)
 | 0, _ => hq.cong (by omega) fun _ _ _ _ => rfl
 | i + 1, hi => by
  have hb := (h.big.out.2 i (by omega)).out.1
  exact (pqE_sq (L := 1000) (pqS_sq h hq i (by omega)) (fun j hj => good_tabs h (by omega) hj) (el s i).len (Nat.le_refl _)).cong (by omega) fun _ _ _ _ => rfl
end Go.Ev

end

section
open Go.Proofs
namespace Go.Ev
def hfR (q : List D) (x y : Nat) : List D := (List.range y).map fun y => .int (nAt (nthD q x) y)
def hfL (q : List D) : Nat → List D
 | 0 => []
 | x + 1 => hfL q x ++ hfR q x x
noncomputable def yB (S : SS) (t : Tmp) (sl : Tmp) : Nat := match S.fr.get t with | some (.yld b) => (match S.hp.get b with | some (.lp _ _ fr _ _ _ _) => (match fr.get sl with | some (.ptr c _) => c | _ => 0) | _ => 0) | _ => 0
noncomputable def rowB (S : SS) (b : Nat) : Nat := match S.hp.get b with | some (.box _ [.slc r _ _ _]) => r | _ => Nat.add S.nx 300
def sqSum (l : D) : Nat → Int
 | 0 => 0
 | x + 1 => sqSum l x + nAt l x * nAt l x
def mxZ (l : D) : Nat → Int
 | 0 => 0
 | x + 1 => max (mxZ l x) (nAt l x)
def mtL (n : Int) (s : D) : D := listD (hfL (pqS (zrL n.toNat n.toNat) s s.len) n.toNat)
structure numL (K : Int) (l : D) : Prop where
 len : l.len ≤ 4096
 rng : ∀ i, i < l.len → 0 ≤ nAt l i ∧ nAt l i ≤ K
noncomputable def con26 : Con := fun | [.int .i64 n, .dat 25 s] => some (goodS n s, .dat 22 (mtL n s)) | _ => none
noncomputable def con8m : Con := fun | [.int .i64 n, .dat 25 s] => some (goodS n s, .int .i64 (mxZ (mtL n s) (mtL n s).len)) | _ => none
noncomputable def mtAnn : FuncId → Nat → Option Ann
 | 26, 3 => some { τ := Nat, slots := fun _ _ x => [(8, .int .i64 x)], blks := fun S _ x => [(slSB S 3, .own S.nx 22 3 (zrL (slI S 0).toNat x))], inv := fun S _ x => x ≤ (slI S 0).toNat, meas := fun S _ x => (slI S 0).toNat - x }
 | 62, 3 => some { τ := Nat, slots := fun _ _ x => [(16, .int .i64 x)], blks := fun S _ x => [(slSB S 7, .own S.nx 22 3 (pqS (slRow S 7) (slD S 14) x))], inv := fun S _ x => x ≤ (slD S 14).len, meas := fun S _ x => (slD S 14).len - x }
 | 62, 6 => some { τ := Nat, slots := fun _ _ y => [(22, .int .i64 y)], blks := fun S _ y => [(slSB S 7, .own S.nx 22 3 (pqE (slRow S 7) (slD S 20) y))], inv := fun S _ y => y ≤ (slD S 20).len, meas := fun S _ y => (slD S 20).len - y }
 | 52, 1 => some { τ := Nat, slots := fun _ _ z => [(9, .int .i64 z)], blks := fun S _ z => [(0, .own S.nx 22 3 (pqN (bkL S 0) (slD S 7) z))], inv := fun S _ z => z ≤ (slD S 7).len, meas := fun S _ z => (slD S 7).len - z }
 | 52, 4 => some { τ := Nat, slots := fun _ _ z => [(18, .int .i64 z)], blks := fun S _ z => [(0, .own S.nx 22 3 (pqI (bkL S 0) (slD S 7) (slI S 3).toNat z))], inv := fun S _ z => z ≤ (slI S 3).toNat, meas := fun S _ z => (slI S 3).toNat - z }
 | 78, 1 => some { hs := 2, τ := Nat, slots := fun _ _ x => [(7, .int .i64 x)], blks := fun S i x => match i with | 0 => [(yB S 0 2, .box 22 [.val (.slice none 0 0)])] | _ => [(yB S 0 2, .box 22 [.slc (rowB S (yB S 0 2)) (.lit 0) (.sym (hfL (bkL S 0) x).length) none]), (rowB S (yB S 0 2), .arr 3 (hfL (bkL S 0) x))], inv := fun S i x => match i with | 0 => x ≤ 1 ∧ x ≤ (bkL S 0).length | _ => 1 < x ∧ x ≤ (bkL S 0).length, meas := fun S _ x => (bkL S 0).length - x }
 | 78, 4 => some { hs := 2, τ := Nat, slots := fun _ _ y => [(11, .int .i64 y)], blks := fun S i y => match i with | 0 => [(yB S 0 2, .box 22 [.val (.slice none 0 0)])] | _ => [(yB S 0 2, .box 22 [.slc (rowB S (yB S 0 2)) (.lit 0) (.sym (hfL (bkL S 0) (slI S 3).toNat ++ hfR (bkL S 0) (slI S 3).toNat y).length) none]), (rowB S (yB S 0 2), .arr 3 (hfL (bkL S 0) (slI S 3).toNat ++ hfR (bkL S 0) (slI S 3).toNat y))], inv := fun S i y => match i with | 0 => y = 0 ∧ (slI S 3).toNat ≤ 1 | _ => (1 < (slI S 3).toNat ∨ 0 < y) ∧ y ≤ (slI S 3).toNat, meas := fun S _ y => (slI S 3).toNat - y }
 | 15, 3 => some { τ := Nat, slots := fun S _ x => [(12, .int .i64 x), (5, .int .i64 (mxZ (slD S 10) x))], blks := fun _ _ _ => [], inv := fun S _ x => x ≤ (slD S 10).len, meas := fun S _ x => (slD S 10).len - x }
 | 21, 3 => some { τ := Nat, slots := fun S _ x => [(12, .int .i64 x), (5, .int .i64 (sqSum (slD S 10) x))], blks := fun _ _ _ => [], inv := fun S _ x => x ≤ (slD S 10).len, meas := fun S _ x => (slD S 10).len - x }
 | _, _ => none
structure okS (n : Int) (l : D) : Prop where
 n1 : 1 ≤ n
 n2 : n ≤ 64
 fit : fitP n l
def triZ (k : Int) : Int := (k * (k - 1)).tdiv 2
def triS (l : D) : Nat → Int
 | 0 => 0
 | n + 1 => triS l n + triZ (nAt l n)
open Classical in
noncomputable def shM (n : Int) (l : D) : Int := if okS n l then triS l l.len else 0
open Classical in
noncomputable def shA (n : Int) (l : D) : Int := if okS n l then triZ n else 0
open Classical in
noncomputable def lmZ (n : Int) (l : D) (e : Int) : Int := if ¬ okS n l ∨ e < 1 ∨ triS l l.len = 0 then 0 else (min e 64 * triS l l.len + triZ n - 1).tdiv (triZ n)
noncomputable def con38b : Con := fun | [.int .i64 n, .dat 22 l] => some (l.len ≤ 16777216, .tup [.int .i64 (shM n l), .int .i64 (shA n l), .prop (okS n l)]) | _ => none
noncomputable def con15b : Con := fun | [.int .i64 n, .dat 22 l, .int .i64 e] => some (l.len ≤ 16777216, .int .i64 (lmZ n l e)) | _ => none
noncomputable def shAnn : FuncId → Nat → Option Ann
 | 41, 4 => some { τ := Nat, slots := fun S _ x => [(20, .int .i64 x), (4, .int .i64 (triS (slD S 1) x))], blks := fun _ _ _ => [], inv := fun S _ x => x ≤ (slD S 1).len, meas := fun S _ x => (slD S 1).len - x }
 | _, _ => none
noncomputable def ce0 : FuncId → Option Con
 | 24 => some con13
 | _ => none
noncomputable def ce1 : FuncId → Option Con
 | 24 => some con13
 | 41 => some con38b
 | _ => none
noncomputable def mt2 : FuncId → Option Con
 | 47 => some con16
 | _ => none
noncomputable def mt3 : FuncId → Option Con
 | 40 => some con26
 | _ => none
noncomputable def ctxs (con : FuncId → Option Con) (ann : FuncId → Nat → Option Ann) : Ctx := { ctx con ann with sm := fun t => Nat.beq t 70 || Nat.beq t 71 }
instance (con : FuncId → Option Con) (ann : FuncId → Nat → Option Ann) : Nonempty (NoF (ctxs con ann)) := ⟨⟨fun _ _ h => by cases h⟩⟩
end Go.Ev

end

section
open Go.Proofs
namespace Go.Ev
set_option maxRecDepth 100000
set_option maxHeartbeats 4000000
def rdC (m : Nat) (q : List D) (x y : Nat) (k : Prop) : Prop := (0 : Int) ≤ (↑x : Int) ∧ (↑x : Int) < (↑m : Int) ∧ x < q.length ∧ (nthD q x = D.nil → False) ∧ (∀ (r : List D), nthD q x = D.list r → (0 : Int) ≤ (↑y : Int) ∧ (↑y : Int) < (↑r.length : Int) ∧ x < q.length ∧ (↑y : Int) < (↑(nthD q x).len : Int) ∧ x < q.length ∧ y < (nthD q x).len ∧ k) ∧ ∀ (n_1 : Int), nthD q x = D.int n_1 → False
theorem vc26 : ∀ (n : Int) (s : D), symFun (ctx mt2 mtAnn) 8 (40 : FuncId) [V.int IntKind.i64 n, V.dat (25 : TypeId) s] (V.dat (22 : TypeId) (mtL n s)) = (bigP s ∧ (((chk n D.nil s).snd = 0 → False) → D.nil = mtL n s) ∧
((((chk n D.nil s).snd = 0 → False) → False) → 0 ≤ n ∧ n ≤ n ∧ n ≤ 16777216 ∧ 24 * n.toNat ≤ 281474976710656 ∧ (∃ (x : Nat), x.le n.toNat ∧ (0 = (x : Int) ∧ True) ∧ (List.replicate n.toNat D.nil = zrL n.toNat x ∧ allNil
(List.replicate n.toNat D.nil)) ∧ True) ∧ ∀ (x : Nat), x.le n.toNat → n.toNat - x < LIM ∧ ((x : Int) < n → 0 ≤ n ∧ n ≤ n ∧ n ≤ 16777216 ∧ 8 * n.toNat ≤ 281474976710656 ∧ 0 ≤ (x : Int) ∧ (x : Int) < (n.toNat : Int) ∧ x <
(zrL n.toNat x).length ∧ True ∧ (0 : Nat) = 0 ∧ n.toNat = (List.replicate n.toNat (D.int 0)).length ∧ n.toNat = n.toNat ∧ fits64 ((x : Int) + 1) ∧ ∃ (y : Nat), y.le n.toNat ∧ n.toNat - y < n.toNat - x ∧ ((x : Int) + 1 =
(y : Int) ∧ True) ∧ (zrL n.toNat x).set x (D.list (List.replicate n.toNat (D.int 0))) = zrL n.toNat y ∧ True) ∧ (((x : Int) < n → False) → (∃ (x_1 : Nat), x_1.le s.len ∧ (0 = (x_1 : Int) ∧ True) ∧ zrL n.toNat x = pqS
(zrL n.toNat x) s x_1 ∧ True) ∧ ∀ (x_1 : Nat), x_1.le s.len → s.len - x_1 < LIM ∧ ((x_1 : Int) < (s.len : Int) → 0 ≤ (x_1 : Int) ∧ (x_1 : Int) < (s.len : Int) ∧ (∃ (x_2 : Nat), x_2.le (el s x_1).len ∧ (0 = (x_2 : Int) ∧
True) ∧ pqS (zrL n.toNat x) s x_1 = pqE (pqS (zrL n.toNat x) s x_1) (el s x_1) x_2 ∧ True) ∧ ∀ (x_2 : Nat), x_2.le (el s x_1).len → (el s x_1).len - x_2 < LIM ∧ ((x_2 : Int) < (↑(el s x_1).len : Int) → 0 ≤ (x_2 : Int) ∧
(x_2 : Int) < (↑(el s x_1).len : Int) ∧ (∃ (x_3 : Nat), x_3.le (el (el s x_1) x_2).len ∧ (0 = (x_3 : Int) ∧ True) ∧ pqE (pqS (zrL n.toNat x) s x_1) (el s x_1) x_2 = pqN (pqE (pqS (zrL n.toNat x) s x_1) (el s x_1) x_2)
(el (el s x_1) x_2) x_3 ∧ True) ∧ ∀ (x_3 : Nat), x_3.le (el (el s x_1) x_2).len → (el (el s x_1) x_2).len - x_3 < LIM ∧ ((x_3 : Int) < (↑(el (el s x_1) x_2).len : Int) → 0 ≤ (x_3 : Int) ∧ (x_3 : Int) < (↑(el (el s x_1)
x_2).len : Int) ∧ (0 : Int) ≤ 0 ∧ 0 ≤ (x_3 : Int) ∧ (x_3 : Int) ≤ (↑(el (el s x_1) x_2).len : Int) ∧ (∃ (x_4 : Nat), x_4.le x_3 ∧ (0 = (x_4 : Int) ∧ True) ∧ pqN (pqE (pqS (zrL n.toNat x) s x_1) (el s x_1) x_2) (el (el s
x_1) x_2) x_3 = (pqI (pqN (pqE (pqS (zrL n.toNat x) s x_1) (el s x_1) x_2) (el (el s x_1) x_2) x_3) (el (el s x_1) x_2) x_3 x_4) ∧ True) ∧ ∀ (x_4 : Nat), x_4.le x_3 → x_3 - x_4 < LIM ∧ ((x_4 : Int) < (↑((el (el s x_1)
x_2).sub 0 x_3).len : Int) → 0 ≤ (x_4 : Int) ∧ (x_4 : Int) < (↑((el (el s x_1) x_2).sub 0 x_3).len : Int) ∧ wrC n.toNat (pqI (pqN (pqE (pqS (zrL n.toNat x) s x_1) (el s x_1) x_2) (el (el s x_1) x_2) x_3) (el (el s x_1)
x_2) x_3 x_4) (nAt ((el (el s x_1) x_2).sub 0 x_3) x_4) (nAt (el (el s x_1) x_2) x_3) (wrC n.toNat (incZ (pqI (pqN (pqE (pqS (zrL n.toNat x) s x_1) (el s x_1) x_2) (el (el s x_1) x_2) x_3) (el (el s x_1) x_2) x_3 x_4)
(nAt ((el (el s x_1) x_2).sub 0 x_3) x_4) (nAt (el (el s x_1) x_2) x_3)) (nAt (el (el s x_1) x_2) x_3) (nAt ((el (el s x_1) x_2).sub 0 x_3) x_4) (fits64 ((x_4 : Int) + 1) ∧ ∃ (y : Nat), y.le x_3 ∧ x_3 - y < x_3 - x_4 ∧
((x_4 : Int) + 1 = (y : Int) ∧ True) ∧ (incZ (incZ (pqI (pqN (pqE (pqS (zrL n.toNat x) s x_1) (el s x_1) x_2) (el (el s x_1) x_2) x_3) (el (el s x_1) x_2) x_3 x_4) (nAt ((el (el s x_1) x_2).sub 0 x_3) x_4) (nAt (el (el s
x_1) x_2) x_3)) (nAt (el (el s x_1) x_2) x_3) (nAt ((el (el s x_1) x_2).sub 0 x_3) x_4)) = pqI (pqN (pqE (pqS (zrL n.toNat x) s x_1) (el s x_1) x_2) (el (el s x_1) x_2) x_3) (el (el s x_1) x_2) x_3 y ∧ True))) ∧ (((x_4 :
Int) < (↑((el (el s x_1) x_2).sub 0 x_3).len : Int) → False) → fits64 ((x_3 : Int) + 1) ∧ ∃ (y : Nat), y.le (el (el s x_1) x_2).len ∧ (el (el s x_1) x_2).len - y < (el (el s x_1) x_2).len - x_3 ∧ ((x_3 : Int) + 1 = (y :
Int) ∧ True) ∧ (pqI (pqN (pqE (pqS (zrL n.toNat x) s x_1) (el s x_1) x_2) (el (el s x_1) x_2) x_3) (el (el s x_1) x_2) x_3 x_4) = pqN (pqE (pqS (zrL n.toNat x) s x_1) (el s x_1) x_2) (el (el s x_1) x_2) y ∧ True)) ∧
(((x_3 : Int) < (↑(el (el s x_1) x_2).len : Int) → False) → fits64 ((x_2 : Int) + 1) ∧ ∃ (y : Nat), y.le (el s x_1).len ∧ (el s x_1).len - y < (el s x_1).len - x_2 ∧ ((x_2 : Int) + 1 = (y : Int) ∧ True) ∧ pqN (pqE (pqS
(zrL n.toNat x) s x_1) (el s x_1) x_2) (el (el s x_1) x_2) x_3 = pqE (pqS (zrL n.toNat x) s x_1) (el s x_1) y ∧ True)) ∧ (((x_2 : Int) < (↑(el s x_1).len : Int) → False) → fits64 ((x_1 : Int) + 1) ∧ ∃ (y : Nat), y.le
s.len ∧ s.len - y < s.len - x_1 ∧ ((x_1 : Int) + 1 = (y : Int) ∧ True) ∧ pqE (pqS (zrL n.toNat x) s x_1) (el s x_1) x_2 = pqS (zrL n.toNat x) s y ∧ True)) ∧ (((x_1 : Int) < (s.len : Int) → False) → ((∃ (x_2 : Nat), (x_2
≤ 1 ∧ x_2 ≤ (pqS (zrL n.toNat x) s x_1).length) ∧ (0 = (x_2 : Int) ∧ True) ∧ (True ∧ True) ∧ True) ∨ ∃ (x_2 : Nat), (1 < x_2 ∧ x_2 ≤ (pqS (zrL n.toNat x) s x_1).length) ∧ (0 = (x_2 : Int) ∧ True) ∧ (False ∧ True) ∧ False
∧ True) ∧ (∀ (x_2 : Nat), x_2 ≤ 1 ∧ x_2 ≤ (pqS (zrL n.toNat x) s x_1).length → (pqS (zrL n.toNat x) s x_1).length - x_2 < LIM ∧ ((x_2 : Int) < (n.toNat : Int) → ((∃ (x : Nat), (x = 0 ∧ x_2 ≤ 1) ∧ (0 = (x : Int) ∧ True) ∧
(True ∧ True) ∧ True) ∨ ∃ (x : Nat), ((1 < x_2 ∨ 0 < x) ∧ x ≤ x_2) ∧ (0 = (x : Int) ∧ True) ∧ (False ∧ True) ∧ False ∧ True) ∧ (∀ (x_3 : Nat), x_3 = 0 ∧ x_2 ≤ 1 → x_2 - x_3 < LIM ∧ ((x_3 : Int) < (x_2 : Int) → rdC
n.toNat (pqS (zrL n.toNat x) s x_1) x_2 x_3 (0 + 1 ≤ [D.int (nAt (nthD (pqS (zrL n.toNat x) s x_1) x_2) x_3)].length ∧ (1 : Nat) ≤ 16777216 ∧ fits64 ((x_3 : Int) + 1) ∧ ((∃ (y : Nat), (y = 0 ∧ x_2 ≤ 1) ∧ x_2 - y < x_2 -
x_3 ∧ ((x_3 : Int) + 1 = (y : Int) ∧ True) ∧ (False ∧ True) ∧ True) ∨ ∃ (y : Nat), ((1 < x_2 ∨ 0 < y) ∧ y ≤ x_2) ∧ x_2 - y < x_2 - x_3 ∧ ((x_3 : Int) + 1 = (y : Int) ∧ True) ∧ (((0 : Nat) = 0 ∧ 1 = (hfL (pqS (zrL n.toNat
x) s x_1) x_2 ++ hfR (pqS (zrL n.toNat x) s x_1) x_2 y).length ∧ True) ∧ True) ∧ List.take 1 [D.int (nAt (nthD (pqS (zrL n.toNat x) s x_1) x_2) x_3)] = hfL (pqS (zrL n.toNat x) s x_1) x_2 ++ hfR (pqS (zrL n.toNat x) s
x_1) x_2 y ∧ True))) ∧ (((x_3 : Int) < (x_2 : Int) → False) → fits64 ((x_2 : Int) + 1) ∧ ((∃ (y : Nat), (y ≤ 1 ∧ y ≤ (pqS (zrL n.toNat x) s x_1).length) ∧ (pqS (zrL n.toNat x) s x_1).length - y < (pqS (zrL n.toNat x) s
x_1).length - x_2 ∧ ((x_2 : Int) + 1 = (y : Int) ∧ True) ∧ (True ∧ True) ∧ True) ∨ ∃ (y : Nat), (1 < y ∧ y ≤ (pqS (zrL n.toNat x) s x_1).length) ∧ (pqS (zrL n.toNat x) s x_1).length - y < (pqS (zrL n.toNat x) s
x_1).length - x_2 ∧ ((x_2 : Int) + 1 = (y : Int) ∧ True) ∧ (False ∧ True) ∧ False ∧ True))) ∧ ∀ (x_3 : Nat), (1 < x_2 ∨ 0 < x_3) ∧ x_3 ≤ x_2 → x_2 - x_3 < LIM ∧ ((x_3 : Int) < (x_2 : Int) → rdC n.toNat (pqS (zrL n.toNat
x) s x_1) x_2 x_3 (0 + 1 ≤ [D.int (nAt (nthD (pqS (zrL n.toNat x) s x_1) x_2) x_3)].length ∧ 0 + (hfL (pqS (zrL n.toNat x) s x_1) x_2 ++ hfR (pqS (zrL n.toNat x) s x_1) x_2 x_3).length ≤ (hfL (pqS (zrL n.toNat x) s x_1)
x_2 ++ hfR (pqS (zrL n.toNat x) s x_1) x_2 x_3).length ∧ (hfL (pqS (zrL n.toNat x) s x_1) x_2 ++ hfR (pqS (zrL n.toNat x) s x_1) x_2 x_3).length + 1 ≤ 16777216 ∧ fits64 ((x_3 : Int) + 1) ∧ ((∃ (y : Nat), (y = 0 ∧ x_2 ≤
1) ∧ x_2 - y < x_2 - x_3 ∧ ((x_3 : Int) + 1 = (y : Int) ∧ True) ∧ (False ∧ True) ∧ True) ∨ ∃ (y : Nat), ((1 < x_2 ∨ 0 < y) ∧ y ≤ x_2) ∧ x_2 - y < x_2 - x_3 ∧ ((x_3 : Int) + 1 = (y : Int) ∧ True) ∧ (((0 : Nat) = 0 ∧ (hfL
(pqS (zrL n.toNat x) s x_1) x_2 ++ hfR (pqS (zrL n.toNat x) s x_1) x_2 x_3).length + 1 = (hfL (pqS (zrL n.toNat x) s x_1) x_2 ++ hfR (pqS (zrL n.toNat x) s x_1) x_2 y).length ∧ True) ∧ True) ∧ List.take (hfL (pqS (zrL
n.toNat x) s x_1) x_2 ++ hfR (pqS (zrL n.toNat x) s x_1) x_2 x_3).length (hfL (pqS (zrL n.toNat x) s x_1) x_2 ++ hfR (pqS (zrL n.toNat x) s x_1) x_2 x_3) ++ List.take 1 [D.int (nAt (nthD (pqS (zrL n.toNat x) s x_1) x_2)
x_3)] = hfL (pqS (zrL n.toNat x) s x_1) x_2 ++ hfR (pqS (zrL n.toNat x) s x_1) x_2 y ∧ True))) ∧ (((x_3 : Int) < (x_2 : Int) → False) → fits64 ((x_2 : Int) + 1) ∧ ((∃ (y : Nat), (y ≤ 1 ∧ y ≤ (pqS (zrL n.toNat x) s
x_1).length) ∧ (pqS (zrL n.toNat x) s x_1).length - y < (pqS (zrL n.toNat x) s x_1).length - x_2 ∧ ((x_2 : Int) + 1 = (y : Int) ∧ True) ∧ (False ∧ True) ∧ True) ∨ ∃ (y : Nat), (1 < y ∧ y ≤ (pqS (zrL n.toNat x) s
x_1).length) ∧ (pqS (zrL n.toNat x) s x_1).length - y < (pqS (zrL n.toNat x) s x_1).length - x_2 ∧ ((x_2 : Int) + 1 = (y : Int) ∧ True) ∧ (((0 : Nat) = 0 ∧ (hfL (pqS (zrL n.toNat x) s x_1) x_2 ++ hfR (pqS (zrL n.toNat x)
s x_1) x_2 x_3).length = (hfL (pqS (zrL n.toNat x) s x_1) y).length ∧ True) ∧ True) ∧ hfL (pqS (zrL n.toNat x) s x_1) x_2 ++ hfR (pqS (zrL n.toNat x) s x_1) x_2 x_3 = hfL (pqS (zrL n.toNat x) s x_1) y ∧ True))) ∧ (((x_2
: Int) < (n.toNat : Int) → False) → D.nil = mtL n s)) ∧ ∀ (x_2 : Nat), 1 < x_2 ∧ x_2 ≤ (pqS (zrL n.toNat x) s x_1).length → (pqS (zrL n.toNat x) s x_1).length - x_2 < LIM ∧ ((x_2 : Int) < (n.toNat : Int) → ((∃ (x : Nat),
(x = 0 ∧ x_2 ≤ 1) ∧ (0 = (x : Int) ∧ True) ∧ (False ∧ True) ∧ True) ∨ ∃ (x_3 : Nat), ((1 < x_2 ∨ 0 < x_3) ∧ x_3 ≤ x_2) ∧ (0 = (x_3 : Int) ∧ True) ∧ (((0 : Nat) = 0 ∧ (hfL (pqS (zrL n.toNat x) s x_1) x_2).length = (hfL
(pqS (zrL n.toNat x) s x_1) x_2 ++ hfR (pqS (zrL n.toNat x) s x_1) x_2 x_3).length ∧ True) ∧ True) ∧ hfL (pqS (zrL n.toNat x) s x_1) x_2 = hfL (pqS (zrL n.toNat x) s x_1) x_2 ++ hfR (pqS (zrL n.toNat x) s x_1) x_2 x_3 ∧
True) ∧ (∀ (x_3 : Nat), x_3 = 0 ∧ x_2 ≤ 1 → x_2 - x_3 < LIM ∧ ((x_3 : Int) < (x_2 : Int) → rdC n.toNat (pqS (zrL n.toNat x) s x_1) x_2 x_3 (0 + 1 ≤ [D.int (nAt (nthD (pqS (zrL n.toNat x) s x_1) x_2) x_3)].length ∧ (1 :
Nat) ≤ 16777216 ∧ fits64 ((x_3 : Int) + 1) ∧ ((∃ (y : Nat), (y = 0 ∧ x_2 ≤ 1) ∧ x_2 - y < x_2 - x_3 ∧ ((x_3 : Int) + 1 = (y : Int) ∧ True) ∧ (False ∧ True) ∧ True) ∨ ∃ (y : Nat), ((1 < x_2 ∨ 0 < y) ∧ y ≤ x_2) ∧ x_2 - y <
x_2 - x_3 ∧ ((x_3 : Int) + 1 = (y : Int) ∧ True) ∧ (((0 : Nat) = 0 ∧ 1 = (hfL (pqS (zrL n.toNat x) s x_1) x_2 ++ hfR (pqS (zrL n.toNat x) s x_1) x_2 y).length ∧ True) ∧ True) ∧ List.take 1 [D.int (nAt (nthD (pqS (zrL
n.toNat x) s x_1) x_2) x_3)] = hfL (pqS (zrL n.toNat x) s x_1) x_2 ++ hfR (pqS (zrL n.toNat x) s x_1) x_2 y ∧ True))) ∧ (((x_3 : Int) < (x_2 : Int) → False) → fits64 ((x_2 : Int) + 1) ∧ ((∃ (y : Nat), (y ≤ 1 ∧ y ≤ (pqS
(zrL n.toNat x) s x_1).length) ∧ (pqS (zrL n.toNat x) s x_1).length - y < (pqS (zrL n.toNat x) s x_1).length - x_2 ∧ ((x_2 : Int) + 1 = (y : Int) ∧ True) ∧ (True ∧ True) ∧ True) ∨ ∃ (y : Nat), (1 < y ∧ y ≤ (pqS (zrL
n.toNat x) s x_1).length) ∧ (pqS (zrL n.toNat x) s x_1).length - y < (pqS (zrL n.toNat x) s x_1).length - x_2 ∧ ((x_2 : Int) + 1 = (y : Int) ∧ True) ∧ (False ∧ True) ∧ hfL (pqS (zrL n.toNat x) s x_1) x_2 = hfL (pqS (zrL
n.toNat x) s x_1) y ∧ True))) ∧ ∀ (x_3 : Nat), (1 < x_2 ∨ 0 < x_3) ∧ x_3 ≤ x_2 → x_2 - x_3 < LIM ∧ ((x_3 : Int) < (x_2 : Int) → rdC n.toNat (pqS (zrL n.toNat x) s x_1) x_2 x_3 (0 + 1 ≤ [D.int (nAt (nthD (pqS (zrL n.toNat
x) s x_1) x_2) x_3)].length ∧ 0 + (hfL (pqS (zrL n.toNat x) s x_1) x_2 ++ hfR (pqS (zrL n.toNat x) s x_1) x_2 x_3).length ≤ (hfL (pqS (zrL n.toNat x) s x_1) x_2 ++ hfR (pqS (zrL n.toNat x) s x_1) x_2 x_3).length ∧ (hfL
(pqS (zrL n.toNat x) s x_1) x_2 ++ hfR (pqS (zrL n.toNat x) s x_1) x_2 x_3).length + 1 ≤ 16777216 ∧ fits64 ((x_3 : Int) + 1) ∧ ((∃ (y : Nat), (y = 0 ∧ x_2 ≤ 1) ∧ x_2 - y < x_2 - x_3 ∧ False) ∨ ∃ (y : Nat), ((1 < x_2 ∨ 0
< y) ∧ y ≤ x_2) ∧ x_2 - y < x_2 - x_3 ∧ ((x_3 : Int) + 1 = (y : Int) ∧ True) ∧ (((0 : Nat) = 0 ∧ (hfL (pqS (zrL n.toNat x) s x_1) x_2 ++ hfR (pqS (zrL n.toNat x) s x_1) x_2 x_3).length + 1 = (hfL (pqS (zrL n.toNat x) s
x_1) x_2 ++ hfR (pqS (zrL n.toNat x) s x_1) x_2 y).length ∧ True) ∧ True) ∧ List.take (hfL (pqS (zrL n.toNat x) s x_1) x_2 ++ hfR (pqS (zrL n.toNat x) s x_1) x_2 x_3).length (hfL (pqS (zrL n.toNat x) s x_1) x_2 ++ hfR
(pqS (zrL n.toNat x) s x_1) x_2 x_3) ++ List.take 1 [D.int (nAt (nthD (pqS (zrL n.toNat x) s x_1) x_2) x_3)] = hfL (pqS (zrL n.toNat x) s x_1) x_2 ++ hfR (pqS (zrL n.toNat x) s x_1) x_2 y ∧ True))) ∧ (((x_3 : Int) < (x_2
: Int) → False) → fits64 ((x_2 : Int) + 1) ∧ ((∃ (y : Nat), (y ≤ 1 ∧ y ≤ (pqS (zrL n.toNat x) s x_1).length) ∧ (pqS (zrL n.toNat x) s x_1).length - y < (pqS (zrL n.toNat x) s x_1).length - x_2 ∧ ((x_2 : Int) + 1 = (y :
Int) ∧ True) ∧ (False ∧ True) ∧ True) ∨ ∃ (y : Nat), (1 < y ∧ y ≤ (pqS (zrL n.toNat x) s x_1).length) ∧ (pqS (zrL n.toNat x) s x_1).length - y < (pqS (zrL n.toNat x) s x_1).length - x_2 ∧ ((x_2 : Int) + 1 = (y : Int) ∧
True) ∧ (((0 : Nat) = 0 ∧ (hfL (pqS (zrL n.toNat x) s x_1) x_2 ++ hfR (pqS (zrL n.toNat x) s x_1) x_2 x_3).length = (hfL (pqS (zrL n.toNat x) s x_1) y).length ∧ True) ∧ True) ∧ hfL (pqS (zrL n.toNat x) s x_1) x_2 ++ hfR
(pqS (zrL n.toNat x) s x_1) x_2 x_3 = hfL (pqS (zrL n.toNat x) s x_1) y ∧ True))) ∧ (((x_2 : Int) < (n.toNat : Int) → False) → 0 + (hfL (pqS (zrL n.toNat x) s x_1) x_2).length ≤ (hfL (pqS (zrL n.toNat x) s x_1)
x_2).length ∧ D.list (List.take (hfL (pqS (zrL n.toNat x) s x_1) x_2).length (hfL (pqS (zrL n.toNat x) s x_1) x_2)) = mtL n s))))) := by intros; kernel_rfl
theorem hfL_len (q : List D) : ∀ x, x ≤ 64 → (hfL q x).length ≤ 64 * x
 | 0, _ => Nat.le_refl _
 | x + 1, h => by
  have ih := hfL_len q x (by omega)
  show (hfL q x ++ hfR q x x).length ≤ _
  rw [List.length_append]
  unfold hfR
  rw [List.length_map, List.length_range]; omega
theorem hfR_len (q : List D) (x y : Nat) : (hfR q x y).length = y := by unfold hfR; rw [List.length_map, List.length_range]
theorem hfR_succ (q : List D) (x y : Nat) : hfR q x (y + 1) = hfR q x y ++ [.int (nAt (nthD q x) y)] := by unfold hfR; rw [List.range_succ, List.map_append]; rfl
theorem hf_next (q : List D) (x y : Nat) : List.take (hfL q x ++ hfR q x y).length (hfL q x ++ hfR q x y) ++ List.take 1 [D.int (nAt (nthD q x) y)] = hfL q x ++ hfR q x (y + 1) := by
 rw [List.take_of_length_le (Nat.le_refl _), hfR_succ, List.append_assoc]; rfl
theorem hf_len1 (q : List D) (x y : Nat) : (hfL q x ++ hfR q x y).length + 1 = (hfL q x ++ hfR q x (y + 1)).length := by
 rw [hfR_succ, ← List.append_assoc, List.length_append (bs := [_])]; rfl
theorem hf_zero (q : List D) : ∀ x, x ≤ 1 → hfL q x = []
 | 0, _ => rfl
 | 1, _ => rfl
theorem hf_pos (q : List D) {x : Nat} (h : 1 < x) : ∃ a l, hfL q x = a :: l := by
 have : 0 < (hfL q x).length := by
  obtain ⟨y, rfl⟩ : ∃ y, x = y + 1 := ⟨x - 1, by omega⟩
  show 0 < (hfL q y ++ hfR q y y).length
  rw [List.length_append, hfR_len]; omega
 cases he : hfL q x with
 | nil => rw [he] at this; simp at this
 | cons a l => exact ⟨a, l, rfl⟩
theorem rd_ok {m : Nat} {K : Int} {f : Nat → Nat → Int} {q : List D} {x y : Nat} {k : Prop} (h : sqF m K f q) (hx : x < m) (hy : y < m) (hk : k) : rdC m q x y k := by
 have hq := h.eq
 subst hq
 have hl := sqD_len m f
 have hrl : (D.list (rowF m f x)).len = m := rowF_len m f x
 unfold rdC
 rw [sqD_at f hx, hl, hrl]
 refine ⟨by omega, by omega, hx, (by intro h; cases h), fun r hr => ?_, fun _ h => by cases h⟩
 have hrm : r.length = m := by cases hr; exact rowF_len m f _
 rw [hrm]
 exact ⟨by omega, by omega, hx, by omega, hx, hy, hk⟩
theorem s26 (n : Int) (s : D) (h : goodS n s) : symFun (ctx mt2 mtAnn) 8 40 [.int .i64 n, .dat 25 s] (.dat 22 (mtL n s)) := by
 rw [vc26]
 unfold mtL
 have hn := h.n1
 have hb := h.big.out.1
 have hz := zr_sq n.toNat
 refine ⟨h.big, fun hne => (hne (by rw [h.chk])).elim, fun _ => ⟨by omega, Int.le_refl _, by omega, by omega, ⟨0, Nat.zero_le _, ⟨rfl, trivial⟩, ⟨zr_zero _, allNil_rep _⟩, trivial⟩, fun x hx => ?_⟩⟩
 have hx : x ≤ n.toNat := hx
 refine ⟨limS (by omega), fun hlt => ⟨by omega, Int.le_refl _, by omega, by omega, by omega, by omega, by rw [zr_len _ _ hx]; omega, trivial, rfl, by rw [List.length_replicate], rfl, ⟨by omega, by omega⟩, x + 1, by show x + 1 ≤ _; omega, by omega, ⟨by omega, trivial⟩, zr_next (by omega), trivial⟩, fun hge => ?_⟩
 have hge := not_of hge
 have ex : x = n.toNat := by omega
 subst ex
 refine ⟨⟨0, Nat.zero_le _, ⟨rfl, trivial⟩, rfl, trivial⟩, fun i hi => ?_⟩
 have hi : i ≤ s.len := hi
 have hSq := pqS_sq h hz i hi
 refine ⟨limS (by omega), fun hlt2 => ?_, fun hge2 => ?_⟩
 ·have hi2 : i < s.len := by omega
  have hev := (h.big.out.2 i hi2).out.1
  refine ⟨by omega, hlt2, ⟨0, Nat.zero_le _, ⟨rfl, trivial⟩, rfl, trivial⟩, fun j hj => ?_⟩
  have hj : j ≤ (el s i).len := hj
  have hEq := pqE_sq (L := 1000) hSq (fun j hj => good_tabs h hi2 hj) j hj
  refine ⟨limS (by omega), fun hlt3 => ?_, fun hge3 => ?_⟩
  ·have hj2 : j < (el s i).len := by omega
   obtain ⟨htl, htr⟩ := good_tabs h hi2 hj2
   refine ⟨by omega, hlt3, ⟨0, Nat.zero_le _, ⟨rfl, trivial⟩, rfl, trivial⟩, fun z hz2 => ?_⟩
   have hz2 : z ≤ (el (el s i) j).len := hz2
   have hNq := pqN_sq (L := 1000) hEq htr htl z hz2
   refine ⟨limS (by omega), fun hlt4 => ?_, fun hge4 => ?_⟩
   ·have hz3 : z < (el (el s i) j).len := by omega
    have hsl := sub_len (t := el (el s i) j) hz2
    refine ⟨by omega, hlt4, Int.le_refl _, by omega, by omega, ⟨0, Nat.zero_le _, ⟨rfl, trivial⟩, rfl, trivial⟩, fun w hw => ?_⟩
    have hw : w ≤ z := hw
    have hIq := pqI_sq hNq htr hz3 w hw
    refine ⟨limS (by omega), fun hlt5 => ?_, fun hge5 => ?_⟩
    ·have hw2 : w < z := by omega
     have ea := sub_at (t := el (el s i) j) hw2
     have r1 := htr w (by omega)
     have r2 := htr z hz3
     rw [ea]
     exact ⟨by omega, hlt5, wr_ok hIq (by omega) r1 r2 (wr_ok (incZ_sq hIq r1 r2) (by omega) r2 r1 ⟨⟨by omega, by omega⟩, w + 1, by show w + 1 ≤ _; omega, by omega, ⟨by omega, trivial⟩, rfl, trivial⟩)⟩
    ·have hge5 := not_of hge5
     have ew : w = z := by omega
     subst ew
     exact ⟨⟨by omega, by omega⟩, w + 1, by show w + 1 ≤ _; omega, by omega, ⟨by omega, trivial⟩, rfl, trivial⟩
   ·have hge4 := not_of hge4
    have ez : z = (el (el s i) j).len := by omega
    subst ez
    exact ⟨⟨by omega, by omega⟩, j + 1, by show j + 1 ≤ _; omega, by omega, ⟨by omega, trivial⟩, rfl, trivial⟩
  ·have hge3 := not_of hge3
   have ej : j = (el s i).len := by omega
   subst ej
   exact ⟨⟨by omega, by omega⟩, i + 1, by show i + 1 ≤ _; omega, by omega, ⟨by omega, trivial⟩, rfl, trivial⟩
 ·have hge2 := not_of hge2
  have ei : i = s.len := by omega
  subst ei
  have hl : (pqS (zrL n.toNat n.toNat) s s.len).length = n.toNat := by rw [hSq.eq, sqD_len]
  generalize pqS (zrL n.toNat n.toNat) s s.len = q at hSq hl ⊢
  have hbd : ∀ x y, x < n.toNat → y ≤ x → (hfL q x ++ hfR q x y).length ≤ 5000 := fun x y hx hy => by
   have := hfL_len q x (by omega)
   rw [List.length_append, hfR_len]; omega
  rw [hl]
  refine ⟨.inl ⟨0, ⟨Nat.zero_le _, Nat.zero_le _⟩, ⟨rfl, trivial⟩, ⟨trivial, trivial⟩, trivial⟩, fun x ⟨hx1, hx2⟩ => ?_, fun x ⟨hx1, hx2⟩ => ?_⟩
  ·refine ⟨limS (by omega), fun hlt3 => ⟨.inl ⟨0, ⟨rfl, hx1⟩, ⟨rfl, trivial⟩, ⟨trivial, trivial⟩, trivial⟩, fun y ⟨hy1, _⟩ => ?_, fun y ⟨hy1, hy2⟩ => ?_⟩, fun hge3 => ?_⟩
   ·subst hy1
    refine ⟨limS (by omega), fun hlt4 => rd_ok hSq (by omega) (by omega) ⟨Nat.le_refl _, by decide, ⟨by decide, by decide⟩, .inr ⟨1, ⟨.inr (by omega), by omega⟩, by omega, ⟨rfl, trivial⟩, ⟨⟨rfl, ?_, trivial⟩, trivial⟩, ?_, trivial⟩⟩, fun hge4 => ⟨⟨by omega, by omega⟩, .inl ⟨x + 1, ⟨by have := not_of hge4; omega, by omega⟩, by omega, ⟨by omega, trivial⟩, ⟨trivial, trivial⟩, trivial⟩⟩⟩
    ·rw [hf_zero q x hx1]; rfl
    ·rw [hf_zero q x hx1]; rfl
   ·have hb5 := hbd x y (by omega) hy2
    refine ⟨limS (by omega), fun hlt4 => rd_ok hSq (by omega) (by omega) ⟨Nat.le_refl _, by omega, by omega, ⟨by omega, by omega⟩, .inr ⟨y + 1, ⟨.inr (by omega), by omega⟩, by omega, ⟨by omega, trivial⟩, ⟨⟨rfl, hf_len1 _ _ _, trivial⟩, trivial⟩, hf_next _ _ _, trivial⟩⟩, fun hge4 => ?_⟩
    have hge4 := not_of hge4
    have ey : y = x := by omega
    subst ey
    exact ⟨⟨by omega, by omega⟩, .inr ⟨y + 1, ⟨by omega, by omega⟩, by omega, ⟨by omega, trivial⟩, ⟨⟨rfl, rfl, trivial⟩, trivial⟩, rfl, trivial⟩⟩
   ·have hge3 := not_of hge3
    have : x = n.toNat := by omega
    subst this
    rw [hf_zero q _ hx1]; rfl
  ·refine ⟨limS (by omega), fun hlt3 => ⟨.inr ⟨0, ⟨.inl hx1, Nat.zero_le _⟩, ⟨rfl, trivial⟩, ⟨⟨rfl, by unfold hfR; simp, trivial⟩, trivial⟩, by unfold hfR; simp, trivial⟩, fun y ⟨_, hy⟩ => by omega, fun y ⟨hy1, hy2⟩ => ?_⟩, fun hge3 => ?_⟩
   ·have hb5 := hbd x y (by omega) hy2
    refine ⟨limS (by omega), fun hlt4 => rd_ok hSq (by omega) (by omega) ⟨Nat.le_refl _, by omega, by omega, ⟨by omega, by omega⟩, .inr ⟨y + 1, ⟨.inl hx1, by omega⟩, by omega, ⟨by omega, trivial⟩, ⟨⟨rfl, hf_len1 _ _ _, trivial⟩, trivial⟩, hf_next _ _ _, trivial⟩⟩, fun hge4 => ?_⟩
    have hge4 := not_of hge4
    have ey : y = x := by omega
    subst ey
    exact ⟨⟨by omega, by omega⟩, .inr ⟨y + 1, ⟨by omega, by omega⟩, by omega, ⟨by omega, trivial⟩, ⟨⟨rfl, rfl, trivial⟩, trivial⟩, rfl, trivial⟩⟩
   ·have hge3 := not_of hge3
    have : x = n.toNat := by omega
    subst this
    obtain ⟨a, l, he⟩ := hf_pos q hx1
    rw [he]
    exact ⟨by omega, by rw [List.take_of_length_le (Nat.le_refl _)]; rfl⟩
theorem vc8m : ∀ (n : Int) (s : D), symFun (ctx mt3 mtAnn) 3 (15 : FuncId) [V.int IntKind.i64 n, V.dat (25 : TypeId) s] (V.int IntKind.i64 (mxZ (mtL n s) (mtL n s).len)) = (goodS n s ∧ (∃ (x : Nat), x.le (mtL n s).len ∧
(0 = (x : Int) ∧ 0 = mxZ (mtL n s) x ∧ True) ∧ True) ∧ ∀ (x : Nat), x.le (mtL n s).len → (mtL n s).len - x < LIM ∧ ((x : Int) < (↑(mtL n s).len : Int) → 0 ≤ (x : Int) ∧ (x : Int) < (↑(mtL n s).len : Int) ∧ fits64 ((x :
Int) + 1) ∧ ∃ (y : Nat), y.le (mtL n s).len ∧ (mtL n s).len - y < (mtL n s).len - x ∧ ((x : Int) + 1 = (y : Int) ∧ max (mxZ (mtL n s) x) (nAt (mtL n s) x) = mxZ (mtL n s) y ∧ True) ∧ True) ∧ (((x : Int) < (↑(mtL n s).len
: Int) → False) → mxZ (mtL n s) x = mxZ (mtL n s) (mtL n s).len)) := by intros; kernel_rfl
theorem vc27 : ∀ (n : Int) (l : D), symFun (ctx ce0 shAnn) 4 (41 : FuncId) [V.int IntKind.i64 n, V.dat (22 : TypeId) l] (V.tup [V.int IntKind.i64 (shM n l), V.int IntKind.i64 (shA n l), V.prop (okS n l)]) = ((1 ≤ n →
(((n ≤ 64 → False) → False) → ((1 ≤ n ∧ n ≤ 64) ∧ l.len ≤ 16777216) ∧ ((fitP n l → False) → 0 = shM n l ∧ 0 = shA n l ∧ (false = true ↔ okS n l) ∧ True) ∧ (((fitP n l → False) → False) → (∃ (x : Nat), x.le l.len ∧ (0 =
(x : Int) ∧ 0 = triS l x ∧ True) ∧ True) ∧ ∀ (x : Nat), x.le l.len → l.len - x < LIM ∧ ((x : Int) < (l.len : Int) → 0 ≤ (x : Int) ∧ (x : Int) < (l.len : Int) ∧ fits64 (nAt l x - 1) ∧ fits64 (nAt l x * (nAt l x - 1)) ∧
((2 : Int) = 0 → False) ∧ fits64 (triZ (nAt l x)) ∧ fits64 (triS l x + triZ (nAt l x)) ∧ fits64 ((x : Int) + 1) ∧ ∃ (y : Nat), y.le l.len ∧ l.len - y < l.len - x ∧ ((x : Int) + 1 = (y : Int) ∧ triS l x + triZ (nAt l x) =
triS l y ∧ True) ∧ True) ∧ (((x : Int) < (l.len : Int) → False) → fits64 (n - 1) ∧ fits64 (n * (n - 1)) ∧ ((2 : Int) = 0 → False) ∧ fits64 (triZ n) ∧ triS l x = shM n l ∧ triZ n = shA n l ∧ (true = true ↔ okS n l) ∧
True))) ∧ ((n ≤ 64 → False) → 0 = shM n l ∧ 0 = shA n l ∧ (false = true ↔ okS n l) ∧ True)) ∧ ((1 ≤ n → False) → 0 = shM n l ∧ 0 = shA n l ∧ (false = true ↔ okS n l) ∧ True)) := by intros; kernel_rfl
theorem vc9b : ∀ (n : Int) (l : D) (e : Int), symFun (ctx ce1 shAnn) 3 (16 : FuncId) [V.int IntKind.i64 n, V.dat (22 : TypeId) l, V.int IntKind.i64 e] (V.int IntKind.i64 (lmZ n l e)) = (l.len ≤ 16777216 ∧ (((okS n l →
False) → False) → ((e < 1 → False) → (shM n l = 0 → 0 = lmZ n l e) ∧ ((shM n l = 0 → False) → fits64 (min e 64 * shM n l) ∧ fits64 (min e 64 * shM n l + shA n l) ∧ fits64 (min e 64 * shM n l + shA n l - 1) ∧ (shA n l = 0
→ False) ∧ fits64 ((min e 64 * shM n l + shA n l - 1).tdiv (shA n l)) ∧ (min e 64 * shM n l + shA n l - 1).tdiv (shA n l) = lmZ n l e)) ∧ (e < 1 → 0 = lmZ n l e)) ∧ ((okS n l → False) → 0 = lmZ n l e)) := by intros; kernel_rfl
structure sizP (l : D) : Prop where
 out : l.len ≤ 100 ∧ ∀ i, i < l.len → 1 ≤ nAt l i ∧ nAt l i ≤ 64
section
variable {n e : Int} {l : D}
theorem ok_siz {n : Int} {l : D} (h : okS n l) : l.len ≤ 64 ∧ ∀ i, i < l.len → 1 ≤ nAt l i ∧ nAt l i ≤ n := by
 have h1 := fit_sum h.fit (Nat.le_refl _)
 have h2 := h.n2
 refine ⟨by omega, fun i hi => ⟨h.fit.out.1 i hi, ?_⟩⟩
 have h3 := fit_le h.fit hi
 have h4 := fit_sum h.fit (Nat.le_of_lt hi)
 omega
theorem ok_sizP {n : Int} {l : D} (h : okS n l) : sizP l := ⟨by have := (ok_siz h).1; omega, fun i hi => ⟨((ok_siz h).2 i hi).1, by have := ((ok_siz h).2 i hi).2; have := h.n2; omega⟩⟩
theorem mul_rng {k : Int} (h1 : 1 ≤ k) (h2 : k ≤ 64) : 0 ≤ k * (k - 1) ∧ k * (k - 1) ≤ 4032 := ⟨Int.mul_nonneg (by omega) (by omega), Int.mul_le_mul h2 (by omega : k - 1 ≤ 63) (by omega) (by decide)⟩
theorem tri_rng {k : Int} (h1 : 1 ≤ k) (h2 : k ≤ 64) : 0 ≤ triZ k ∧ triZ k ≤ 2016 := by
 have := mul_rng h1 h2
 unfold triZ
 rw [Int.tdiv_eq_ediv_of_nonneg this.1]
 omega
theorem tri_succ {k : Int} (h1 : 1 ≤ k) : triZ (k + 1) = triZ k + k := by
 have e0 : 0 ≤ k * (k - 1) := Int.mul_nonneg (by omega) (by omega)
 have e1 : (k + 1) * (k + 1 - 1) = k * (k - 1) + 2 * k := by
  rw [show k + 1 - 1 = k by omega, Int.add_mul, Int.mul_sub, Int.one_mul, Int.mul_one]; omega
 unfold triZ
 rw [Int.tdiv_eq_ediv_of_nonneg e0, Int.tdiv_eq_ediv_of_nonneg (by omega), e1]
 omega
theorem tri_pos {k : Int} (h1 : 2 ≤ k) : 1 ≤ triZ k := by
 have e0 : 2 * 1 ≤ k * (k - 1) := Int.mul_le_mul h1 (by omega) (by decide) (by omega)
 unfold triZ
 rw [Int.tdiv_eq_ediv_of_nonneg (by omega)]
 omega
theorem triS_rng {l : D} {m : Nat} (h : ∀ i, i < m → 1 ≤ nAt l i ∧ nAt l i ≤ 64) : ∀ x, x ≤ m → 0 ≤ triS l x ∧ triS l x ≤ 2016 * x
 | 0, _ => ⟨Int.le_refl _, Int.le_refl _⟩
 | x + 1, hx => by
  have h1 := triS_rng h x (by omega)
  have h2 := tri_rng (h x (by omega)).1 (h x (by omega)).2
  show 0 ≤ triS l x + triZ (nAt l x) ∧ triS l x + triZ (nAt l x) ≤ _
  omega
theorem triS_zero {l : D} {m : Nat} (h : ∀ i, i < m → nAt l i = 1) : ∀ x, x ≤ m → triS l x = 0
 | 0, _ => rfl
 | x + 1, hx => by
  show triS l x + triZ (nAt l x) = 0
  rw [triS_zero h x (by omega), h x (by omega)]; rfl
theorem ok_tri {n : Int} {l : D} (h : okS n l) : (0 ≤ triS l l.len ∧ triS l l.len ≤ 129024) ∧ (0 ≤ triZ n ∧ triZ n ≤ 2016) ∧ (triS l l.len ≠ 0 → 1 ≤ triZ n) := by
 have hs := ok_siz h
 have hz := ok_sizP h
 have h1 := triS_rng hz.out.2 l.len (Nat.le_refl _)
 refine ⟨by omega, tri_rng h.n1 h.n2, fun hne => ?_⟩
 refine tri_pos ?_
 by_cases hn : n ≤ 1
 ·exact absurd (triS_zero (fun i hi => by have := hs.2 i hi; omega) l.len (Nat.le_refl _)) hne
 ·omega
theorem s27 (n : Int) (l : D) (hl : l.len ≤ 16777216) : symFun (ctx ce0 shAnn) 4 41 [.int .i64 n, .dat 22 l] (.tup [.int .i64 (shM n l), .int .i64 (shA n l), .prop (okS n l)]) := by
 rw [vc27]
 have no : ¬ okS n l → 0 = shM n l ∧ 0 = shA n l ∧ (false = true ↔ okS n l) ∧ True := fun h => ⟨by unfold shM; rw [if_neg h], by unfold shA; rw [if_neg h], iff_of_false (fun h => (by cases h)) h, trivial⟩
 refine ⟨fun h1 => ⟨fun h2 => ?_, fun h2 => no fun h => h2 h.n2⟩, fun h1 => no fun h => h1 h.n1⟩
 have h2 := Classical.not_not.1 h2
 refine ⟨⟨⟨h1, h2⟩, hl⟩, fun hf => no fun h => hf h.fit, fun hf => ?_⟩
 have ok : okS n l := ⟨h1, h2, Classical.not_not.1 hf⟩
 have hs := ok_siz ok
 have hz := ok_sizP ok
 have em : shM n l = triS l l.len := by unfold shM; rw [if_pos ok]
 have ea : shA n l = triZ n := by unfold shA; rw [if_pos ok]
 refine And.intro ⟨0, Nat.zero_le _, ⟨rfl, rfl, trivial⟩, trivial⟩ (fun x hx => ?_)
 have hx : x ≤ l.len := hx
 refine ⟨lim_of (by omega), fun hlt => ?_, fun hge => ?_⟩
 ·have h3 := hz.out.2 x (by omega)
  have h4 := mul_rng h3.1 h3.2
  have h5 := tri_rng h3.1 h3.2
  have h6 := triS_rng hz.out.2 x hx
  exact ⟨by omega, by omega, ⟨by omega, by omega⟩, ⟨by omega, by omega⟩, by omega, ⟨by omega, by omega⟩, ⟨by omega, by omega⟩, ⟨by omega, by omega⟩, x + 1, show x + 1 ≤ l.len by omega, by omega, ⟨by omega, rfl, trivial⟩, trivial⟩
 ·have hge := not_of hge
  have e : x = l.len := by omega
  have h4 := mul_rng h1 h2
  have h5 := tri_rng h1 h2
  exact ⟨⟨by omega, by omega⟩, ⟨by omega, by omega⟩, by omega, ⟨by omega, by omega⟩, by rw [em, e], ea.symm, iff_of_true rfl ok, trivial⟩
theorem lm_zero (h : ¬ okS n l ∨ e < 1 ∨ triS l l.len = 0) : 0 = lmZ n l e := by unfold lmZ; rw [if_pos h]
theorem lm_some (h : okS n l) (h1 : ¬ e < 1) (h2 : triS l l.len ≠ 0) : lmZ n l e = (min e 64 * triS l l.len + triZ n - 1).tdiv (triZ n) := by unfold lmZ; rw [if_neg fun h' => h'.elim (fun k => k h) fun h' => h'.elim h1 h2]
theorem prod_rng {a b c d : Int} (ha : 0 ≤ a) (hb : 0 ≤ b) (hac : a ≤ c) (hbd : b ≤ d) : 0 ≤ a * b ∧ a * b ≤ c * d := ⟨Int.mul_nonneg ha hb, Int.mul_le_mul hac hbd hb (by omega)⟩
theorem s9b (n : Int) (l : D) (e : Int) (hl : l.len ≤ 16777216) : symFun (ctx ce1 shAnn) 3 16 [.int .i64 n, .dat 22 l, .int .i64 e] (.int .i64 (lmZ n l e)) := by
 rw [vc9b]
 refine ⟨hl, fun h => ⟨fun h1 => ⟨fun h2 => ?_, fun h2 => ?_⟩, fun h1 => lm_zero (.inr (.inl h1))⟩, fun h => lm_zero (.inl h)⟩
 ·have ok := Classical.not_not.1 h
  have em : shM n l = triS l l.len := by unfold shM; rw [if_pos ok]
  exact lm_zero (.inr (.inr (em ▸ h2)))
 ·have ok := Classical.not_not.1 h
  have em : shM n l = triS l l.len := by unfold shM; rw [if_pos ok]
  have ea : shA n l = triZ n := by unfold shA; rw [if_pos ok]
  rw [em, ea]
  rw [em] at h2
  have h1 := not_of h1
  have ht := ok_tri ok
  have hq := ht.2.2 h2
  have h3 := prod_rng (a := min e 64) (b := triS l l.len) (c := 64) (d := 129024) (by omega) ht.1.1 (by omega) ht.1.2
  have h4 : 0 ≤ (min e 64 * triS l l.len + triZ n - 1).tdiv (triZ n) ∧ (min e 64 * triS l l.len + triZ n - 1).tdiv (triZ n) ≤ min e 64 * triS l l.len + triZ n - 1 := ⟨Int.tdiv_nonneg (by omega) (by omega), Int.tdiv_le_self _ (by omega)⟩
  exact ⟨⟨by omega, by omega⟩, ⟨by omega, by omega⟩, ⟨by omega, by omega⟩, by omega, ⟨by omega, by omega⟩, (lm_some ok h1 h2).symm⟩
end
theorem errG_all {n : Int} {l : List D} (h : errG n l = 0) : ¬ outP n l ∧ (∀ v : Nat, (v : Int) < n → cntF l v ≤ 1) ∧ ∀ v : Nat, (v : Int) < n → cntF l v ≠ 0 := by
 unfold errG at h
 split at h
 ·cases h
 ·rename_i ho
  split at h
  ·cases h
  ·rename_i h1
   split at h
   ·cases h
   ·rename_i h2
    refine ⟨ho, fun v hv => ?_, fun v hv e => h2 ⟨v, ⟨by omega, hv⟩, e⟩⟩
    by_cases hc : 1 < cntF l v
    ·exact absurd ⟨(v : Int), ⟨by omega, hv⟩, hc⟩ h1
    ·omega
theorem tot_ge {ev : D} {k : Nat} (h : ∀ i, i < k → 1 ≤ (el ev i).len) : ∀ x, x ≤ k → x ≤ totE ev x
 | 0, _ => Nat.zero_le _
 | x + 1, hx => by
  have ih := tot_ge h x (by omega)
  have := h x (by omega)
  show x + 1 ≤ totE ev x + (el ev x).len
  omega
theorem tot_el {ev : D} {j k : Nat} (h : j < k) : (el ev j).len ≤ totE ev k := by
 have h1 : totE ev (j + 1) ≤ totE ev k := tot_mono' ev (by omega)
 have : totE ev (j + 1) = totE ev j + (el ev j).len := rfl
 omega
theorem errE_all {n : Int} {ev : D} (h : errE n .nil ev = 0) : (∀ j, j < ev.len → 1 ≤ (el ev j).len) ∧ errG n (flatL ev ev.len) = 0 := by
 unfold errE at h
 split at h
 ·cases h
 ·rename_i he
  refine ⟨fun j hj => ?_, h⟩
  by_cases h0 : (el ev j).len = 0
  ·exact absurd (.inl ⟨j, hj, h0⟩) he
  ·omega
theorem good_flat {n : Int} {s : D} (h : goodS n s) {i : Nat} (hi : i < s.len) : totE (el s i) (el s i).len ≤ n.toNat := by
 obtain ⟨_, h2⟩ := errE_all (good_err h hi)
 obtain ⟨h3, h4, _⟩ := errG_all h2
 have hn := h.n1
 have e1 := sumC_all (n := n.toNat) (l := flatL (el s i) (el s i).len) (fun a ha => by have := in_of h3 a ha; omega)
 have e2 := sumC_le (l := flatL (el s i) (el s i).len) n.toNat (fun v hv => h4 v (by omega))
 rw [e1, flat_len] at e2
 omega
theorem good_small {n : Int} {s : D} (h : goodS n s) {i : Nat} (hi : i < s.len) : (el s i).len ≤ 64 ∧ ∀ j, j < (el s i).len → (el (el s i) j).len ≤ 64 := by
 have h1 := good_flat h hi
 have hn := h.n1
 have h2 := tot_ge (errE_all (good_err h hi)).1 (el s i).len (Nat.le_refl _)
 refine ⟨by omega, fun j hj => ?_⟩
 have := tot_el (ev := el s i) hj
 omega
theorem good_lim {n : Int} {s : D} (h : goodS n s) : s.len ≤ 64 := by
 have hc := h.chk
 unfold chk at hc
 split at hc
 ·cases hc
 ·split at hc
  ·cases hc
  ·omega
theorem pqS_small {n : Int} {s : D} (h : goodS n s) {q : List D} (hq : sqF n.toNat 0 (fun _ _ => 0) q) : ∀ i, i ≤ s.len → sqF n.toNat (524288 * i) (mtS s i) (pqS q s i)
 | 0, _ => hq.cong (by omega) fun _ _ _ _ => rfl
 | i + 1, hi => by
  have hb := good_small h (show i < s.len by omega)
  exact (pqE_sq (L := 64) (pqS_small h hq i (by omega)) (fun j hj => ⟨hb.2 j hj, (good_tabs h (show i < s.len by omega) hj).2⟩) (el s i).len (Nat.le_refl _)).cong (by omega) fun _ _ _ _ => rfl
theorem mt_sq {n : Int} {s : D} (h : goodS n s) : sqF n.toNat 33554432 (mtS s s.len) (pqS (zrL n.toNat n.toNat) s s.len) := by
 have := good_lim h
 exact (pqS_small h (zr_sq n.toNat) s.len (Nat.le_refl _)).cong (by omega) fun _ _ _ _ => rfl
theorem hfR_sq {m : Nat} {f : Nat → Nat → Int} {x y : Nat} (hx : x < m) (hy : y ≤ m) : hfR (sqD m f) x y = (List.range y).map fun b => .int (f x b) := by
 unfold hfR
 refine List.map_congr_left fun b hb => ?_
 rw [sqD_at f hx]
 show D.int (nAt (D.list (rowF m f x)) b) = _
 unfold nAt
 show D.int (nthD (rowF m f x) b).asInt = _
 rw [rowF_at f x (show b < m by have := List.mem_range.1 hb; omega)]; rfl
theorem hfL_mem {m : Nat} {f : Nat → Nat → Int} {d : D} : ∀ x, x ≤ m → (d ∈ hfL (sqD m f) x ↔ ∃ a b, b < a ∧ a < x ∧ d = .int (f a b))
 | 0, _ => ⟨fun h => (by cases h), fun ⟨a, b, _, h, _⟩ => (by omega)⟩
 | x + 1, hx => by
  have ih := hfL_mem (m := m) (d := d) (f := f) x (by omega)
  show d ∈ hfL (sqD m f) x ++ hfR (sqD m f) x x ↔ _
  rw [List.mem_append, ih, hfR_sq (by omega) (by omega), List.mem_map]
  constructor
  ·rintro (⟨a, b, h1, h2, h3⟩ | ⟨b, h1, h2⟩)
   ·exact ⟨a, b, h1, by omega, h3⟩
   ·exact ⟨x, b, List.mem_range.1 h1, by omega, h2.symm⟩
  ·rintro ⟨a, b, h1, h2, h3⟩
   by_cases e : a = x
   ·subst e; exact .inr ⟨b, List.mem_range.2 h1, h3.symm⟩
   ·exact .inl ⟨a, b, h1, by omega, h3⟩
theorem hfL_len2 (q : List D) : ∀ x, 2 * (hfL q x).length = x * (x - 1)
 | 0 => rfl
 | 1 => rfl
 | x + 2 => by
  have ih := hfL_len2 q (x + 1)
  show 2 * (hfL q (x + 1) ++ hfR q (x + 1) (x + 1)).length = _
  rw [List.length_append, hfR_len, Nat.mul_add, ih]
  show (x + 1) * x + 2 * (x + 1) = (x + 2) * (x + 1)
  rw [Nat.mul_comm (x + 1) x, ← Nat.add_mul]
theorem mt_mem {n : Int} {s : D} (h : goodS n s) {d : D} : d ∈ (mtL n s).asList ↔ ∃ a b, b < a ∧ a < n.toNat ∧ d = .int (mtS s s.len a b) := by
 unfold mtL
 rw [listD_list, (mt_sq h).eq]
 exact hfL_mem n.toNat (Nat.le_refl _)
theorem mt_len (n : Int) (s : D) : 2 * (mtL n s).len = n.toNat * (n.toNat - 1) := by
 unfold mtL
 rw [listD_len]
 exact hfL_len2 _ _
theorem mt_num {n : Int} {s : D} (h : goodS n s) : numL 33554432 (mtL n s) := by
 have hn := h.n1
 have hl := mt_len n s
 have hm : n.toNat * (n.toNat - 1) ≤ 64 * 64 := Nat.mul_le_mul (by omega) (by omega)
 refine ⟨by omega, fun i hi => ?_⟩
 have hmem : nthD (mtL n s).asList i ∈ (mtL n s).asList := nthD_mem hi
 obtain ⟨a, b, h1, h2, h3⟩ := (mt_mem h).1 hmem
 have hr := (mt_sq h).bnd a b (by omega) (by omega)
 unfold nAt
 rw [h3]
 exact hr
theorem s8m (n : Int) (s : D) (h : goodS n s) : symFun (ctx mt3 mtAnn) 3 15 [.int .i64 n, .dat 25 s] (.int .i64 (mxZ (mtL n s) (mtL n s).len)) := by
 rw [vc8m]
 have hl := (mt_num h).len
 refine ⟨h, ⟨0, Nat.zero_le _, ⟨rfl, rfl, trivial⟩, trivial⟩, fun x hx => ?_⟩
 have hx : x ≤ (mtL n s).len := hx
 refine ⟨limS (by omega), fun hlt => ⟨by omega, hlt, ⟨by omega, by omega⟩, x + 1, by show x + 1 ≤ _; omega, by omega, ⟨by omega, rfl, trivial⟩, trivial⟩, fun hge => ?_⟩
 have hge := not_of hge
 rw [show x = (mtL n s).len by omega]
end Go.Ev

end

section
open Go.Proofs
namespace Go.Ev
def szF (c : D) (i : Nat) : Int := 1 + IntKind.i64.wrap ((nAt c i).tmod 6)
def sub8 (c : D) : D := c.sub 0 (min (c.len : Int) (8 : Int)).toNat
def sumF (c : D) : Nat → Int
 | 0 => 0
 | n + 1 => sumF c n + szF c n
def szL (c : D) (n : Nat) : List D := (List.range n).map fun i => .int (szF c i)
def kS (c : D) : Nat := (sub8 c).len
def szD (c : D) : D := if kS c = 0 then .list [.int 1] else .list (szL (sub8 c) (kS c))
def nD (c : D) : Int := if kS c = 0 then 1 else sumF (sub8 c) (kS c)
def idL (n : Nat) : List D := (List.range n).map fun i => .int (i : Nat)
def offZ (sz : D) : Nat → Int
 | 0 => 0
 | n + 1 => offZ sz n + nAt sz n
structure u8L (c : D) : Prop where
 out : ∀ i, i < c.len → 0 ≤ nAt c i ∧ nAt c i < 256
noncomputable def con21z : Con := fun | [.dat 34 c] => some (u8L c, .tup [.dat 22 (szD c), .int .i64 (nD c)]) | _ => none
noncomputable def mzAnn : FuncId → Nat → Option Ann
 | 11, 4 => some { hs := 2, τ := Nat, slots := fun S i x => match i with | 0 => [(14, .int .i64 0), (4, .val (.slice none 0 0)), (5, .int .i64 0)] | _ => [(14, .int .i64 x), (4, .slc 60 (.lit 0) (.sym x) none), (5, .int .i64 (sumF (slD S 12) x))], blks := fun S i x => match i with | 0 => [] | _ => [(60, .arr 3 (szL (slD S 12) x))], inv := fun S i x => match i with | 0 => x = 0 | _ => 0 < x ∧ x ≤ kS (slD S 0), meas := fun S _ x => (slD S 12).len - x }
 | _, _ => none
end Go.Ev

end

section
open Go.Proofs
namespace Go.Ev
set_option maxRecDepth 100000
set_option maxHeartbeats 4000000
theorem vc21z : ∀ (c : D), symFun (ctx cc0 mzAnn) 4 (11 : FuncId) [V.dat (34 : TypeId) c] (V.tup [V.dat (22 : TypeId) (szD c), V.int IntKind.i64 (nD c)]) = ((0 : Int) ≤ 0 ∧ 0 ≤ min (c.len : Int) 8 ∧ min (c.len : Int) 8 ≤
(c.len : Int) ∧ ((∃ (x : Nat), x = 0 ∧ ((0 : Int) = 0 ∧ True ∧ (0 : Int) = 0 ∧ True) ∧ True) ∨ ∃ (x : Nat), (0 < x ∧ x ≤ kS c) ∧ (0 = (x : Int) ∧ False ∧ 0 = sumF (sub8 c) x ∧ True) ∧ False ∧ True) ∧ (∀ (x : Nat), x = 0
→ (sub8 c).len - x < LIM ∧ (0 < (↑(sub8 c).len : Int) → (0 : Int) ≤ 0 ∧ 0 < (↑(sub8 c).len : Int) ∧ ((6 : Int) = 0 → False) ∧ fits64 (szF (sub8 c) 0) ∧ 0 + 1 ≤ [D.int (szF (sub8 c) 0)].length ∧ (1 : Nat) ≤ 16777216 ∧ ((6
: Int) = 0 → False) ∧ fits64 (szF (sub8 c) 0) ∧ fits64 (0 + (szF (sub8 c) 0)) ∧ fits64 (0 + 1) ∧ ((∃ (y : Nat), y = 0 ∧ (sub8 c).len - y < (sub8 c).len - x ∧ ((0 : Int) + 1 = 0 ∧ False ∧ 0 + (szF (sub8 c) 0) = 0 ∧ True)
∧ True) ∨ ∃ (y : Nat), (0 < y ∧ y ≤ kS c) ∧ (sub8 c).len - y < (sub8 c).len - x ∧ (0 + 1 = (y : Int) ∧ ((0 : Nat) = 0 ∧ 1 = y ∧ True) ∧ 0 + (szF (sub8 c) 0) = sumF (sub8 c) y ∧ True) ∧ List.take 1 [D.int (szF (sub8 c)
0)] = szL (sub8 c) y ∧ True)) ∧ ((0 < (↑(sub8 c).len : Int) → False) → ((0 : Int) = 0 → (0 + 1 ≤ [D.int 1].length ∧ D.list (List.take 1 [D.int 1]) = szD c) ∧ 1 = nD c ∧ True) ∧ (((0 : Int) = 0 → False) → D.nil = szD c ∧
0 = nD c ∧ True))) ∧ ∀ (x : Nat), 0 < x ∧ x ≤ kS c → (sub8 c).len - x < LIM ∧ ((x : Int) < (↑(sub8 c).len : Int) → 0 ≤ (x : Int) ∧ (x : Int) < (↑(sub8 c).len : Int) ∧ ((6 : Int) = 0 → False) ∧ fits64 (szF (sub8 c) x) ∧ 0
+ 1 ≤ [D.int (szF (sub8 c) x)].length ∧ 0 + x ≤ (szL (sub8 c) x).length ∧ x + 1 ≤ 16777216 ∧ ((6 : Int) = 0 → False) ∧ fits64 (szF (sub8 c) x) ∧ fits64 (sumF (sub8 c) x + (szF (sub8 c) x)) ∧ fits64 ((x : Int) + 1) ∧ ((∃
(y : Nat), y = 0 ∧ (sub8 c).len - y < (sub8 c).len - x ∧ ((x : Int) + 1 = 0 ∧ False ∧ sumF (sub8 c) x + (szF (sub8 c) x) = 0 ∧ True) ∧ True) ∨ ∃ (y : Nat), (0 < y ∧ y ≤ kS c) ∧ (sub8 c).len - y < (sub8 c).len - x ∧ ((x :
Int) + 1 = (y : Int) ∧ ((0 : Nat) = 0 ∧ x + 1 = y ∧ True) ∧ sumF (sub8 c) x + (szF (sub8 c) x) = sumF (sub8 c) y ∧ True) ∧ List.take x (szL (sub8 c) x) ++ List.take 1 [D.int (szF (sub8 c) x)] = szL (sub8 c) y ∧ True)) ∧
(((x : Int) < (↑(sub8 c).len : Int) → False) → (sumF (sub8 c) x = 0 → (0 + 1 ≤ [D.int 1].length ∧ D.list (List.take 1 [D.int 1]) = szD c) ∧ 1 = nD c ∧ True) ∧ ((sumF (sub8 c) x = 0 → False) → (0 + x ≤ (szL (sub8 c)
x).length ∧ D.list (List.take x (szL (sub8 c) x)) = szD c) ∧ sumF (sub8 c) x = nD c ∧ True))) := by intros; kernel_rfl
theorem wrapI {n : Int} (h0 : 0 ≤ n) (h1 : n < 128) : IntKind.i64.wrap n = n := by
 obtain ⟨m, rfl⟩ : ∃ m : Nat, n = m := ⟨n.toNat, by omega⟩
 exact wrap_small _ m (by omega)
theorem sub0_len (d : D) {k : Nat} (h : k ≤ d.len) : (d.sub 0 k).len = k := by
 cases d <;> simp [D.sub, D.len, D.asList] at h ⊢ <;> omega
theorem sub0_el (d : D) {k i : Nat} (h : i < k) : el (d.sub 0 k) i = el d i := by
 unfold el nthD
 cases d <;> simp [D.sub, D.asList, List.getElem?_take, h]
theorem sub8_len (c : D) : (sub8 c).len = min c.len 8 := by unfold sub8; rw [sub0_len _ (by omega)]; omega
theorem sub8_el (c : D) {i : Nat} (h : i < (sub8 c).len) : el (sub8 c) i = el c i := by rw [sub8_len] at h; exact sub0_el c (by omega)
theorem sz_rng {c : D} (h : u8L c) {i : Nat} (hi : i < (sub8 c).len) : 1 ≤ szF (sub8 c) i ∧ szF (sub8 c) i ≤ 6 := by
 have h1 := h.out i (by rw [sub8_len] at hi; omega)
 have e : nAt (sub8 c) i = nAt c i := by show (el (sub8 c) i).asInt = _; rw [sub8_el c hi]; rfl
 unfold szF
 rw [e]
 have h2 : (nAt c i).tmod 6 = nAt c i % 6 := Int.tmod_eq_emod_of_nonneg h1.1
 rw [h2, wrapI (by omega) (by omega)]
 omega
theorem szL_len (c : D) (n : Nat) : (szL c n).length = n := by unfold szL; rw [List.length_map, List.length_range]
theorem szL_succ (c : D) (n : Nat) : szL c n ++ [.int (szF c n)] = szL c (n + 1) := by unfold szL; rw [List.range_succ, List.map_append]; rfl
theorem sum_rng {c : D} (h : u8L c) : ∀ n, n ≤ (sub8 c).len → (n : Int) ≤ sumF (sub8 c) n ∧ sumF (sub8 c) n ≤ 6 * n
 | 0, _ => ⟨Int.le_refl _, Int.le_refl _⟩
 | n + 1, hn => by
  have h1 := sum_rng h n (by omega)
  have h2 := sz_rng h (show n < (sub8 c).len by omega)
  have e : sumF (sub8 c) (n + 1) = sumF (sub8 c) n + szF (sub8 c) n := rfl
  omega
theorem s21z (c : D) (h : u8L c) : symFun (ctx cc0 mzAnn) 4 11 [.dat 34 c] (.tup [.dat 22 (szD c), .int .i64 (nD c)]) := by
 rw [vc21z]
 have h8 := sub8_len c
 have hk : kS c = (sub8 c).len := rfl
 have six : ((6 : Int) = 0 → False) := by decide
 refine ⟨by omega, by omega, by omega, .inl ⟨0, rfl, ⟨rfl, trivial, rfl, trivial⟩, trivial⟩, fun x hx => ?_, fun x ⟨hx0, hx⟩ => ?_⟩
 ·subst hx
  refine ⟨lim_of (by omega), fun hlt => ?_, fun hge => ?_⟩
  ·have r := sz_rng h (i := 0) (by omega)
   have e : sumF (sub8 c) 1 = 0 + szF (sub8 c) 0 := rfl
   exact ⟨by omega, hlt, six, ⟨by omega, by omega⟩, Nat.le_refl 1, by omega, six, ⟨by omega, by omega⟩, ⟨by omega, by omega⟩, ⟨by omega, by omega⟩, .inr ⟨1, ⟨by omega, by omega⟩, by omega, ⟨rfl, ⟨rfl, rfl, trivial⟩, e.symm, trivial⟩, rfl, trivial⟩⟩
  ·have hge := not_of hge
   have e : kS c = 0 := by omega
   exact ⟨fun _ => ⟨⟨Nat.le_refl 1, by unfold szD; rw [if_pos e]; rfl⟩, by unfold nD; rw [if_pos e], trivial⟩, fun h => absurd rfl h⟩
 ·refine ⟨lim_of (by omega), fun hlt => ?_, fun hge => ?_⟩
  ·have r := sz_rng h (i := x) (by omega)
   have q := sum_rng h x (by omega)
   have q1 := szL_len (sub8 c) x
   have e : sumF (sub8 c) (x + 1) = sumF (sub8 c) x + szF (sub8 c) x := rfl
   exact ⟨by omega, hlt, six, ⟨by omega, by omega⟩, Nat.le_refl 1, by omega, by omega, six, ⟨by omega, by omega⟩, ⟨by omega, by omega⟩, ⟨by omega, by omega⟩, .inr ⟨x + 1, ⟨by omega, by omega⟩, by omega, ⟨by omega, ⟨rfl, rfl, trivial⟩, e.symm, trivial⟩, by rw [List.take_of_length_le (by omega), ← szL_succ]; rfl, trivial⟩⟩
  ·have hge := not_of hge
   have ex : x = kS c := by omega
   have q := sum_rng h x (by omega)
   have q1 := szL_len (sub8 c) x
   have hne : ¬ kS c = 0 := by omega
   refine ⟨fun h0 => absurd h0 (by omega), fun _ => ⟨⟨by omega, ?_⟩, ?_, trivial⟩⟩
   ·unfold szD; rw [if_neg hne, List.take_of_length_le (by omega), ex]
   ·unfold nD; rw [if_neg hne, ex]
theorem nth_map {α : Type} (f : Nat → D) (n i : Nat) (hi : i < n) : nthD ((List.range n).map f) i = f i := by
 unfold nthD
 rw [List.getElem?_map, List.getElem?_range hi]; rfl
structure szP (c : D) : Prop where
 n1 : 1 ≤ nD c ∧ nD c ≤ 48
 l1 : 1 ≤ (szD c).len ∧ (szD c).len ≤ 8
 at1 : ∀ j, j < (szD c).len → 1 ≤ nAt (szD c) j ∧ nAt (szD c) j ≤ 6
 off : ∀ j, j ≤ (szD c).len → 0 ≤ offZ (szD c) j ∧ offZ (szD c) j ≤ nD c
 all : offZ (szD c) (szD c).len = nD c
theorem sz_p {c : D} (h : u8L c) : szP c := by
 have h8 := sub8_len c
 by_cases hk : kS c = 0
 ·have e1 : szD c = .list [.int 1] := by unfold szD; rw [if_pos hk]
  have e2 : nD c = 1 := by unfold nD; rw [if_pos hk]
  rw [show szP c ↔ szP c from Iff.rfl]
  refine ⟨by omega, by rw [e1]; exact ⟨Nat.le_refl 1, by show 1 ≤ 8; omega⟩, fun j hj => ?_, fun j hj => ?_, by rw [e1, e2]; rfl⟩
  ·rw [e1] at hj ⊢
   have : j = 0 := by have : j < 1 := hj; omega
   subst this
   exact ⟨by decide, by decide⟩
  ·rw [e1] at hj; rw [e1, e2]
   have : j ≤ 1 := hj
   rcases (show j = 0 ∨ j = 1 by omega) with rfl | rfl
   ·exact ⟨by decide, by decide⟩
   ·exact ⟨by decide, by decide⟩
 ·have e1 : szD c = .list (szL (sub8 c) (kS c)) := by unfold szD; rw [if_neg hk]
  have e2 : nD c = sumF (sub8 c) (kS c) := by unfold nD; rw [if_neg hk]
  have kk : kS c = (sub8 c).len := rfl
  have el1 : (szD c).len = kS c := by rw [e1]; exact szL_len _ _
  have ea : ∀ j, j < kS c → nAt (szD c) j = szF (sub8 c) j := fun j hj => by
   rw [e1]
   show (nthD (szL (sub8 c) (kS c)) j).asInt = _
   have := nth_map (α := D) (fun i => .int (szF (sub8 c) i)) (kS c) j hj
   show (nthD ((List.range (kS c)).map fun i => .int (szF (sub8 c) i)) j).asInt = _
   rw [this]; rfl
  have eo : ∀ j, j ≤ kS c → offZ (szD c) j = sumF (sub8 c) j := fun j => by
   induction j with
   | zero => exact fun _ => rfl
   | succ j ih =>
    intro hj
    show offZ (szD c) j + nAt (szD c) j = sumF (sub8 c) j + szF (sub8 c) j
    rw [ih (by omega), ea j (by omega)]
  have mono : ∀ k j, j + k ≤ kS c → sumF (sub8 c) j ≤ sumF (sub8 c) (j + k) := fun k => by
   induction k with
   | zero => exact fun j _ => Int.le_refl _
   | succ k ih =>
    intro j hj
    have h1 := ih j (by omega)
    have h2 := sz_rng h (i := j + k) (by omega)
    have e : sumF (sub8 c) (j + (k + 1)) = sumF (sub8 c) (j + k) + szF (sub8 c) (j + k) := rfl
    omega
  have q := sum_rng h (kS c) (by omega)
  refine ⟨by omega, by omega, fun j hj => ?_, fun j hj => ?_, by rw [el1, eo _ (Nat.le_refl _), e2]⟩
  ·rw [ea j (by omega)]; exact sz_rng h (by omega)
  ·rw [eo j (by omega), e2]
   have := sum_rng h j (by omega)
   have := mono (kS c - j) j (by omega)
   rw [show j + (kS c - j) = kS c by omega] at this
   omega
theorem id_succ (n : Nat) : idL n ++ [.int (n : Nat)] = idL (n + 1) := by unfold idL; rw [List.range_succ, List.map_append]; rfl
end Go.Ev

end
