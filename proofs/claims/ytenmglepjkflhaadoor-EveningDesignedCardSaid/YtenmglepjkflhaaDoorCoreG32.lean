/-
  Part of the engine that the claim is proved with: it states nothing of the document by itself.
-/
import Derived.Test.YtenmglepjkflhaaDoorCoreG31
import Derived.Test.YtenmglepjkflhaaDoorCoreOnP
import Derived.Test.YtenmglepjkflhaaDoorCoreOnN

section
open Go.Proofs
namespace Go.Ev
set_option maxRecDepth 100000
set_option maxHeartbeats 4000000
theorem vc16 : ∀ (n : Int) (s : D), symFun (ctx nt1 ntAnn) 3 (28 : FuncId) [V.int IntKind.i64 n, V.dat (24 : TypeId) s] (V.prop ((chk n D.nil s).snd = 0)) = (((0 : Nat) ≤ 1000 ∧ bigP s) ∧ ((chk n D.nil s).snd = 0 ↔ (chk
n D.nil s).snd = 0)) := by intros; kernel_rfl
theorem limS {n : Nat} (h : n ≤ 16777216) : n < LIM := by unfold LIM; omega
theorem scan_all {n : Int} {s : D} : ∀ f i, scanK n .nil s f i = (0, 0) → ∀ k, i ≤ k → k < i + f → errE n .nil (el s k) = 0
 | 0, i, _, k, h1, h2 => by omega
 | f + 1, i, h, k, h1, h2 => by
  unfold scanK at h
  by_cases he : errE n .nil (el s i) ≠ 0
  ·rw [if_pos he] at h
   exact absurd (congrArg Prod.snd h) he
  ·rw [if_neg he] at h
   rcases Nat.lt_or_ge i k with h3 | h3
   ·exact scan_all f (i + 1) h k h3 (by omega)
   ·have : k = i := by omega
    subst this; exact Classical.not_not.1 he
theorem good_err {n : Int} {s : D} (h : goodS n s) {i : Nat} (hi : i < s.len) : errE n .nil (el s i) = 0 := by
 have hc := h.chk
 unfold chk at hc
 split at hc
 ·exact absurd (congrArg Prod.snd hc) (by decide)
 ·split at hc
  ·exact absurd (congrArg Prod.snd hc) (by decide)
  ·exact scan_all _ _ hc i (Nat.zero_le _) (by omega)
theorem flat_mem (ev : D) {j : Nat} {a : D} (ha : a ∈ (el ev j).asList) : ∀ m, j < m → a ∈ flatL ev m
 | 0, h => by omega
 | m + 1, h => by
  show a ∈ flatL ev m ++ (el ev m).asList
  rcases Nat.lt_or_ge j m with h1 | h1
  ·exact List.mem_append_left _ (flat_mem ev ha m h1)
  ·have : j = m := by omega
   subst this; exact List.mem_append_right _ ha
structure tabP (n : Int) (tb : D) : Prop where
 pos : 0 < tb.len
 rng : ∀ k, k < tb.len → 0 ≤ nAt tb k ∧ nAt tb k < n
theorem good_tab {n : Int} {s : D} (h : goodS n s) {i j : Nat} (hi : i < s.len) (hj : j < (el s i).len) : tabP n (el (el s i) j) := by
 have he := good_err h hi
 unfold errE at he
 split at he
 ·cases he
 ·rename_i hne
  have h1 : ¬ emptyP (el s i) := fun q => hne (.inl q)
  refine ⟨Nat.pos_of_ne_zero fun h0 => h1 ⟨j, hj, h0⟩, fun k hk => ?_⟩
  unfold errG at he
  split at he
  ·cases he
  ·rename_i ho
   refine Classical.byContradiction fun hc => ho ⟨nthD (el (el s i) j).asList k, flat_mem _ (nthD_mem hk) _ hj, hc⟩
theorem s16 (n : Int) (s : D) (hs : bigP s) : symFun (ctx nt1 ntAnn) 3 28 [.int .i64 n, .dat 24 s] (.prop ((chk n .nil s).2 = 0)) := by
 rw [vc16]; exact ⟨⟨Nat.zero_le _, hs⟩, Iff.rfl⟩
def rowF (m : Nat) (f : Nat → Nat → Int) (a : Nat) : List D := (List.range m).map fun b => .int (f a b)
theorem rowF_len (m : Nat) (f : Nat → Nat → Int) (a : Nat) : (rowF m f a).length = m := by unfold rowF; rw [List.length_map, List.length_range]
theorem rowF_at {m : Nat} (f : Nat → Nat → Int) (a : Nat) {b : Nat} (h : b < m) : nthD (rowF m f a) b = .int (f a b) := by
 unfold rowF nthD
 rw [List.getElem?_map, List.getElem?_range h]; rfl
theorem sqD_len (m : Nat) (f : Nat → Nat → Int) : (sqD m f).length = m := by unfold sqD; rw [List.length_map, List.length_range]
theorem sqD_at {m : Nat} (f : Nat → Nat → Int) {a : Nat} (h : a < m) : nthD (sqD m f) a = .list (rowF m f a) := by
 unfold sqD nthD
 rw [List.getElem?_map, List.getElem?_range h]; rfl
structure sqF (m : Nat) (K : Int) (f : Nat → Nat → Int) (q : List D) : Prop where
 eq : q = sqD m f
 bnd : ∀ a b, a < m → b < m → 0 ≤ f a b ∧ f a b ≤ K
theorem sqF.cong {m : Nat} {K K' : Int} {f g : Nat → Nat → Int} {q : List D} (h : sqF m K f q) (hK : K ≤ K') (he : ∀ a b, a < m → b < m → f a b = g a b) : sqF m K' g q := by
 refine ⟨h.eq.trans ?_, fun a b ha hb => by have := h.bnd a b ha hb; rw [← he a b ha hb]; omega⟩
 unfold sqD
 apply List.map_congr_left
 intro a ha
 congr 1
 apply List.map_congr_left
 intro b hb
 rw [he a b (List.mem_range.1 ha) (List.mem_range.1 hb)]
theorem set_map {α : Type} (m X : Nat) (g : Nat → α) (v : α) : ((List.range m).map g).set X v = (List.range m).map fun a => if X = a then v else g a := by
 apply List.ext_getElem (by simp)
 intro i h1 h2
 rw [List.getElem_set]
 simp only [List.getElem_map, List.getElem_range]
theorem incZ_sq {m : Nat} {K : Int} {f : Nat → Nat → Int} {q : List D} {x y : Int} (h : sqF m K f q) (hx : 0 ≤ x ∧ x < m) (hy : 0 ≤ y ∧ y < m) : sqF m (K + 1) (fun a b => f a b + if x = a ∧ y = b then 1 else 0) (incZ q x y) := by
 refine ⟨?_, fun a b ha hb => by have := h.bnd a b ha hb; split <;> omega⟩
 rw [h.eq]
 unfold incZ
 rw [sqD_at f (a := x.toNat) (by omega)]
 have e1 : nAt (.list (rowF m f x.toNat)) y.toNat = f x.toNat y.toNat := by
  show (nthD (rowF m f x.toNat) y.toNat).asInt = _
  rw [rowF_at f _ (by omega)]; rfl
 rw [e1]
 show (sqD m f).set x.toNat (.list ((rowF m f x.toNat).set y.toNat (.int (f x.toNat y.toNat + 1)))) = _
 unfold sqD rowF
 rw [set_map, set_map]
 apply List.map_congr_left
 intro a _
 by_cases e : x.toNat = a
 ·subst e
  rw [if_pos rfl]
  congr 1
  apply List.map_congr_left
  intro b _
  show _ = D.int (f x.toNat b + if x = (x.toNat : Int) ∧ y = (b : Int) then (1 : Int) else 0)
  by_cases e2 : y.toNat = b
  ·subst e2; rw [if_pos rfl, if_pos ⟨by omega, by omega⟩]
  ·rw [if_neg e2, if_neg (by omega), Int.add_zero]
 ·rw [if_neg e]
  congr 1
  apply List.map_congr_left
  intro b _
  show _ = D.int (f a b + if x = (a : Int) ∧ y = (b : Int) then (1 : Int) else 0)
  rw [if_neg (by omega), Int.add_zero]
theorem wr_ok {m : Nat} {K : Int} {f : Nat → Nat → Int} {q : List D} {x y : Int} {k : Prop} (h : sqF m K f q) (hK : K < 9000000000000000000) (hx : 0 ≤ x ∧ x < m) (hy : 0 ≤ y ∧ y < m) (hk : k) : wrC m q x y k := by
 have hq := h.eq
 subst hq
 have e0 := sqD_at f (a := x.toNat) (m := m) (by omega)
 have hl := sqD_len m f
 have e1 : nAt (.list (rowF m f x.toNat)) y.toNat = f x.toNat y.toNat := by
  show (nthD (rowF m f x.toNat) y.toNat).asInt = _
  rw [rowF_at f _ (by omega)]; rfl
 have hb := h.bnd x.toNat y.toNat (by omega) (by omega)
 have hrl : (D.list (rowF m f x.toNat)).len = m := rowF_len m f x.toNat
 unfold wrC
 rw [e0, e1, hl, hrl]
 refine ⟨hx.1, hx.2, by omega, (by intro h; cases h), fun r hr => ?_, fun _ h => by cases h⟩
 have hrm : r.length = m := by cases hr; exact rowF_len m f _
 rw [hrm]
 exact ⟨hy.1, hy.2, by omega, hy.2, by omega, by omega, ⟨by omega, by omega⟩, hy.1, hy.2, by omega, hy.2, by omega, by omega, hk⟩
theorem updP_sq {m : Nat} {K : Int} {f : Nat → Nat → Int} {q : List D} {x y : Int} (h : sqF m K f q) (hx : 0 ≤ x ∧ x < m) (hy : 0 ≤ y ∧ y < m) : sqF m (K + 2) (fun a b => f a b + indN x y a b) (updP q x y) :=
 (incZ_sq (incZ_sq h hx hy) hy hx).cong (by omega) fun a b _ _ => by unfold indN; rw [Int.add_assoc]
theorem good_tabs {n : Int} {s : D} (h : goodS n s) {i j : Nat} (hi : i < s.len) (hj : j < (el s i).len) : (el (el s i) j).len ≤ 1000 ∧ ∀ k, k < (el (el s i) j).len → 0 ≤ nAt (el (el s i) j) k ∧ nAt (el (el s i) j) k < (n.toNat : Int) := by
 have ht := good_tab h hi hj
 have hn := h.n1
 refine ⟨(h.big.out.2 i hi).out.2 j hj, fun k hk => ?_⟩
 have := ht.rng k hk
 omega
theorem zr_sq (n : Nat) : sqF n 0 (fun _ _ => 0) (zrL n n) := by
 refine ⟨?_, fun _ _ _ _ => ⟨Int.le_refl _, Int.le_refl _⟩⟩
 unfold zrL sqD
 rw [Nat.sub_self, List.replicate_zero, List.append_nil]
 apply List.map_congr_left
 intro a _
 congr 1
 apply List.ext_getElem (by simp)
 intro i h1 h2
 simp
theorem zr_len (n x : Nat) (h : x ≤ n) : (zrL n x).length = n := by unfold zrL; simp; omega
theorem zr_next {n x : Nat} (h : x < n) : (zrL n x).set x (.list (List.replicate n (.int 0))) = zrL n (x + 1) := by
 unfold zrL
 have e : n - x = n - (x + 1) + 1 := by omega
 rw [List.set_append_right _ _ (by simp), List.length_map, List.length_range, Nat.sub_self, e, List.replicate_succ, List.set_cons_zero, List.range_succ, List.map_append, List.append_assoc]
 rfl
theorem zr_zero (n : Nat) : List.replicate n D.nil = zrL n 0 := rfl
theorem allNil_rep (n : Nat) : allNil (List.replicate n D.nil) := ⟨fun d h => List.eq_of_mem_replicate h⟩
theorem sub_at {t : D} {i j : Nat} (h : j < i) : nAt (t.sub 0 i) j = nAt t j := by
 unfold nAt nthD
 cases t <;> simp [D.sub, D.asList]
 rw [List.getElem?_take, if_pos h]
theorem sub_len {t : D} {i : Nat} (h : i ≤ t.len) : (t.sub 0 i).len = i := by
 cases t <;> simp [D.sub, D.len, D.asList] at h ⊢ <;> omega
theorem pqI_sq {m : Nat} {K : Int} {f : Nat → Nat → Int} {q : List D} {t : D} {i : Nat} (h : sqF m K f q) (ht : ∀ k, k < t.len → 0 ≤ nAt t k ∧ nAt t k < m) (hi : i < t.len) : ∀ j, j ≤ i → sqF m (K + 2 * j) (fun a b => f a b + mtI t i j a b) (pqI q t i j)
 | 0, _ => h.cong (by omega) fun a b _ _ => by simp [mtI]
 | j + 1, hj => (updP_sq (pqI_sq h ht hi j (by omega)) (ht j (by omega)) (ht i hi)).cong (by omega) fun a b _ _ => by
   show _ = f a b + (mtI t i j a b + indN (nAt t j) (nAt t i) a b)
   rw [Int.add_assoc]
theorem pqN_sq {m : Nat} {K : Int} {f : Nat → Nat → Int} {q : List D} {t : D} {L : Nat} (h : sqF m K f q) (ht : ∀ k, k < t.len → 0 ≤ nAt t k ∧ nAt t k < m) (hl : t.len ≤ L) : ∀ i, i ≤ t.len → sqF m (K + 2 * L * i) (fun a b => f a b + mtN t i a b) (pqN q t i)
 | 0, _ => h.cong (by omega) fun a b _ _ => by simp [mtN]
 | i + 1, hi => (pqI_sq (pqN_sq h ht hl i (by omega)) ht (show i < t.len by omega) i (Nat.le_refl _)).cong (by
   have : (2 * (L : Int) * ((i + 1 : Nat) : Int)) = 2 * (L : Int) * (i : Int) + 2 * (L : Int) := by rw [Int.natCast_add, Int.mul_add]; simp
   omega) fun a b _ _ => by
   show _ = f a b + (mtN t i a b + mtI t i i a b)
   rw [Int.add_assoc]
theorem pqE_sq {m : Nat} {K : Int} {f : Nat → Nat → Int} {q : List D} {ev : D} {L : Nat} (h : sqF m K f q) (ht : ∀ j, j < ev.len → (el ev j).len ≤ L ∧ ∀ k, k < (el ev j).len → 0 ≤ nAt (el ev j) k ∧ nAt (el ev j) k < m) : ∀ j, j ≤ ev.len → sqF m (K + 2 * L * L * j) (fun a b => f a b + mtE ev j a b) (pqE q ev j)
 | 0, _ => h.cong (by simp) fun a b _ _ => by simp [mtE]
 | j + 1, hj => (pqN_sq (pqE_sq h ht j (by omega)) (ht j (by omega)).2 (ht j (by omega)).1 (el ev j).len (Nat.le_refl _)).cong (by
   have h1 : (2 * (L : Int) * (L : Int) * ((j + 1 : Nat) : Int)) = 2 * (L : Int) * (L : Int) * (j : Int) + 2 * (L : Int) * (L : Int) := by rw [Int.natCast_add, Int.mul_add]; simp
   have h2 : 2 * (L : Int) * ((el ev j).len : Int) ≤ 2 * (L : Int) * (L : Int) := Int.mul_le_mul_of_nonneg_left (by have := (ht j (by omega)).1; omega) (by omega)
   omega) fun a b _ _ => by
   show _ = f a b + (mtE ev j a b + mtN (el ev j) (el ev j).len a b)
   rw [Int.add_assoc]
theorem pqS_sq {n : Int} {s : D} (h : goodS n s) {q : List D} (hq : sqF n.toNat 0 (fun _ _ => 0) q) : ∀ i, i ≤ s.len → sqF n.toNat (200000000 * i) (mtS s i) (pqS q s i)
 | 0, _ => hq.cong (by omega) fun _ _ _ _ => rfl
 | i + 1, hi => by
  have hb := (h.big.out.2 i (by omega)).out.1
  exact (pqE_sq (L := 1000) (pqS_sq h hq i (by omega)) (fun j hj => good_tabs h (by omega) hj) (el s i).len (Nat.le_refl _)).cong (by omega) fun _ _ _ _ => rfl
end Go.Ev

end

section
open Go.Proofs
namespace Go.Ev
def hfR (q : List D) (x y : Nat) : List D := (List.range y).map fun y => .int (nAt (nthD q x) y)
def hfL (q : List D) : Nat → List D
 | 0 => []
 | x + 1 => hfL q x ++ hfR q x x
noncomputable def yB (S : SS) (t : Tmp) (sl : Tmp) : Nat := match S.fr.get t with | some (.yld b) => (match S.hp.get b with | some (.lp _ _ fr _ _ _ _) => (match fr.get sl with | some (.ptr c _) => c | _ => 0) | _ => 0) | _ => 0
noncomputable def rowB (S : SS) (b : Nat) : Nat := match S.hp.get b with | some (.box _ [.slc r _ _ _]) => r | _ => Nat.add S.nx 300
def sqSum (l : D) : Nat → Int
 | 0 => 0
 | x + 1 => sqSum l x + nAt l x * nAt l x
def mxZ (l : D) : Nat → Int
 | 0 => 0
 | x + 1 => max (mxZ l x) (nAt l x)
def mnZ (l : D) : Nat → Int
 | 0 => nAt l 0
 | x + 1 => min (mnZ l x) (nAt l (x + 1))
def mtL (n : Int) (s : D) : D := listD (hfL (pqS (zrL n.toNat n.toNat) s s.len) n.toNat)
structure numL (K : Int) (l : D) : Prop where
 len : l.len ≤ 4096
 rng : ∀ i, i < l.len → 0 ≤ nAt l i ∧ nAt l i ≤ K
noncomputable def con26 : Con := fun | [.int .i64 n, .dat 24 s] => some (goodS n s, .dat 25 (mtL n s)) | _ => none
noncomputable def con8m : Con := fun | [.int .i64 n, .dat 24 s] => some (goodS n s, .int .i64 (mxZ (mtL n s) (mtL n s).len)) | _ => none
noncomputable def con31n : Con := fun | [.dat 25 l] => some (l.len ≤ 4096 ∧ 0 < l.len, .int .i64 (mnZ l (l.len - 1))) | _ => none
noncomputable def mtAnn : FuncId → Nat → Option Ann
 | 51, 3 => some { τ := Nat, slots := fun _ _ x => [(8, .int .i64 x)], blks := fun S _ x => [(slSB S 3, .own S.nx 25 3 (zrL (slI S 0).toNat x))], inv := fun S _ x => x ≤ (slI S 0).toNat, meas := fun S _ x => (slI S 0).toNat - x }
 | 29, 3 => some { τ := Nat, slots := fun _ _ x => [(16, .int .i64 x)], blks := fun S _ x => [(slSB S 7, .own S.nx 25 3 (pqS (slRow S 7) (slD S 14) x))], inv := fun S _ x => x ≤ (slD S 14).len, meas := fun S _ x => (slD S 14).len - x }
 | 29, 6 => some { τ := Nat, slots := fun _ _ y => [(22, .int .i64 y)], blks := fun S _ y => [(slSB S 7, .own S.nx 25 3 (pqE (slRow S 7) (slD S 20) y))], inv := fun S _ y => y ≤ (slD S 20).len, meas := fun S _ y => (slD S 20).len - y }
 | 53, 1 => some { τ := Nat, slots := fun _ _ z => [(9, .int .i64 z)], blks := fun S _ z => [(0, .own S.nx 25 3 (pqN (bkL S 0) (slD S 7) z))], inv := fun S _ z => z ≤ (slD S 7).len, meas := fun S _ z => (slD S 7).len - z }
 | 53, 4 => some { τ := Nat, slots := fun _ _ z => [(18, .int .i64 z)], blks := fun S _ z => [(0, .own S.nx 25 3 (pqI (bkL S 0) (slD S 7) (slI S 3).toNat z))], inv := fun S _ z => z ≤ (slI S 3).toNat, meas := fun S _ z => (slI S 3).toNat - z }
 | 75, 1 => some { hs := 2, τ := Nat, slots := fun _ _ x => [(7, .int .i64 x)], blks := fun S i x => match i with | 0 => [(yB S 0 2, .box 25 [.val (.slice none 0 0)])] | _ => [(yB S 0 2, .box 25 [.slc (rowB S (yB S 0 2)) (.lit 0) (.sym (hfL (bkL S 0) x).length) none]), (rowB S (yB S 0 2), .arr 3 (hfL (bkL S 0) x))], inv := fun S i x => match i with | 0 => x ≤ 1 ∧ x ≤ (bkL S 0).length | _ => 1 < x ∧ x ≤ (bkL S 0).length, meas := fun S _ x => (bkL S 0).length - x }
 | 75, 4 => some { hs := 2, τ := Nat, slots := fun _ _ y => [(11, .int .i64 y)], blks := fun S i y => match i with | 0 => [(yB S 0 2, .box 25 [.val (.slice none 0 0)])] | _ => [(yB S 0 2, .box 25 [.slc (rowB S (yB S 0 2)) (.lit 0) (.sym (hfL (bkL S 0) (slI S 3).toNat ++ hfR (bkL S 0) (slI S 3).toNat y).length) none]), (rowB S (yB S 0 2), .arr 3 (hfL (bkL S 0) (slI S 3).toNat ++ hfR (bkL S 0) (slI S 3).toNat y))], inv := fun S i y => match i with | 0 => y = 0 ∧ (slI S 3).toNat ≤ 1 | _ => (1 < (slI S 3).toNat ∨ 0 < y) ∧ y ≤ (slI S 3).toNat, meas := fun S _ y => (slI S 3).toNat - y }
 | 8, 3 => some { τ := Nat, slots := fun S _ x => [(12, .int .i64 x), (5, .int .i64 (mxZ (slD S 10) x))], blks := fun _ _ _ => [], inv := fun S _ x => x ≤ (slD S 10).len, meas := fun S _ x => (slD S 10).len - x }
 | 14, 3 => some { τ := Nat, slots := fun S _ x => [(12, .int .i64 x), (5, .int .i64 (sqSum (slD S 10) x))], blks := fun _ _ _ => [], inv := fun S _ x => x ≤ (slD S 10).len, meas := fun S _ x => (slD S 10).len - x }
 | 31, 5 => some { τ := Nat, slots := fun S _ x => [(4, .int .i64 ((x + 1 : Nat) : Int)), (3, .int .i64 (mnZ (slD S 0) x))], blks := fun _ _ _ => [], inv := fun S _ x => x + 1 ≤ (slD S 0).len, meas := fun S _ x => (slD S 0).len - x }
 | _, _ => none
structure okS (n : Int) (l : D) : Prop where
 n1 : 1 ≤ n
 n2 : n ≤ 64
 fit : fitP n l
def triZ (k : Int) : Int := (k * (k - 1)).tdiv 2
def triS (l : D) : Nat → Int
 | 0 => 0
 | n + 1 => triS l n + triZ (nAt l n)
open Classical in
noncomputable def shM (n : Int) (l : D) : Int := if okS n l then triS l l.len else 0
open Classical in
noncomputable def shA (n : Int) (l : D) : Int := if okS n l then triZ n else 0
open Classical in
noncomputable def meZ (n : Int) (l : D) (o : Int) : Int := if ¬ okS n l ∨ o < 0 then 0 else if triS l l.len = 0 then 64 else min ((min o 64 * triZ n).tdiv (triS l l.len)) 64
noncomputable def con38b : Con := fun | [.int .i64 n, .dat 25 l] => some (l.len ≤ 16777216, .tup [.int .i64 (shM n l), .int .i64 (shA n l), .prop (okS n l)]) | _ => none
noncomputable def con17b : Con := fun | [.int .i64 n, .dat 25 l, .int .i64 e] => some (l.len ≤ 16777216, .int .i64 (meZ n l e)) | _ => none
noncomputable def shAnn : FuncId → Nat → Option Ann
 | 27, 4 => some { τ := Nat, slots := fun S _ x => [(20, .int .i64 x), (4, .int .i64 (triS (slD S 1) x))], blks := fun _ _ _ => [], inv := fun S _ x => x ≤ (slD S 1).len, meas := fun S _ x => (slD S 1).len - x }
 | _, _ => none
noncomputable def ce0 : FuncId → Option Con
 | 24 => some con13
 | _ => none
noncomputable def ce1 : FuncId → Option Con
 | 24 => some con13
 | 27 => some con38b
 | _ => none
noncomputable def mt2 : FuncId → Option Con
 | 28 => some con16
 | _ => none
noncomputable def mt3 : FuncId → Option Con
 | 26 => some con26
 | 31 => some con31n
 | _ => none
noncomputable def con19 : Con := fun | [.int .i64 n] => some (2 ≤ n ∧ n ≤ 64, .tup [.dat 24 (.list (p2S n.toNat (evM n.toNat) (evM n.toNat - 1))), .int .i64 0]) | _ => none
noncomputable def prAnn : FuncId → Nat → Option Ann
 | 16, 6 => some { τ := Nat, slots := fun _ _ x => [(23, .int .i64 x)], blks := fun S _ x => [(slSB S 5, .own S.nx 33 25 (p2S (slI S 0).toNat (slI S 4).toNat x ++ List.replicate ((slI S 4).toNat - 1 - x) .nil))], inv := fun S _ x => x ≤ (slI S 4).toNat - 1, meas := fun S _ x => (slI S 4).toNat - 1 - x }
 | 16, 12 => some { τ := Nat, slots := fun _ _ i => [(7, .int .i64 i)], blks := fun S _ i => [(slSB S 5, .own S.nx 33 25 ((slRow S 5).set (slI S 6).toNat (.list ((nthD (slRow S 5) (slI S 6).toNat).asList ++ p2R (slI S 4).toNat (slI S 6).toNat i))))], inv := fun S _ i => 1 ≤ i ∧ i ≤ (slI S 4).toNat / 2, meas := fun S _ i => (slI S 4).toNat / 2 - i }
 | _, _ => none
structure plQ (q : Int) : Prop where
 out : ∃ Q : Nat, Q ∈ plL ∧ q = Q
noncomputable def con17p : Con := fun | [.int .i64 q] => some (plQ q, .tup [.dat 24 (.list (plS q.toNat)), .int .i64 0]) | _ => none
noncomputable def con39r : Con := fun | [.int .i64 a, .int .i64 n] => some ((0 ≤ a ∧ a ≤ 64) ∧ 1 ≤ n ∧ n ≤ 64, .dat 25 (.list ((List.range n.toNat).map fun i => .int (a + (i : Nat))))) | _ => none
noncomputable def rowN (a : Int) (n x : Nat) : List D := (List.range x).map (fun i => .int (a + (i : Nat))) ++ List.replicate (n - x) (.int 0)
noncomputable def plAnn : FuncId → Nat → Option Ann
 | 39, 3 => some { τ := Nat, slots := fun _ _ x => [(11, .int .i64 x)], blks := fun S _ x => [(slSB S 5, .arr 3 (rowN (slI S 0) (slI S 1).toNat x))], inv := fun S _ x => x ≤ (slI S 1).toNat, meas := fun S _ x => (slI S 1).toNat - x }
 | 17, 6 => some { hs := 2, τ := Nat, slots := fun S i x => match i with | 0 => [(18, .int .i64 x), (6, .val (.slice none 0 0))] | _ => [(18, .int .i64 x), (6, .slc (Nat.add S.nx 300) (.lit 0) (.sym x) none)],
                    blks := fun S i x => match i with | 0 => [] | _ => [(Nat.add S.nx 300, .arr 25 (rwE (slI S 0).toNat x))], inv := fun S i x => match i with | 0 => x = 0 | _ => 0 < x ∧ x ≤ (slI S 0).toNat, meas := fun S _ x => (slI S 0).toNat - x }
 | 38, 6 => some { τ := Nat, slots := fun _ _ x => [(38, .int .i64 x)], blks := fun S _ x => [(slSB S 8, .own S.nx 33 25 (netS (slI S 1).toNat (slI S 0).toNat x ++ List.replicate ((slI S 1).toNat - x) .nil))], inv := fun S _ x => x ≤ (slI S 1).toNat, meas := fun S _ x => (slI S 1).toNat - x }
 | 38, 9 => some { τ := Nat, slots := fun _ _ x => [(42, .int .i64 x)], blks := fun S _ x => [(slSB S 8, .own S.nx 33 25 (netI (slRow S 8) (slI S 1).toNat (slI S 0).toNat (slI S 9).toNat x))], inv := fun S _ x => x ≤ (slI S 1).toNat, meas := fun S _ x => (slI S 1).toNat - x }
 | 38, 13 => some { hs := 2, τ := Nat, slots := fun S i x => match i with | 0 => [(46, .int .i64 x), (11, .val (.slice none 0 0))] | _ => [(46, .int .i64 x), (11, .slc (Nat.add S.nx 300) (.lit 0) (.sym x) none)], blks := fun S i x => match i with | 0 => [] | _ => [(Nat.add S.nx 300, .arr 3 (netT (slI S 1).toNat (slI S 9).toNat (slI S 10).toNat x))], inv := fun S i x => match i with | 0 => x = 0 | _ => 0 < x ∧ x ≤ (slI S 0).toNat, meas := fun S _ x => (slI S 0).toNat - x }
 | _, _ => none
noncomputable def pl1 : FuncId → Option Con
 | 56 => some con9
 | 65 => some (extP con10a)
 | 58 => some con11a
 | 39 => some con39r
 | _ => none
def kkG (g j : Nat) : Nat := if g = 14 then 14 else g / 7 * 7 + (g + j) % 7
def kkF : List (List Nat) := [[14, 0, 7], [1, 6, 12], [2, 5, 10], [3, 4, 13], [8, 9, 11]]
def kkT (j : Nat) (t : List Nat) : D := .list (t.map fun g => .int (kkG g j : Nat))
def kkE (j x : Nat) : List D := (kkF.take x).map (kkT j)
def kkS (x : Nat) : List D := (List.range x).map fun j => .list (kkE j 5)
def kkI (l : List D) (j : Nat) : Nat → List D
 | 0 => l
 | x + 1 => l.set j (.list (kkE j (x + 1)))
noncomputable def con18k : Con := fun | [] => some (True, .dat 24 (.list (kkS 7))) | _ => none
noncomputable def kkAnn : FuncId → Nat → Option Ann
 | 18, 4 => some { τ := Nat × List D, slots := fun _ _ x => [(18, .int .i64 x.1)], blks := fun S _ x => [(slSB S 2, .own S.nx 33 25 x.2)], inv := fun _ _ x => x.1 ≤ 7 ∧ x.2 = kkS x.1 ++ List.replicate (7 - x.1) .nil, meas := fun _ _ x => 7 - x.1 }
 | 18, 7 => some { hs := 6, τ := List D, slots := fun _ i _ => match i with | 0 => [(22, .val (.int .i64 0))] | 1 => [(22, .val (.int .i64 1))] | 2 => [(22, .val (.int .i64 2))] | 3 => [(22, .val (.int .i64 3))] | 4 => [(22, .val (.int .i64 4))] | _ => [(22, .val (.int .i64 5))],
                   blks := fun S _ x => [(slSB S 2, .own S.nx 33 25 x)], inv := fun S i x => x = kkI (slRow S 2) (slI S 3).toNat i, meas := fun _ i _ => 5 - i }
 | _, _ => none
noncomputable def ctxs (con : FuncId → Option Con) (ann : FuncId → Nat → Option Ann) : Ctx := { ctx con ann with sm := fun t => Nat.beq t 70 || Nat.beq t 71 }
instance (con : FuncId → Option Con) (ann : FuncId → Nat → Option Ann) : Nonempty (NoF (ctxs con ann)) := ⟨⟨fun _ _ h => by cases h⟩⟩
end Go.Ev

end

section
open Go.Proofs
namespace Go.Ev
set_option maxRecDepth 100000
set_option maxHeartbeats 4000000
def rdC (m : Nat) (q : List D) (x y : Nat) (k : Prop) : Prop := (0 : Int) ≤ (↑x : Int) ∧ (↑x : Int) < (↑m : Int) ∧ x < q.length ∧ (nthD q x = D.nil → False) ∧ (∀ (r : List D), nthD q x = D.list r → (0 : Int) ≤ (↑y : Int) ∧ (↑y : Int) < (↑r.length : Int) ∧ x < q.length ∧ (↑y : Int) < (↑(nthD q x).len : Int) ∧ x < q.length ∧ y < (nthD q x).len ∧ k) ∧ ∀ (n_1 : Int), nthD q x = D.int n_1 → False
def pZ (n : Int) (x : Nat) (s : D) (y : Nat) : List D := pqS (zrL n.toNat x) s y
theorem vc26 : ∀ (n : Int) (s : D), symFun (ctx mt2 mtAnn) 8 (26 : FuncId) [V.int IntKind.i64 n, V.dat (24 : TypeId) s] (V.dat (25 : TypeId) (mtL n s)) = (bigP s ∧ (((chk n D.nil s).snd = 0 → False) → D.nil = mtL n s) ∧
((((chk n D.nil s).snd = 0 → False) → False) → 0 ≤ n ∧ n ≤ n ∧ n ≤ 16777216 ∧ 24 * n.toNat ≤ 281474976710656 ∧ (∃ (x : Nat), x.le n.toNat ∧ (0 = (x : Int) ∧ True) ∧ (List.replicate n.toNat D.nil = zrL n.toNat x ∧ allNil
(List.replicate n.toNat D.nil)) ∧ True) ∧ ∀ (x : Nat), x.le n.toNat → n.toNat - x < LIM ∧ ((x : Int) < n → 0 ≤ n ∧ n ≤ n ∧ n ≤ 16777216 ∧ 8 * n.toNat ≤ 281474976710656 ∧ 0 ≤ (x : Int) ∧ (x : Int) < (n.toNat : Int) ∧ x <
(zrL n.toNat x).length ∧ True ∧ (0 : Nat) = 0 ∧ n.toNat = (List.replicate n.toNat (D.int 0)).length ∧ n.toNat = n.toNat ∧ fits64 ((x : Int) + 1) ∧ ∃ (y : Nat), y.le n.toNat ∧ n.toNat - y < n.toNat - x ∧ ((x : Int) + 1 =
(y : Int) ∧ True) ∧ (zrL n.toNat x).set x (D.list (List.replicate n.toNat (D.int 0))) = zrL n.toNat y ∧ True) ∧ (((x : Int) < n → False) → (∃ (x_1 : Nat), x_1.le s.len ∧ (0 = (x_1 : Int) ∧ True) ∧ zrL n.toNat x = pZ n x
s x_1 ∧ True) ∧ ∀ (x_1 : Nat), x_1.le s.len → s.len - x_1 < LIM ∧ ((x_1 : Int) < (s.len : Int) → 0 ≤ (x_1 : Int) ∧ (x_1 : Int) < (s.len : Int) ∧ (∃ (x_2 : Nat), x_2.le (el s x_1).len ∧ (0 = (x_2 : Int) ∧ True) ∧ pZ n x s
x_1 = pqE (pZ n x s x_1) (el s x_1) x_2 ∧ True) ∧ ∀ (x_2 : Nat), x_2.le (el s x_1).len → (el s x_1).len - x_2 < LIM ∧ ((x_2 : Int) < (↑(el s x_1).len : Int) → 0 ≤ (x_2 : Int) ∧ (x_2 : Int) < (↑(el s x_1).len : Int) ∧ (∃
(x_3 : Nat), x_3.le (el (el s x_1) x_2).len ∧ (0 = (x_3 : Int) ∧ True) ∧ pqE (pZ n x s x_1) (el s x_1) x_2 = pqN (pqE (pZ n x s x_1) (el s x_1) x_2) (el (el s x_1) x_2) x_3 ∧ True) ∧ ∀ (x_3 : Nat), x_3.le (el (el s x_1)
x_2).len → (el (el s x_1) x_2).len - x_3 < LIM ∧ ((x_3 : Int) < (↑(el (el s x_1) x_2).len : Int) → 0 ≤ (x_3 : Int) ∧ (x_3 : Int) < (↑(el (el s x_1) x_2).len : Int) ∧ (0 : Int) ≤ 0 ∧ 0 ≤ (x_3 : Int) ∧ (x_3 : Int) ≤ (↑(el
(el s x_1) x_2).len : Int) ∧ (∃ (x_4 : Nat), x_4.le x_3 ∧ (0 = (x_4 : Int) ∧ True) ∧ pqN (pqE (pZ n x s x_1) (el s x_1) x_2) (el (el s x_1) x_2) x_3 = (pqI (pqN (pqE (pZ n x s x_1) (el s x_1) x_2) (el (el s x_1) x_2)
x_3) (el (el s x_1) x_2) x_3 x_4) ∧ True) ∧ ∀ (x_4 : Nat), x_4.le x_3 → x_3 - x_4 < LIM ∧ ((x_4 : Int) < (↑((el (el s x_1) x_2).sub 0 x_3).len : Int) → 0 ≤ (x_4 : Int) ∧ (x_4 : Int) < (↑((el (el s x_1) x_2).sub 0
x_3).len : Int) ∧ wrC n.toNat (pqI (pqN (pqE (pZ n x s x_1) (el s x_1) x_2) (el (el s x_1) x_2) x_3) (el (el s x_1) x_2) x_3 x_4) (nAt ((el (el s x_1) x_2).sub 0 x_3) x_4) (nAt (el (el s x_1) x_2) x_3) (wrC n.toNat (incZ
(pqI (pqN (pqE (pZ n x s x_1) (el s x_1) x_2) (el (el s x_1) x_2) x_3) (el (el s x_1) x_2) x_3 x_4) (nAt ((el (el s x_1) x_2).sub 0 x_3) x_4) (nAt (el (el s x_1) x_2) x_3)) (nAt (el (el s x_1) x_2) x_3) (nAt ((el (el s
x_1) x_2).sub 0 x_3) x_4) (fits64 ((x_4 : Int) + 1) ∧ ∃ (y : Nat), y.le x_3 ∧ x_3 - y < x_3 - x_4 ∧ ((x_4 : Int) + 1 = (y : Int) ∧ True) ∧ (incZ (incZ (pqI (pqN (pqE (pZ n x s x_1) (el s x_1) x_2) (el (el s x_1) x_2)
x_3) (el (el s x_1) x_2) x_3 x_4) (nAt ((el (el s x_1) x_2).sub 0 x_3) x_4) (nAt (el (el s x_1) x_2) x_3)) (nAt (el (el s x_1) x_2) x_3) (nAt ((el (el s x_1) x_2).sub 0 x_3) x_4)) = pqI (pqN (pqE (pZ n x s x_1) (el s
x_1) x_2) (el (el s x_1) x_2) x_3) (el (el s x_1) x_2) x_3 y ∧ True))) ∧ (((x_4 : Int) < (↑((el (el s x_1) x_2).sub 0 x_3).len : Int) → False) → fits64 ((x_3 : Int) + 1) ∧ ∃ (y : Nat), y.le (el (el s x_1) x_2).len ∧ (el
(el s x_1) x_2).len - y < (el (el s x_1) x_2).len - x_3 ∧ ((x_3 : Int) + 1 = (y : Int) ∧ True) ∧ (pqI (pqN (pqE (pZ n x s x_1) (el s x_1) x_2) (el (el s x_1) x_2) x_3) (el (el s x_1) x_2) x_3 x_4) = pqN (pqE (pZ n x s
x_1) (el s x_1) x_2) (el (el s x_1) x_2) y ∧ True)) ∧ (((x_3 : Int) < (↑(el (el s x_1) x_2).len : Int) → False) → fits64 ((x_2 : Int) + 1) ∧ ∃ (y : Nat), y.le (el s x_1).len ∧ (el s x_1).len - y < (el s x_1).len - x_2 ∧
((x_2 : Int) + 1 = (y : Int) ∧ True) ∧ pqN (pqE (pZ n x s x_1) (el s x_1) x_2) (el (el s x_1) x_2) x_3 = pqE (pZ n x s x_1) (el s x_1) y ∧ True)) ∧ (((x_2 : Int) < (↑(el s x_1).len : Int) → False) → fits64 ((x_1 : Int) +
1) ∧ ∃ (y : Nat), y.le s.len ∧ s.len - y < s.len - x_1 ∧ ((x_1 : Int) + 1 = (y : Int) ∧ True) ∧ pqE (pZ n x s x_1) (el s x_1) x_2 = pqS (zrL n.toNat x) s y ∧ True)) ∧ (((x_1 : Int) < (s.len : Int) → False) → ((∃ (x_2 :
Nat), (x_2 ≤ 1 ∧ x_2 ≤ (pZ n x s x_1).length) ∧ (0 = (x_2 : Int) ∧ True) ∧ (True ∧ True) ∧ True) ∨ ∃ (x_2 : Nat), (1 < x_2 ∧ x_2 ≤ (pZ n x s x_1).length) ∧ (0 = (x_2 : Int) ∧ True) ∧ (False ∧ True) ∧ False ∧ True) ∧ (∀
(x_2 : Nat), x_2 ≤ 1 ∧ x_2 ≤ (pZ n x s x_1).length → (pZ n x s x_1).length - x_2 < LIM ∧ ((x_2 : Int) < (n.toNat : Int) → ((∃ (x : Nat), (x = 0 ∧ x_2 ≤ 1) ∧ (0 = (x : Int) ∧ True) ∧ (True ∧ True) ∧ True) ∨ ∃ (x : Nat),
((1 < x_2 ∨ 0 < x) ∧ x ≤ x_2) ∧ (0 = (x : Int) ∧ True) ∧ (False ∧ True) ∧ False ∧ True) ∧ (∀ (x_3 : Nat), x_3 = 0 ∧ x_2 ≤ 1 → x_2 - x_3 < LIM ∧ ((x_3 : Int) < (x_2 : Int) → rdC n.toNat (pZ n x s x_1) x_2 x_3 (0 + 1 ≤
[D.int (nAt (nthD (pZ n x s x_1) x_2) x_3)].length ∧ (1 : Nat) ≤ 16777216 ∧ fits64 ((x_3 : Int) + 1) ∧ ((∃ (y : Nat), (y = 0 ∧ x_2 ≤ 1) ∧ x_2 - y < x_2 - x_3 ∧ ((x_3 : Int) + 1 = (y : Int) ∧ True) ∧ (False ∧ True) ∧
True) ∨ ∃ (y : Nat), ((1 < x_2 ∨ 0 < y) ∧ y ≤ x_2) ∧ x_2 - y < x_2 - x_3 ∧ ((x_3 : Int) + 1 = (y : Int) ∧ True) ∧ (((0 : Nat) = 0 ∧ 1 = (hfL (pZ n x s x_1) x_2 ++ hfR (pZ n x s x_1) x_2 y).length ∧ True) ∧ True) ∧
List.take 1 [D.int (nAt (nthD (pZ n x s x_1) x_2) x_3)] = hfL (pZ n x s x_1) x_2 ++ hfR (pZ n x s x_1) x_2 y ∧ True))) ∧ (((x_3 : Int) < (x_2 : Int) → False) → fits64 ((x_2 : Int) + 1) ∧ ((∃ (y : Nat), (y ≤ 1 ∧ y ≤ (pZ n
x s x_1).length) ∧ (pZ n x s x_1).length - y < (pZ n x s x_1).length - x_2 ∧ ((x_2 : Int) + 1 = (y : Int) ∧ True) ∧ (True ∧ True) ∧ True) ∨ ∃ (y : Nat), (1 < y ∧ y ≤ (pZ n x s x_1).length) ∧ (pZ n x s x_1).length - y <
(pZ n x s x_1).length - x_2 ∧ ((x_2 : Int) + 1 = (y : Int) ∧ True) ∧ (False ∧ True) ∧ False ∧ True))) ∧ ∀ (x_3 : Nat), (1 < x_2 ∨ 0 < x_3) ∧ x_3 ≤ x_2 → x_2 - x_3 < LIM ∧ ((x_3 : Int) < (x_2 : Int) → rdC n.toNat (pZ n x
s x_1) x_2 x_3 (0 + 1 ≤ [D.int (nAt (nthD (pZ n x s x_1) x_2) x_3)].length ∧ 0 + (hfL (pZ n x s x_1) x_2 ++ hfR (pZ n x s x_1) x_2 x_3).length ≤ (hfL (pZ n x s x_1) x_2 ++ hfR (pZ n x s x_1) x_2 x_3).length ∧ (hfL (pZ n
x s x_1) x_2 ++ hfR (pZ n x s x_1) x_2 x_3).length + 1 ≤ 16777216 ∧ fits64 ((x_3 : Int) + 1) ∧ ((∃ (y : Nat), (y = 0 ∧ x_2 ≤ 1) ∧ x_2 - y < x_2 - x_3 ∧ ((x_3 : Int) + 1 = (y : Int) ∧ True) ∧ (False ∧ True) ∧ True) ∨ ∃ (y
: Nat), ((1 < x_2 ∨ 0 < y) ∧ y ≤ x_2) ∧ x_2 - y < x_2 - x_3 ∧ ((x_3 : Int) + 1 = (y : Int) ∧ True) ∧ (((0 : Nat) = 0 ∧ (hfL (pZ n x s x_1) x_2 ++ hfR (pZ n x s x_1) x_2 x_3).length + 1 = (hfL (pZ n x s x_1) x_2 ++ hfR
(pZ n x s x_1) x_2 y).length ∧ True) ∧ True) ∧ List.take (hfL (pZ n x s x_1) x_2 ++ hfR (pZ n x s x_1) x_2 x_3).length (hfL (pZ n x s x_1) x_2 ++ hfR (pZ n x s x_1) x_2 x_3) ++ List.take 1 [D.int (nAt (nthD (pZ n x s
x_1) x_2) x_3)] = hfL (pZ n x s x_1) x_2 ++ hfR (pZ n x s x_1) x_2 y ∧ True))) ∧ (((x_3 : Int) < (x_2 : Int) → False) → fits64 ((x_2 : Int) + 1) ∧ ((∃ (y : Nat), (y ≤ 1 ∧ y ≤ (pZ n x s x_1).length) ∧ (pZ n x s
x_1).length - y < (pZ n x s x_1).length - x_2 ∧ ((x_2 : Int) + 1 = (y : Int) ∧ True) ∧ (False ∧ True) ∧ True) ∨ ∃ (y : Nat), (1 < y ∧ y ≤ (pZ n x s x_1).length) ∧ (pZ n x s x_1).length - y < (pZ n x s x_1).length - x_2 ∧
((x_2 : Int) + 1 = (y : Int) ∧ True) ∧ (((0 : Nat) = 0 ∧ (hfL (pZ n x s x_1) x_2 ++ hfR (pZ n x s x_1) x_2 x_3).length = (hfL (pZ n x s x_1) y).length ∧ True) ∧ True) ∧ hfL (pZ n x s x_1) x_2 ++ hfR (pZ n x s x_1) x_2
x_3 = hfL (pZ n x s x_1) y ∧ True))) ∧ (((x_2 : Int) < (n.toNat : Int) → False) → D.nil = mtL n s)) ∧ ∀ (x_2 : Nat), 1 < x_2 ∧ x_2 ≤ (pZ n x s x_1).length → (pZ n x s x_1).length - x_2 < LIM ∧ ((x_2 : Int) < (n.toNat :
Int) → ((∃ (x : Nat), (x = 0 ∧ x_2 ≤ 1) ∧ (0 = (x : Int) ∧ True) ∧ (False ∧ True) ∧ True) ∨ ∃ (x_3 : Nat), ((1 < x_2 ∨ 0 < x_3) ∧ x_3 ≤ x_2) ∧ (0 = (x_3 : Int) ∧ True) ∧ (((0 : Nat) = 0 ∧ (hfL (pZ n x s x_1) x_2).length
= (hfL (pZ n x s x_1) x_2 ++ hfR (pZ n x s x_1) x_2 x_3).length ∧ True) ∧ True) ∧ hfL (pZ n x s x_1) x_2 = hfL (pZ n x s x_1) x_2 ++ hfR (pZ n x s x_1) x_2 x_3 ∧ True) ∧ (∀ (x_3 : Nat), x_3 = 0 ∧ x_2 ≤ 1 → x_2 - x_3 <
LIM ∧ ((x_3 : Int) < (x_2 : Int) → rdC n.toNat (pZ n x s x_1) x_2 x_3 (0 + 1 ≤ [D.int (nAt (nthD (pZ n x s x_1) x_2) x_3)].length ∧ (1 : Nat) ≤ 16777216 ∧ fits64 ((x_3 : Int) + 1) ∧ ((∃ (y : Nat), (y = 0 ∧ x_2 ≤ 1) ∧ x_2
- y < x_2 - x_3 ∧ ((x_3 : Int) + 1 = (y : Int) ∧ True) ∧ (False ∧ True) ∧ True) ∨ ∃ (y : Nat), ((1 < x_2 ∨ 0 < y) ∧ y ≤ x_2) ∧ x_2 - y < x_2 - x_3 ∧ ((x_3 : Int) + 1 = (y : Int) ∧ True) ∧ (((0 : Nat) = 0 ∧ 1 = (hfL (pZ n
x s x_1) x_2 ++ hfR (pZ n x s x_1) x_2 y).length ∧ True) ∧ True) ∧ List.take 1 [D.int (nAt (nthD (pZ n x s x_1) x_2) x_3)] = hfL (pZ n x s x_1) x_2 ++ hfR (pZ n x s x_1) x_2 y ∧ True))) ∧ (((x_3 : Int) < (x_2 : Int) →
False) → fits64 ((x_2 : Int) + 1) ∧ ((∃ (y : Nat), (y ≤ 1 ∧ y ≤ (pZ n x s x_1).length) ∧ (pZ n x s x_1).length - y < (pZ n x s x_1).length - x_2 ∧ ((x_2 : Int) + 1 = (y : Int) ∧ True) ∧ (True ∧ True) ∧ True) ∨ ∃ (y :
Nat), (1 < y ∧ y ≤ (pZ n x s x_1).length) ∧ (pZ n x s x_1).length - y < (pZ n x s x_1).length - x_2 ∧ ((x_2 : Int) + 1 = (y : Int) ∧ True) ∧ (False ∧ True) ∧ hfL (pZ n x s x_1) x_2 = hfL (pZ n x s x_1) y ∧ True))) ∧ ∀
(x_3 : Nat), (1 < x_2 ∨ 0 < x_3) ∧ x_3 ≤ x_2 → x_2 - x_3 < LIM ∧ ((x_3 : Int) < (x_2 : Int) → rdC n.toNat (pZ n x s x_1) x_2 x_3 (0 + 1 ≤ [D.int (nAt (nthD (pZ n x s x_1) x_2) x_3)].length ∧ 0 + (hfL (pZ n x s x_1) x_2
++ hfR (pZ n x s x_1) x_2 x_3).length ≤ (hfL (pZ n x s x_1) x_2 ++ hfR (pZ n x s x_1) x_2 x_3).length ∧ (hfL (pZ n x s x_1) x_2 ++ hfR (pZ n x s x_1) x_2 x_3).length + 1 ≤ 16777216 ∧ fits64 ((x_3 : Int) + 1) ∧ ((∃ (y :
Nat), (y = 0 ∧ x_2 ≤ 1) ∧ x_2 - y < x_2 - x_3 ∧ False) ∨ ∃ (y : Nat), ((1 < x_2 ∨ 0 < y) ∧ y ≤ x_2) ∧ x_2 - y < x_2 - x_3 ∧ ((x_3 : Int) + 1 = (y : Int) ∧ True) ∧ (((0 : Nat) = 0 ∧ (hfL (pZ n x s x_1) x_2 ++ hfR (pZ n x
s x_1) x_2 x_3).length + 1 = (hfL (pZ n x s x_1) x_2 ++ hfR (pZ n x s x_1) x_2 y).length ∧ True) ∧ True) ∧ List.take (hfL (pZ n x s x_1) x_2 ++ hfR (pZ n x s x_1) x_2 x_3).length (hfL (pZ n x s x_1) x_2 ++ hfR (pZ n x s
x_1) x_2 x_3) ++ List.take 1 [D.int (nAt (nthD (pZ n x s x_1) x_2) x_3)] = hfL (pZ n x s x_1) x_2 ++ hfR (pZ n x s x_1) x_2 y ∧ True))) ∧ (((x_3 : Int) < (x_2 : Int) → False) → fits64 ((x_2 : Int) + 1) ∧ ((∃ (y : Nat),
(y ≤ 1 ∧ y ≤ (pZ n x s x_1).length) ∧ (pZ n x s x_1).length - y < (pZ n x s x_1).length - x_2 ∧ ((x_2 : Int) + 1 = (y : Int) ∧ True) ∧ (False ∧ True) ∧ True) ∨ ∃ (y : Nat), (1 < y ∧ y ≤ (pZ n x s x_1).length) ∧ (pZ n x s
x_1).length - y < (pZ n x s x_1).length - x_2 ∧ ((x_2 : Int) + 1 = (y : Int) ∧ True) ∧ (((0 : Nat) = 0 ∧ (hfL (pZ n x s x_1) x_2 ++ hfR (pZ n x s x_1) x_2 x_3).length = (hfL (pZ n x s x_1) y).length ∧ True) ∧ True) ∧ hfL
(pZ n x s x_1) x_2 ++ hfR (pZ n x s x_1) x_2 x_3 = hfL (pZ n x s x_1) y ∧ True))) ∧ (((x_2 : Int) < (n.toNat : Int) → False) → 0 + (hfL (pZ n x s x_1) x_2).length ≤ (hfL (pZ n x s x_1) x_2).length ∧ D.list (List.take
(hfL (pZ n x s x_1) x_2).length (hfL (pZ n x s x_1) x_2)) = mtL n s))))) := by intros; kernel_rfl
theorem hfL_len (q : List D) : ∀ x, x ≤ 64 → (hfL q x).length ≤ 64 * x
 | 0, _ => Nat.le_refl _
 | x + 1, h => by
  have ih := hfL_len q x (by omega)
  show (hfL q x ++ hfR q x x).length ≤ _
  rw [List.length_append]
  unfold hfR
  rw [List.length_map, List.length_range]; omega
theorem hfR_len (q : List D) (x y : Nat) : (hfR q x y).length = y := by unfold hfR; rw [List.length_map, List.length_range]
theorem hfR_succ (q : List D) (x y : Nat) : hfR q x (y + 1) = hfR q x y ++ [.int (nAt (nthD q x) y)] := by unfold hfR; rw [List.range_succ, List.map_append]; rfl
theorem hf_next (q : List D) (x y : Nat) : List.take (hfL q x ++ hfR q x y).length (hfL q x ++ hfR q x y) ++ List.take 1 [D.int (nAt (nthD q x) y)] = hfL q x ++ hfR q x (y + 1) := by
 rw [List.take_of_length_le (Nat.le_refl _), hfR_succ, List.append_assoc]; rfl
theorem hf_len1 (q : List D) (x y : Nat) : (hfL q x ++ hfR q x y).length + 1 = (hfL q x ++ hfR q x (y + 1)).length := by
 rw [hfR_succ, ← List.append_assoc, List.length_append (bs := [_])]; rfl
theorem hf_zero (q : List D) : ∀ x, x ≤ 1 → hfL q x = []
 | 0, _ => rfl
 | 1, _ => rfl
theorem hf_pos (q : List D) {x : Nat} (h : 1 < x) : ∃ a l, hfL q x = a :: l := by
 have : 0 < (hfL q x).length := by
  obtain ⟨y, rfl⟩ : ∃ y, x = y + 1 := ⟨x - 1, by omega⟩
  show 0 < (hfL q y ++ hfR q y y).length
  rw [List.length_append, hfR_len]; omega
 cases he : hfL q x with
 | nil => rw [he] at this; simp at this
 | cons a l => exact ⟨a, l, rfl⟩
theorem rd_ok {m : Nat} {K : Int} {f : Nat → Nat → Int} {q : List D} {x y : Nat} {k : Prop} (h : sqF m K f q) (hx : x < m) (hy : y < m) (hk : k) : rdC m q x y k := by
 have hq := h.eq
 subst hq
 have hl := sqD_len m f
 have hrl : (D.list (rowF m f x)).len = m := rowF_len m f x
 unfold rdC
 rw [sqD_at f hx, hl, hrl]
 refine ⟨by omega, by omega, hx, (by intro h; cases h), fun r hr => ?_, fun _ h => by cases h⟩
 have hrm : r.length = m := by cases hr; exact rowF_len m f _
 rw [hrm]
 exact ⟨by omega, by omega, hx, by omega, hx, hy, hk⟩
theorem s26 (n : Int) (s : D) (h : goodS n s) : symFun (ctx mt2 mtAnn) 8 26 [.int .i64 n, .dat 24 s] (.dat 25 (mtL n s)) := by
 rw [vc26]
 unfold pZ
 unfold mtL
 have hn := h.n1
 have hb := h.big.out.1
 have hz := zr_sq n.toNat
 refine ⟨h.big, fun hne => (hne (by rw [h.chk])).elim, fun _ => ⟨by omega, Int.le_refl _, by omega, by omega, ⟨0, Nat.zero_le _, ⟨rfl, trivial⟩, ⟨zr_zero _, allNil_rep _⟩, trivial⟩, fun x hx => ?_⟩⟩
 have hx : x ≤ n.toNat := hx
 refine ⟨limS (by omega), fun hlt => ⟨by omega, Int.le_refl _, by omega, by omega, by omega, by omega, by rw [zr_len _ _ hx]; omega, trivial, rfl, by rw [List.length_replicate], rfl, ⟨by omega, by omega⟩, x + 1, by show x + 1 ≤ _; omega, by omega, ⟨by omega, trivial⟩, zr_next (by omega), trivial⟩, fun hge => ?_⟩
 have hge := not_of hge
 have ex : x = n.toNat := by omega
 subst ex
 refine ⟨⟨0, Nat.zero_le _, ⟨rfl, trivial⟩, rfl, trivial⟩, fun i hi => ?_⟩
 have hi : i ≤ s.len := hi
 have hSq := pqS_sq h hz i hi
 refine ⟨limS (by omega), fun hlt2 => ?_, fun hge2 => ?_⟩
 ·have hi2 : i < s.len := by omega
  have hev := (h.big.out.2 i hi2).out.1
  refine ⟨by omega, hlt2, ⟨0, Nat.zero_le _, ⟨rfl, trivial⟩, rfl, trivial⟩, fun j hj => ?_⟩
  have hj : j ≤ (el s i).len := hj
  have hEq := pqE_sq (L := 1000) hSq (fun j hj => good_tabs h hi2 hj) j hj
  refine ⟨limS (by omega), fun hlt3 => ?_, fun hge3 => ?_⟩
  ·have hj2 : j < (el s i).len := by omega
   obtain ⟨htl, htr⟩ := good_tabs h hi2 hj2
   refine ⟨by omega, hlt3, ⟨0, Nat.zero_le _, ⟨rfl, trivial⟩, rfl, trivial⟩, fun z hz2 => ?_⟩
   have hz2 : z ≤ (el (el s i) j).len := hz2
   have hNq := pqN_sq (L := 1000) hEq htr htl z hz2
   refine ⟨limS (by omega), fun hlt4 => ?_, fun hge4 => ?_⟩
   ·have hz3 : z < (el (el s i) j).len := by omega
    have hsl := sub_len (t := el (el s i) j) hz2
    refine ⟨by omega, hlt4, Int.le_refl _, by omega, by omega, ⟨0, Nat.zero_le _, ⟨rfl, trivial⟩, rfl, trivial⟩, fun w hw => ?_⟩
    have hw : w ≤ z := hw
    have hIq := pqI_sq hNq htr hz3 w hw
    refine ⟨limS (by omega), fun hlt5 => ?_, fun hge5 => ?_⟩
    ·have hw2 : w < z := by omega
     have ea := sub_at (t := el (el s i) j) hw2
     have r1 := htr w (by omega)
     have r2 := htr z hz3
     rw [ea]
     exact ⟨by omega, hlt5, wr_ok hIq (by omega) r1 r2 (wr_ok (incZ_sq hIq r1 r2) (by omega) r2 r1 ⟨⟨by omega, by omega⟩, w + 1, by show w + 1 ≤ _; omega, by omega, ⟨by omega, trivial⟩, rfl, trivial⟩)⟩
    ·have hge5 := not_of hge5
     have ew : w = z := by omega
     subst ew
     exact ⟨⟨by omega, by omega⟩, w + 1, by show w + 1 ≤ _; omega, by omega, ⟨by omega, trivial⟩, rfl, trivial⟩
   ·have hge4 := not_of hge4
    have ez : z = (el (el s i) j).len := by omega
    subst ez
    exact ⟨⟨by omega, by omega⟩, j + 1, by show j + 1 ≤ _; omega, by omega, ⟨by omega, trivial⟩, rfl, trivial⟩
  ·have hge3 := not_of hge3
   have ej : j = (el s i).len := by omega
   subst ej
   exact ⟨⟨by omega, by omega⟩, i + 1, by show i + 1 ≤ _; omega, by omega, ⟨by omega, trivial⟩, rfl, trivial⟩
 ·have hge2 := not_of hge2
  have ei : i = s.len := by omega
  subst ei
  have hl : (pqS (zrL n.toNat n.toNat) s s.len).length = n.toNat := by rw [hSq.eq, sqD_len]
  generalize pqS (zrL n.toNat n.toNat) s s.len = q at hSq hl ⊢
  have hbd : ∀ x y, x < n.toNat → y ≤ x → (hfL q x ++ hfR q x y).length ≤ 5000 := fun x y hx hy => by
   have := hfL_len q x (by omega)
   rw [List.length_append, hfR_len]; omega
  rw [hl]
  refine ⟨.inl ⟨0, ⟨Nat.zero_le _, Nat.zero_le _⟩, ⟨rfl, trivial⟩, ⟨trivial, trivial⟩, trivial⟩, fun x ⟨hx1, hx2⟩ => ?_, fun x ⟨hx1, hx2⟩ => ?_⟩
  ·refine ⟨limS (by omega), fun hlt3 => ⟨.inl ⟨0, ⟨rfl, hx1⟩, ⟨rfl, trivial⟩, ⟨trivial, trivial⟩, trivial⟩, fun y ⟨hy1, _⟩ => ?_, fun y ⟨hy1, hy2⟩ => ?_⟩, fun hge3 => ?_⟩
   ·subst hy1
    refine ⟨limS (by omega), fun hlt4 => rd_ok hSq (by omega) (by omega) ⟨Nat.le_refl _, by decide, ⟨by decide, by decide⟩, .inr ⟨1, ⟨.inr (by omega), by omega⟩, by omega, ⟨rfl, trivial⟩, ⟨⟨rfl, ?_, trivial⟩, trivial⟩, ?_, trivial⟩⟩, fun hge4 => ⟨⟨by omega, by omega⟩, .inl ⟨x + 1, ⟨by have := not_of hge4; omega, by omega⟩, by omega, ⟨by omega, trivial⟩, ⟨trivial, trivial⟩, trivial⟩⟩⟩
    ·rw [hf_zero q x hx1]; rfl
    ·rw [hf_zero q x hx1]; rfl
   ·have hb5 := hbd x y (by omega) hy2
    refine ⟨limS (by omega), fun hlt4 => rd_ok hSq (by omega) (by omega) ⟨Nat.le_refl _, by omega, by omega, ⟨by omega, by omega⟩, .inr ⟨y + 1, ⟨.inr (by omega), by omega⟩, by omega, ⟨by omega, trivial⟩, ⟨⟨rfl, hf_len1 _ _ _, trivial⟩, trivial⟩, hf_next _ _ _, trivial⟩⟩, fun hge4 => ?_⟩
    have hge4 := not_of hge4
    have ey : y = x := by omega
    subst ey
    exact ⟨⟨by omega, by omega⟩, .inr ⟨y + 1, ⟨by omega, by omega⟩, by omega, ⟨by omega, trivial⟩, ⟨⟨rfl, rfl, trivial⟩, trivial⟩, rfl, trivial⟩⟩
   ·have hge3 := not_of hge3
    have : x = n.toNat := by omega
    subst this
    rw [hf_zero q _ hx1]; rfl
  ·refine ⟨limS (by omega), fun hlt3 => ⟨.inr ⟨0, ⟨.inl hx1, Nat.zero_le _⟩, ⟨rfl, trivial⟩, ⟨⟨rfl, by unfold hfR; simp, trivial⟩, trivial⟩, by unfold hfR; simp, trivial⟩, fun y ⟨_, hy⟩ => by omega, fun y ⟨hy1, hy2⟩ => ?_⟩, fun hge3 => ?_⟩
   ·have hb5 := hbd x y (by omega) hy2
    refine ⟨limS (by omega), fun hlt4 => rd_ok hSq (by omega) (by omega) ⟨Nat.le_refl _, by omega, by omega, ⟨by omega, by omega⟩, .inr ⟨y + 1, ⟨.inl hx1, by omega⟩, by omega, ⟨by omega, trivial⟩, ⟨⟨rfl, hf_len1 _ _ _, trivial⟩, trivial⟩, hf_next _ _ _, trivial⟩⟩, fun hge4 => ?_⟩
    have hge4 := not_of hge4
    have ey : y = x := by omega
    subst ey
    exact ⟨⟨by omega, by omega⟩, .inr ⟨y + 1, ⟨by omega, by omega⟩, by omega, ⟨by omega, trivial⟩, ⟨⟨rfl, rfl, trivial⟩, trivial⟩, rfl, trivial⟩⟩
   ·have hge3 := not_of hge3
    have : x = n.toNat := by omega
    subst this
    obtain ⟨a, l, he⟩ := hf_pos q hx1
    rw [he]
    exact ⟨by omega, by rw [List.take_of_length_le (Nat.le_refl _)]; rfl⟩
theorem vc8m : ∀ (n : Int) (s : D), symFun (ctx mt3 mtAnn) 3 (8 : FuncId) [V.int IntKind.i64 n, V.dat (24 : TypeId) s] (V.int IntKind.i64 (mxZ (mtL n s) (mtL n s).len)) = (goodS n s ∧ (∃ (x : Nat), x.le (mtL n s).len ∧
(0 = (x : Int) ∧ 0 = mxZ (mtL n s) x ∧ True) ∧ True) ∧ ∀ (x : Nat), x.le (mtL n s).len → (mtL n s).len - x < LIM ∧ ((x : Int) < (↑(mtL n s).len : Int) → 0 ≤ (x : Int) ∧ (x : Int) < (↑(mtL n s).len : Int) ∧ fits64 ((x :
Int) + 1) ∧ ∃ (y : Nat), y.le (mtL n s).len ∧ (mtL n s).len - y < (mtL n s).len - x ∧ ((x : Int) + 1 = (y : Int) ∧ max (mxZ (mtL n s) x) (nAt (mtL n s) x) = mxZ (mtL n s) y ∧ True) ∧ True) ∧ (((x : Int) < (↑(mtL n s).len
: Int) → False) → mxZ (mtL n s) x = mxZ (mtL n s) (mtL n s).len)) := by intros; kernel_rfl
theorem vc31n : ∀ (l : D), symFun (ctx cc0 mtAnn) 3 (31 : FuncId) [V.dat (25 : TypeId) l] (V.int IntKind.i64 (mnZ l (l.len - 1))) = (((l.len : Int) < 1 → False) ∧ (((l.len : Int) < 1 → False) → (0 : Int) ≤ 0 ∧ 0 < (l.len
: Int) ∧ (∃ (x : Nat), (x + 1).le l.len ∧ (1 = (↑(x + 1) : Int) ∧ nAt l 0 = mnZ l x ∧ True) ∧ True) ∧ ∀ (x : Nat), (x + 1).le l.len → l.len - x < LIM ∧ ((↑(x + 1) : Int) < (l.len : Int) → 0 ≤ (↑(x + 1) : Int) ∧ (↑(x + 1)
: Int) < (l.len : Int) ∧ fits64 ((↑(x + 1) : Int) + 1) ∧ ∃ (y : Nat), (y + 1).le l.len ∧ l.len - y < l.len - x ∧ ((↑(x + 1) : Int) + 1 = (↑(y + 1) : Int) ∧ min (mnZ l x) (nAt l (x + 1)) = mnZ l y ∧ True) ∧ True) ∧ (((↑(x
+ 1) : Int) < (l.len : Int) → False) → mnZ l x = mnZ l (l.len - 1)))) := by intros; kernel_rfl
theorem vc27 : ∀ (n : Int) (l : D), symFun (ctx ce0 shAnn) 4 (27 : FuncId) [V.int IntKind.i64 n, V.dat (25 : TypeId) l] (V.tup [V.int IntKind.i64 (shM n l), V.int IntKind.i64 (shA n l), V.prop (okS n l)]) = ((1 ≤ n →
(((n ≤ 64 → False) → False) → ((1 ≤ n ∧ n ≤ 64) ∧ l.len ≤ 16777216) ∧ ((fitP n l → False) → 0 = shM n l ∧ 0 = shA n l ∧ (false = true ↔ okS n l) ∧ True) ∧ (((fitP n l → False) → False) → (∃ (x : Nat), x.le l.len ∧ (0 =
(x : Int) ∧ 0 = triS l x ∧ True) ∧ True) ∧ ∀ (x : Nat), x.le l.len → l.len - x < LIM ∧ ((x : Int) < (l.len : Int) → 0 ≤ (x : Int) ∧ (x : Int) < (l.len : Int) ∧ fits64 (nAt l x - 1) ∧ fits64 (nAt l x * (nAt l x - 1)) ∧
((2 : Int) = 0 → False) ∧ fits64 (triZ (nAt l x)) ∧ fits64 (triS l x + triZ (nAt l x)) ∧ fits64 ((x : Int) + 1) ∧ ∃ (y : Nat), y.le l.len ∧ l.len - y < l.len - x ∧ ((x : Int) + 1 = (y : Int) ∧ triS l x + triZ (nAt l x) =
triS l y ∧ True) ∧ True) ∧ (((x : Int) < (l.len : Int) → False) → fits64 (n - 1) ∧ fits64 (n * (n - 1)) ∧ ((2 : Int) = 0 → False) ∧ fits64 (triZ n) ∧ triS l x = shM n l ∧ triZ n = shA n l ∧ (true = true ↔ okS n l) ∧
True))) ∧ ((n ≤ 64 → False) → 0 = shM n l ∧ 0 = shA n l ∧ (false = true ↔ okS n l) ∧ True)) ∧ ((1 ≤ n → False) → 0 = shM n l ∧ 0 = shA n l ∧ (false = true ↔ okS n l) ∧ True)) := by intros; kernel_rfl
theorem vc10b : ∀ (n : Int) (l : D) (e : Int), symFun (ctx ce1 shAnn) 3 (10 : FuncId) [V.int IntKind.i64 n, V.dat (25 : TypeId) l, V.int IntKind.i64 e] (V.int IntKind.i64 (meZ n l e)) = (l.len ≤ 16777216 ∧ (((okS n l →
False) → False) → (e < 0 → 0 = meZ n l e) ∧ ((e < 0 → False) → (shM n l = 0 → 64 = meZ n l e) ∧ ((shM n l = 0 → False) → fits64 (min e 64 * shA n l) ∧ (shM n l = 0 → False) ∧ fits64 ((min e 64 * shA n l).tdiv (shM n l))
∧ min ((min e 64 * shA n l).tdiv (shM n l)) 64 = meZ n l e))) ∧ ((okS n l → False) → 0 = meZ n l e)) := by intros; kernel_rfl
structure sizP (l : D) : Prop where
 out : l.len ≤ 100 ∧ ∀ i, i < l.len → 1 ≤ nAt l i ∧ nAt l i ≤ 64
section
variable {n e : Int} {l : D}
theorem ok_siz {n : Int} {l : D} (h : okS n l) : l.len ≤ 64 ∧ ∀ i, i < l.len → 1 ≤ nAt l i ∧ nAt l i ≤ n := by
 have h1 := fit_sum h.fit (Nat.le_refl _)
 have h2 := h.n2
 refine ⟨by omega, fun i hi => ⟨h.fit.out.1 i hi, ?_⟩⟩
 have h3 := fit_le h.fit hi
 have h4 := fit_sum h.fit (Nat.le_of_lt hi)
 omega
theorem ok_sizP {n : Int} {l : D} (h : okS n l) : sizP l := ⟨by have := (ok_siz h).1; omega, fun i hi => ⟨((ok_siz h).2 i hi).1, by have := ((ok_siz h).2 i hi).2; have := h.n2; omega⟩⟩
theorem mul_rng {k : Int} (h1 : 1 ≤ k) (h2 : k ≤ 64) : 0 ≤ k * (k - 1) ∧ k * (k - 1) ≤ 4032 := ⟨Int.mul_nonneg (by omega) (by omega), Int.mul_le_mul h2 (by omega : k - 1 ≤ 63) (by omega) (by decide)⟩
theorem tri_rng {k : Int} (h1 : 1 ≤ k) (h2 : k ≤ 64) : 0 ≤ triZ k ∧ triZ k ≤ 2016 := by
 have := mul_rng h1 h2
 unfold triZ
 rw [Int.tdiv_eq_ediv_of_nonneg this.1]
 omega
theorem tri_pos {k : Int} (h1 : 2 ≤ k) : 1 ≤ triZ k := by
 have e0 : 2 * 1 ≤ k * (k - 1) := Int.mul_le_mul h1 (by omega) (by decide) (by omega)
 unfold triZ
 rw [Int.tdiv_eq_ediv_of_nonneg (by omega)]
 omega
theorem triS_rng {l : D} {m : Nat} (h : ∀ i, i < m → 1 ≤ nAt l i ∧ nAt l i ≤ 64) : ∀ x, x ≤ m → 0 ≤ triS l x ∧ triS l x ≤ 2016 * x
 | 0, _ => ⟨Int.le_refl _, Int.le_refl _⟩
 | x + 1, hx => by
  have h1 := triS_rng h x (by omega)
  have h2 := tri_rng (h x (by omega)).1 (h x (by omega)).2
  show 0 ≤ triS l x + triZ (nAt l x) ∧ triS l x + triZ (nAt l x) ≤ _
  omega
theorem triS_zero {l : D} {m : Nat} (h : ∀ i, i < m → nAt l i = 1) : ∀ x, x ≤ m → triS l x = 0
 | 0, _ => rfl
 | x + 1, hx => by
  show triS l x + triZ (nAt l x) = 0
  rw [triS_zero h x (by omega), h x (by omega)]; rfl
theorem ok_tri {n : Int} {l : D} (h : okS n l) : (0 ≤ triS l l.len ∧ triS l l.len ≤ 129024) ∧ (0 ≤ triZ n ∧ triZ n ≤ 2016) ∧ (triS l l.len ≠ 0 → 1 ≤ triZ n) := by
 have hs := ok_siz h
 have hz := ok_sizP h
 have h1 := triS_rng hz.out.2 l.len (Nat.le_refl _)
 refine ⟨by omega, tri_rng h.n1 h.n2, fun hne => ?_⟩
 refine tri_pos ?_
 by_cases hn : n ≤ 1
 ·exact absurd (triS_zero (fun i hi => by have := hs.2 i hi; omega) l.len (Nat.le_refl _)) hne
 ·omega
theorem s27 (n : Int) (l : D) (hl : l.len ≤ 16777216) : symFun (ctx ce0 shAnn) 4 27 [.int .i64 n, .dat 25 l] (.tup [.int .i64 (shM n l), .int .i64 (shA n l), .prop (okS n l)]) := by
 rw [vc27]
 have no : ¬ okS n l → 0 = shM n l ∧ 0 = shA n l ∧ (false = true ↔ okS n l) ∧ True := fun h => ⟨by unfold shM; rw [if_neg h], by unfold shA; rw [if_neg h], iff_of_false (fun h => (by cases h)) h, trivial⟩
 refine ⟨fun h1 => ⟨fun h2 => ?_, fun h2 => no fun h => h2 h.n2⟩, fun h1 => no fun h => h1 h.n1⟩
 have h2 := Classical.not_not.1 h2
 refine ⟨⟨⟨h1, h2⟩, hl⟩, fun hf => no fun h => hf h.fit, fun hf => ?_⟩
 have ok : okS n l := ⟨h1, h2, Classical.not_not.1 hf⟩
 have hs := ok_siz ok
 have hz := ok_sizP ok
 have em : shM n l = triS l l.len := by unfold shM; rw [if_pos ok]
 have ea : shA n l = triZ n := by unfold shA; rw [if_pos ok]
 refine And.intro ⟨0, Nat.zero_le _, ⟨rfl, rfl, trivial⟩, trivial⟩ (fun x hx => ?_)
 have hx : x ≤ l.len := hx
 refine ⟨lim_of (by omega), fun hlt => ?_, fun hge => ?_⟩
 ·have h3 := hz.out.2 x (by omega)
  have h4 := mul_rng h3.1 h3.2
  have h5 := tri_rng h3.1 h3.2
  have h6 := triS_rng hz.out.2 x hx
  exact ⟨by omega, by omega, ⟨by omega, by omega⟩, ⟨by omega, by omega⟩, by omega, ⟨by omega, by omega⟩, ⟨by omega, by omega⟩, ⟨by omega, by omega⟩, x + 1, show x + 1 ≤ l.len by omega, by omega, ⟨by omega, rfl, trivial⟩, trivial⟩
 ·have hge := not_of hge
  have e : x = l.len := by omega
  have h4 := mul_rng h1 h2
  have h5 := tri_rng h1 h2
  exact ⟨⟨by omega, by omega⟩, ⟨by omega, by omega⟩, by omega, ⟨by omega, by omega⟩, by rw [em, e], ea.symm, iff_of_true rfl ok, trivial⟩
theorem me_zero (h : ¬ okS n l ∨ e < 0) : 0 = meZ n l e := by unfold meZ; rw [if_pos h]
theorem me_full (h : okS n l) (h1 : ¬ e < 0) (h2 : triS l l.len = 0) : meZ n l e = 64 := by unfold meZ; rw [if_neg fun h' => h'.elim (fun k => k h) h1, if_pos h2]
theorem me_some (h : okS n l) (h1 : ¬ e < 0) (h2 : triS l l.len ≠ 0) : meZ n l e = min ((min e 64 * triZ n).tdiv (triS l l.len)) 64 := by unfold meZ; rw [if_neg fun h' => h'.elim (fun k => k h) h1, if_neg h2]
theorem prod_rng {a b c d : Int} (ha : 0 ≤ a) (hb : 0 ≤ b) (hac : a ≤ c) (hbd : b ≤ d) : 0 ≤ a * b ∧ a * b ≤ c * d := ⟨Int.mul_nonneg ha hb, Int.mul_le_mul hac hbd hb (by omega)⟩
theorem s10b (n : Int) (l : D) (e : Int) (hl : l.len ≤ 16777216) : symFun (ctx ce1 shAnn) 3 10 [.int .i64 n, .dat 25 l, .int .i64 e] (.int .i64 (meZ n l e)) := by
 rw [vc10b]
 refine ⟨hl, fun h => ⟨fun h1 => me_zero (.inr h1), fun h1 => ?_⟩, fun h => me_zero (.inl h)⟩
 have ok := Classical.not_not.1 h
 have h1 := not_of h1
 have em : shM n l = triS l l.len := by unfold shM; rw [if_pos ok]
 have ea : shA n l = triZ n := by unfold shA; rw [if_pos ok]
 rw [em, ea]
 have ht := ok_tri ok
 have h3 := prod_rng (a := min e 64) (b := triZ n) (c := 64) (d := 2016) (by omega) ht.2.1.1 (by omega) ht.2.1.2
 refine ⟨fun h2 => (me_full ok h1 h2).symm, fun h2 => ?_⟩
 have h4 : 0 ≤ (min e 64 * triZ n).tdiv (triS l l.len) ∧ (min e 64 * triZ n).tdiv (triS l l.len) ≤ min e 64 * triZ n := ⟨Int.tdiv_nonneg (by omega) (by omega), Int.tdiv_le_self _ (by omega)⟩
 exact ⟨⟨by omega, by omega⟩, h2, ⟨by omega, by omega⟩, (me_some ok h1 h2).symm⟩
end
theorem errG_all {n : Int} {l : List D} (h : errG n l = 0) : ¬ outP n l ∧ (∀ v : Nat, (v : Int) < n → cntF l v ≤ 1) ∧ ∀ v : Nat, (v : Int) < n → cntF l v ≠ 0 := by
 unfold errG at h
 split at h
 ·cases h
 ·rename_i ho
  split at h
  ·cases h
  ·rename_i h1
   split at h
   ·cases h
   ·rename_i h2
    refine ⟨ho, fun v hv => ?_, fun v hv e => h2 ⟨v, ⟨by omega, hv⟩, e⟩⟩
    by_cases hc : 1 < cntF l v
    ·exact absurd ⟨(v : Int), ⟨by omega, hv⟩, hc⟩ h1
    ·omega
theorem tot_ge {ev : D} {k : Nat} (h : ∀ i, i < k → 1 ≤ (el ev i).len) : ∀ x, x ≤ k → x ≤ totE ev x
 | 0, _ => Nat.zero_le _
 | x + 1, hx => by
  have ih := tot_ge h x (by omega)
  have := h x (by omega)
  show x + 1 ≤ totE ev x + (el ev x).len
  omega
theorem tot_el {ev : D} {j k : Nat} (h : j < k) : (el ev j).len ≤ totE ev k := by
 have h1 : totE ev (j + 1) ≤ totE ev k := tot_mono' ev (by omega)
 have : totE ev (j + 1) = totE ev j + (el ev j).len := rfl
 omega
theorem errE_all {n : Int} {ev : D} (h : errE n .nil ev = 0) : (∀ j, j < ev.len → 1 ≤ (el ev j).len) ∧ errG n (flatL ev ev.len) = 0 := by
 unfold errE at h
 split at h
 ·cases h
 ·rename_i he
  refine ⟨fun j hj => ?_, h⟩
  by_cases h0 : (el ev j).len = 0
  ·exact absurd (.inl ⟨j, hj, h0⟩) he
  ·omega
theorem good_flat {n : Int} {s : D} (h : goodS n s) {i : Nat} (hi : i < s.len) : totE (el s i) (el s i).len ≤ n.toNat := by
 obtain ⟨_, h2⟩ := errE_all (good_err h hi)
 obtain ⟨h3, h4, _⟩ := errG_all h2
 have hn := h.n1
 have e1 := sumC_all (n := n.toNat) (l := flatL (el s i) (el s i).len) (fun a ha => by have := in_of h3 a ha; omega)
 have e2 := sumC_le (l := flatL (el s i) (el s i).len) n.toNat (fun v hv => h4 v (by omega))
 rw [e1, flat_len] at e2
 omega
theorem good_small {n : Int} {s : D} (h : goodS n s) {i : Nat} (hi : i < s.len) : (el s i).len ≤ 64 ∧ ∀ j, j < (el s i).len → (el (el s i) j).len ≤ 64 := by
 have h1 := good_flat h hi
 have hn := h.n1
 have h2 := tot_ge (errE_all (good_err h hi)).1 (el s i).len (Nat.le_refl _)
 refine ⟨by omega, fun j hj => ?_⟩
 have := tot_el (ev := el s i) hj
 omega
theorem good_lim {n : Int} {s : D} (h : goodS n s) : s.len ≤ 64 := by
 have hc := h.chk
 unfold chk at hc
 split at hc
 ·cases hc
 ·split at hc
  ·cases hc
  ·omega
theorem pqS_small {n : Int} {s : D} (h : goodS n s) {q : List D} (hq : sqF n.toNat 0 (fun _ _ => 0) q) : ∀ i, i ≤ s.len → sqF n.toNat (524288 * i) (mtS s i) (pqS q s i)
 | 0, _ => hq.cong (by omega) fun _ _ _ _ => rfl
 | i + 1, hi => by
  have hb := good_small h (show i < s.len by omega)
  exact (pqE_sq (L := 64) (pqS_small h hq i (by omega)) (fun j hj => ⟨hb.2 j hj, (good_tabs h (show i < s.len by omega) hj).2⟩) (el s i).len (Nat.le_refl _)).cong (by omega) fun _ _ _ _ => rfl
theorem mt_sq {n : Int} {s : D} (h : goodS n s) : sqF n.toNat 33554432 (mtS s s.len) (pqS (zrL n.toNat n.toNat) s s.len) := by
 have := good_lim h
 exact (pqS_small h (zr_sq n.toNat) s.len (Nat.le_refl _)).cong (by omega) fun _ _ _ _ => rfl
theorem hfR_sq {m : Nat} {f : Nat → Nat → Int} {x y : Nat} (hx : x < m) (hy : y ≤ m) : hfR (sqD m f) x y = (List.range y).map fun b => .int (f x b) := by
 unfold hfR
 refine List.map_congr_left fun b hb => ?_
 rw [sqD_at f hx]
 show D.int (nAt (D.list (rowF m f x)) b) = _
 unfold nAt
 show D.int (nthD (rowF m f x) b).asInt = _
 rw [rowF_at f x (show b < m by have := List.mem_range.1 hb; omega)]; rfl
theorem hfL_mem {m : Nat} {f : Nat → Nat → Int} {d : D} : ∀ x, x ≤ m → (d ∈ hfL (sqD m f) x ↔ ∃ a b, b < a ∧ a < x ∧ d = .int (f a b))
 | 0, _ => ⟨fun h => (by cases h), fun ⟨a, b, _, h, _⟩ => (by omega)⟩
 | x + 1, hx => by
  have ih := hfL_mem (m := m) (d := d) (f := f) x (by omega)
  show d ∈ hfL (sqD m f) x ++ hfR (sqD m f) x x ↔ _
  rw [List.mem_append, ih, hfR_sq (by omega) (by omega), List.mem_map]
  constructor
  ·rintro (⟨a, b, h1, h2, h3⟩ | ⟨b, h1, h2⟩)
   ·exact ⟨a, b, h1, by omega, h3⟩
   ·exact ⟨x, b, List.mem_range.1 h1, by omega, h2.symm⟩
  ·rintro ⟨a, b, h1, h2, h3⟩
   by_cases e : a = x
   ·subst e; exact .inr ⟨b, List.mem_range.2 h1, h3.symm⟩
   ·exact .inl ⟨a, b, h1, by omega, h3⟩
theorem hfL_len2 (q : List D) : ∀ x, 2 * (hfL q x).length = x * (x - 1)
 | 0 => rfl
 | 1 => rfl
 | x + 2 => by
  have ih := hfL_len2 q (x + 1)
  show 2 * (hfL q (x + 1) ++ hfR q (x + 1) (x + 1)).length = _
  rw [List.length_append, hfR_len, Nat.mul_add, ih]
  show (x + 1) * x + 2 * (x + 1) = (x + 2) * (x + 1)
  rw [Nat.mul_comm (x + 1) x, ← Nat.add_mul]
theorem mt_mem {n : Int} {s : D} (h : goodS n s) {d : D} : d ∈ (mtL n s).asList ↔ ∃ a b, b < a ∧ a < n.toNat ∧ d = .int (mtS s s.len a b) := by
 unfold mtL
 rw [listD_list, (mt_sq h).eq]
 exact hfL_mem n.toNat (Nat.le_refl _)
theorem mt_len (n : Int) (s : D) : 2 * (mtL n s).len = n.toNat * (n.toNat - 1) := by
 unfold mtL
 rw [listD_len]
 exact hfL_len2 _ _
theorem mt_num {n : Int} {s : D} (h : goodS n s) : numL 33554432 (mtL n s) := by
 have hn := h.n1
 have hl := mt_len n s
 have hm : n.toNat * (n.toNat - 1) ≤ 64 * 64 := Nat.mul_le_mul (by omega) (by omega)
 refine ⟨by omega, fun i hi => ?_⟩
 have hmem : nthD (mtL n s).asList i ∈ (mtL n s).asList := nthD_mem hi
 obtain ⟨a, b, h1, h2, h3⟩ := (mt_mem h).1 hmem
 have hr := (mt_sq h).bnd a b (by omega) (by omega)
 unfold nAt
 rw [h3]
 exact hr
theorem s8m (n : Int) (s : D) (h : goodS n s) : symFun (ctx mt3 mtAnn) 3 8 [.int .i64 n, .dat 24 s] (.int .i64 (mxZ (mtL n s) (mtL n s).len)) := by
 rw [vc8m]
 have hl := (mt_num h).len
 refine ⟨h, ⟨0, Nat.zero_le _, ⟨rfl, rfl, trivial⟩, trivial⟩, fun x hx => ?_⟩
 have hx : x ≤ (mtL n s).len := hx
 refine ⟨limS (by omega), fun hlt => ⟨by omega, hlt, ⟨by omega, by omega⟩, x + 1, by show x + 1 ≤ _; omega, by omega, ⟨by omega, rfl, trivial⟩, trivial⟩, fun hge => ?_⟩
 have hge := not_of hge
 rw [show x = (mtL n s).len by omega]
theorem s31n (l : D) (h1 : l.len ≤ 4096) (h2 : 0 < l.len) : symFun (ctx cc0 mtAnn) 3 31 [.dat 25 l] (.int .i64 (mnZ l (l.len - 1))) := by
 rw [vc31n]
 refine ⟨fun h => by omega, fun _ => ⟨Int.le_refl _, by omega, ⟨0, by show 0 + 1 ≤ _; omega, ⟨rfl, rfl, trivial⟩, trivial⟩, fun x hx => ?_⟩⟩
 have hx : x + 1 ≤ l.len := hx
 refine ⟨limS (by omega), fun hlt => ⟨by omega, hlt, ⟨by omega, by omega⟩, x + 1, by show x + 1 + 1 ≤ _; omega, by omega, ⟨by omega, rfl, trivial⟩, trivial⟩, fun hge => ?_⟩
 have hge := not_of hge
 rw [show x = l.len - 1 by omega]
end Go.Ev

end
