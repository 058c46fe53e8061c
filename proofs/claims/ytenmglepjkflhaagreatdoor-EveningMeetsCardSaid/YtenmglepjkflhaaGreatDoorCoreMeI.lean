/-
  Part of the engine that the claim is proved with: it states nothing of the document by itself.
-/
import Derived.Test.YtenmglepjkflhaaGreatDoorCoreMeH
open Go.Proofs
namespace Go.Ev
set_option maxRecDepth 100000
set_option maxHeartbeats 4000000
def fo (op : Int → Int → Int) (l : D) (k : Int) : Nat → Int
 | 0 => k
 | x + 1 => op (fo op l k x) (nAt l x)
def foS (op : Int → Int → Int) (M : D) (k : Int) : Nat → Int
 | 0 => k
 | x + 1 => fo op (el M x) (foS op M k x) x
theorem fo_cong {op : Int → Int → Int} {l l' : D} {k : Int} : ∀ x, (∀ y, y < x → nAt l y = nAt l' y) → fo op l k x = fo op l' k x
 | 0, _ => rfl
 | x + 1, h => by
  show op (fo op l k x) (nAt l x) = op (fo op l' k x) (nAt l' x)
  rw [fo_cong x fun y hy => h y (by omega), h x (by omega)]
theorem nAt_app {L R : List D} {x : Nat} (h : x < L.length) : nAt (listD (L ++ R)) x = nAt (listD L) x := by
 unfold nAt nthD
 rw [listD_list, listD_list, List.getElem?_append_left h]
theorem nAt_app2 {L R : List D} (y : Nat) : nAt (listD (L ++ R)) (L.length + y) = nAt (listD R) y := by
 unfold nAt nthD
 rw [listD_list, listD_list, List.getElem?_append_right (by omega), Nat.add_sub_cancel_left]
theorem fo_app {op : Int → Int → Int} {L R : List D} {k : Int} : ∀ y, fo op (listD (L ++ R)) k (L.length + y) = fo op (listD R) (fo op (listD L) k L.length) y
 | 0 => fo_cong L.length fun x hx => nAt_app hx
 | y + 1 => by
  show op (fo op (listD (L ++ R)) k (L.length + y)) (nAt (listD (L ++ R)) (L.length + y)) = _
  rw [fo_app y, nAt_app2]; rfl
theorem hfR_ln (q : List D) (x y : Nat) : (hfR q x y).length = y := by unfold hfR; rw [List.length_map, List.length_range]
theorem hfR_nAt (q : List D) (x : Nat) {y m : Nat} (h : y < m) : nAt (listD (hfR q x m)) y = nAt (el (.list q) x) y := by
 unfold nAt
 rw [listD_list]
 unfold hfR nthD
 rw [List.getElem?_map, List.getElem?_range h]; rfl
theorem fo_hf {op : Int → Int → Int} {q : List D} {k : Int} : ∀ x, fo op (listD (hfL q x)) k (hfL q x).length = foS op (.list q) k x
 | 0 => rfl
 | x + 1 => by
  show fo op (listD (hfL q x ++ hfR q x x)) k (hfL q x ++ hfR q x x).length = fo op (el (.list q) x) (foS op (.list q) k x) x
  rw [List.length_append, hfR_ln, fo_app, fo_hf x]
  exact fo_cong x fun y hy => hfR_nAt q x hy
theorem moR_fo (r : D) (k : Int) : ∀ y, moR r k y = fo max r k y
 | 0 => rfl
 | y + 1 => by show max (moR r k y) _ = _; rw [moR_fo r k y]; rfl
theorem moS_fo (M : D) : ∀ x, moS M x = foS max M 0 x
 | 0 => rfl
 | x + 1 => by show moR (el M x) (moS M x) x = _; rw [moR_fo, moS_fo M x]; rfl
theorem leR_fo (r : D) (k : Int) : ∀ y, leR r k y = fo min r k y
 | 0 => rfl
 | y + 1 => by show min (leR r k y) _ = _; rw [leR_fo r k y]; rfl
theorem leS_fo (M : D) (k : Int) : ∀ x, leS M k x = foS min M k x
 | 0 => rfl
 | x + 1 => by show leR (el M x) (leS M k x) x = _; rw [leR_fo, leS_fo M k x]; rfl
theorem stR_fo (r : D) (k : Int) : ∀ y, stR r k y = fo (fun a b => a + b * b) r k y
 | 0 => rfl
 | y + 1 => by show stR r k y + _ = _; rw [stR_fo r k y]; rfl
theorem stS_fo (M : D) : ∀ x, stS M x = foS (fun a b => a + b * b) M 0 x
 | 0 => rfl
 | x + 1 => by show stR (el M x) (stS M x) x = _; rw [stR_fo, stS_fo M x]; rfl
theorem mx_fo (l : D) : ∀ x, mxZ l x = fo max l 0 x
 | 0 => rfl
 | x + 1 => by show max (mxZ l x) _ = _; rw [mx_fo l x]; rfl
theorem sq_fo (l : D) : ∀ x, sqSum l x = fo (fun a b => a + b * b) l 0 x
 | 0 => rfl
 | x + 1 => by show sqSum l x + _ = _; rw [sq_fo l x]; rfl
theorem fo_min (l : D) (k : Int) : ∀ x, fo min l k (x + 1) = min k (mnZ l x)
 | 0 => rfl
 | x + 1 => by
  show min (fo min l k (x + 1)) (nAt l (x + 1)) = min k (min (mnZ l x) (nAt l (x + 1)))
  rw [fo_min l k x]; omega
theorem mnZ_le (l : D) : ∀ x, mnZ l x ≤ nAt l 0
 | 0 => Int.le_refl _
 | x + 1 => by
  show min (mnZ l x) _ ≤ _
  have := mnZ_le l x
  omega
theorem mtL_hf (n : Int) (s : D) : (mtL n s).len = (hfL (pqS (zrL n.toNat n.toNat) s s.len) n.toNat).length := by unfold mtL; rw [listD_len]
theorem rm_pq {n : Int} {s : D} (h : goodS n s) : rmL s n.toNat n.toNat = pqS (zrL n.toNat n.toNat) s s.len := by rw [rm_sq h, (mt_sq h).eq]
theorem rm_mo {n : Int} {s : D} (h : goodS n s) : moS (.list (rmL s n.toNat n.toNat)) n.toNat = mxZ (mtL n s) (mtL n s).len := by
 rw [moS_fo, mx_fo, rm_pq h, mtL_hf, ← fo_hf]; rfl
theorem rm_st {n : Int} {s : D} (h : goodS n s) : stS (.list (rmL s n.toNat n.toNat)) n.toNat = sqSum (mtL n s) (mtL n s).len := by
 rw [stS_fo, sq_fo, rm_pq h, mtL_hf, ← fo_hf]; rfl
theorem rm_le {n : Int} {s : D} (h : goodS n s) : leS (.list (rmL s n.toNat n.toNat)) (moS (.list (rmL s n.toNat n.toNat)) n.toNat) n.toNat = leastZ (mtL n s) := by
 rw [rm_mo h, leS_fo, rm_pq h, ← fo_hf, ← mtL_hf]
 show fo min (mtL n s) _ _ = _
 unfold leastZ
 by_cases h0 : (mtL n s).len = 0
 ·rw [if_pos h0, h0]; rfl
 ·obtain ⟨x, hx⟩ : ∃ x, (mtL n s).len = x + 1 := ⟨(mtL n s).len - 1, by omega⟩
  rw [if_neg h0, hx, fo_min]
  have h1 := mnZ_le (mtL n s) x
  have h2 := mx_ge (l := mtL n s) (x + 1) 0 (by omega)
  show min _ (mnZ (mtL n s) x) = mnZ (mtL n s) x
  omega
theorem rm_sqM {n : Int} {s : D} (h : goodS n s) : sqM (.list (rmL s n.toNat n.toNat)) := by
 have hn := h.n1
 have hq := mt_sq h
 have hl : (D.list (rmL s n.toNat n.toNat)).len = n.toNat := rmL_len s _ _
 have hr : ∀ x, x < n.toNat → el (.list (rmL s n.toNat n.toNat)) x = .list (rowF n.toNat (mtS s s.len) x) := fun x hx => by rw [rm_sq h]; exact sqD_at _ hx
 have hg := good_lim h
 refine ⟨by omega, fun x hx => ?_, fun x y hx hy => ?_⟩
 ·rw [hl] at hx ⊢
  rw [hr x hx]; exact rowF_len _ _ _
 ·rw [hl] at hx hy
  rw [hr x hx]
  have : nAt (.list (rowF n.toNat (mtS s s.len) x)) y = mtS s s.len x y := by
   show (nthD (rowF n.toNat (mtS s s.len) x) y).asInt = _
   rw [rowF_at _ _ hy]; rfl
  rw [this]
  by_cases e : x = y
  ·rw [← e, mtS_self h x _ (Nat.le_refl _)]; omega
  ·have := mtS_rng h e (by omega) (by omega) s.len (Nat.le_refl _)
   omega
theorem pq_cp {n : Int} {s : D} (h : goodS n s) : pqS (zrL n.toNat n.toNat) (cpS s) (cpS s).len = pqS (zrL n.toNat n.toNat) s s.len := by
 rw [(mt_sq ((good_cp h.big).2 h)).eq, (mt_sq h).eq, cpS_len]
 unfold sqD
 refine List.map_congr_left fun x _ => ?_
 congr 1
 refine List.map_congr_left fun y _ => ?_
 rw [mtS_cp s x y _ (Nat.le_refl _)]
theorem mtL_cp {n : Int} {s : D} (h : goodS n s) : mtL n (cpS s) = mtL n s := by unfold mtL; rw [pq_cp h]
theorem ad_sq {n : Int} {s : D} (h : goodS n s) : addS (zrL n.toNat n.toNat) s s.len = sqD n.toNat (nbS s s.len) := (addS_sq h (zr_sq _) s.len (Nat.le_refl _)).eq
theorem ad_cp {n : Int} {s : D} (h : goodS n s) : addS (zrL n.toNat n.toNat) (cpS s) (cpS s).len = rbL s n.toNat n.toNat := by
 rw [ad_sq ((good_cp h.big).2 h), rb_sq h, cpS_len]
 unfold sqD
 refine List.map_congr_left fun x _ => ?_
 congr 1
 refine List.map_congr_left fun y _ => ?_
 rw [nbS_cp s x y _ (Nat.le_refl _)]
theorem tog_cp {n : Int} {s : D} (h : goodS n s) (a b : Int) : togD (cpS s) a b = if a = b then .nil else listD (rtS s a b s.len) := by
 unfold togD
 by_cases e : a = b
 ·rw [if_pos e, if_pos e]
 ·rw [if_neg e, if_neg e, cpS_len, togL_cp s a b _ (Nat.le_refl _), rt_tog h e _ (Nat.le_refl _)]
end Go.Ev
