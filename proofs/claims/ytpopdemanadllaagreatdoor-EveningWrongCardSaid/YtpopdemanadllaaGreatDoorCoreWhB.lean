/-
  Part of the engine that the claim is proved with: it states nothing of the document by itself.
-/
import Derived.Test.YtpopdemanadllaaGreatDoorCoreWhA
import Derived.Test.YtpopdemanadllaaGreatDoorCoreWhM
open Go.Proofs
namespace Go.Ev
set_option maxRecDepth 100000
set_option maxHeartbeats 4000000
theorem leaf_ok {l : List D} {T : D → Prop} (h1 : 1 ≤ l.length) (h2 : l.length ≤ 1000) (hT : T (.list l)) : leafC (.list l) T := by
 unfold leafC
 have e : List.take l.length (List.drop (0 + 0) (List.take l.length (List.take 0 ([] : List D) ++ l) ++ List.take 1 [D.int (-9)])) = l := by simp
 refine ⟨fun h => h.elim, fun _ => ⟨fun h => absurd (show l.length = 0 from h) (by omega), fun _ => ⟨Nat.le_refl _, by show 0 + l.length ≤ _; omega, fun h => absurd (show 0 + l.length ≤ 0 from h) (by omega), fun _ => ⟨Nat.le_refl _, ?_, by show l.length + 1 ≤ _; omega, Int.le_refl _, by show (0:Int) ≤ (l.length : Int); omega, ?_, ?_, ?_⟩⟩⟩⟩
 ·show 0 + l.length ≤ (List.take 0 ([] : List D) ++ l).length; simp
 ·show ((l.length : Nat) : Int) ≤ ((l.length + 1 : Nat) : Int); omega
 ·show 0 + 0 + l.length ≤ (List.take l.length (List.take 0 ([] : List D) ++ l) ++ List.take 1 [D.int (-9)]).length; simp
 ·show T (.list (List.take l.length (List.drop (0 + 0) (List.take l.length (List.take 0 ([] : List D) ++ l) ++ List.take 1 [D.int (-9)])))); rw [e]; exact hT
structure rwsP (e : D) : Prop where
 out : ∃ l, e = .list l ∧ 1 ≤ l.length ∧ l.length ≤ 1000 ∧ ∀ j, j < l.length → ∃ t, nthD l j = .list t ∧ 1 ≤ t.length ∧ t.length ≤ 1000
theorem inn_ok {e : D} (h : rwsP e) : innW e := by
 obtain ⟨l, rfl, h1, h2, ht⟩ := h
 unfold innW
 refine ⟨.inl ⟨0, rfl, ⟨rfl, trivial, trivial⟩, trivial⟩, fun x hx => ?_, fun x hx => ?_⟩
 ·subst hx
  refine ⟨limS (by show l.length - 0 ≤ _; omega), fun _ => ⟨Int.le_refl _, by show ((0 : Nat) : Int) < (l.length : Int); omega, ?_⟩, fun k => (k (by show ((0 : Nat) : Int) < (l.length : Int); omega)).elim⟩
  obtain ⟨t, e, h3, h4⟩ := ht 0 (by omega)
  rw [show el (.list l) 0 = .list t from e]
  refine leaf_ok h3 h4 ?_
  unfold t0C
  refine ⟨Nat.le_refl _, by decide, ⟨by decide, by decide⟩, .inr ⟨1, ⟨by decide, h1⟩, by show l.length - 1 < l.length - 0; omega, ⟨rfl, ⟨rfl, rfl, trivial⟩, trivial⟩, ?_, trivial⟩⟩
  show List.take 1 [D.list t] = List.take 1 l
  rw [show List.take 1 l = List.take (0 + 1) l from rfl, take_succ_nth (show 0 < l.length by omega), e]; rfl
 ·have hx2 : x ≤ l.length := hx.2
  refine ⟨limS (by show l.length - x ≤ _; omega), fun k => ?_, fun k => ?_⟩
  ·have k : (x : Int) < (l.length : Int) := k
   refine ⟨by omega, k, ?_⟩
   obtain ⟨t, e, h3, h4⟩ := ht x (by omega)
   rw [show el (.list l) x = .list t from e]
   refine leaf_ok h3 h4 ?_
   unfold t1C
   refine ⟨Nat.le_refl _, ?_, by omega, ⟨by omega, by omega⟩, .inr ⟨x + 1, ⟨by omega, by show x + 1 ≤ l.length; omega⟩, by show l.length - (x + 1) < l.length - x; omega, ⟨rfl, ⟨rfl, rfl, trivial⟩, trivial⟩, ?_, trivial⟩⟩
   ·show 0 + x ≤ (List.take x l).length; rw [List.length_take]; omega
   ·show List.take x (List.take x l) ++ List.take 1 [D.list t] = List.take (x + 1) l
    rw [take_succ_nth (show x < l.length by omega), e, List.take_take, Nat.min_self]; rfl
  ·have k : ¬ (x : Int) < (l.length : Int) := k
   have e : x = l.length := by omega
   refine ⟨(), trivial, ⟨⟨rfl, e, trivial⟩, trivial⟩, ?_, trivial⟩
   show List.take x l = l
   rw [e, List.take_length]
theorem cp_ok {s : D} (h1 : 1 ≤ s.len) (h2 : s.len ≤ 1000) (h : ∀ i, i < s.len → rwsP (el s i)) : cpC s := by
 obtain ⟨l, rfl⟩ : ∃ l, s = .list l := by
  cases s <;> first | exact ⟨_, rfl⟩ | exact absurd h1 (by simp [D.len, D.asList])
 have h1 : 1 ≤ l.length := h1
 have h2 : l.length ≤ 1000 := h2
 unfold cpC
 refine ⟨.inl ⟨0, rfl, ⟨rfl, trivial, trivial⟩, trivial⟩, fun x hx => ?_, fun x hx => ?_⟩
 ·subst hx
  refine ⟨limS (by show l.length - 0 ≤ _; omega), fun _ => ⟨Int.le_refl _, by show ((0 : Nat) : Int) < (l.length : Int); omega, inn_ok (h 0 (by show 0 < l.length; omega)), fun _ _ => ⟨rfl, rfl, trivial, rfl, rfl, ⟨by decide, by decide⟩, .inr ⟨1, ⟨by decide, h1⟩, by show l.length - 1 < l.length - 0; omega, ⟨rfl, ⟨rfl, rfl, trivial⟩, trivial⟩, ?_, trivial⟩⟩⟩, fun k => (k (by show ((0 : Nat) : Int) < (l.length : Int); omega)).elim⟩
  obtain ⟨r, e, _⟩ := (h 0 (by show 0 < l.length; omega)).out
  rw [e]
  show [D.list r] = List.take 1 l
  rw [show List.take 1 l = List.take (0 + 1) l from rfl, take_succ_nth (show 0 < l.length by omega), show nthD l 0 = .list r from e]; rfl
 ·have hx2 : x ≤ l.length := hx.2
  refine ⟨limS (by show l.length - x ≤ _; omega), fun k => ?_, fun k => ?_⟩
  ·have k : (x : Int) < (l.length : Int) := k
   refine ⟨by omega, k, inn_ok (h x (by show x < l.length; omega)), fun _ _ => ⟨rfl, rfl, trivial, rfl, rfl, rfl, ?_, by omega, ⟨by omega, by omega⟩, .inr ⟨x + 1, ⟨by omega, by show x + 1 ≤ l.length; omega⟩, by show l.length - (x + 1) < l.length - x; omega, ⟨rfl, ⟨rfl, rfl, trivial⟩, trivial⟩, ?_, trivial⟩⟩⟩
   ·show x = (List.take x l).length; rw [List.length_take]; omega
   ·obtain ⟨r, e, _⟩ := (h x (by show x < l.length; omega)).out
    rw [e]
    show (List.take x l ++ [D.int 0]).set (List.take x l).length (D.list r) = List.take (x + 1) l
    rw [take_succ_nth (show x < l.length by omega), show nthD l x = .list r from e]
    simp [List.set_append]
  ·have k : ¬ (x : Int) < (l.length : Int) := k
   have e : x = l.length := by omega
   refine ⟨(), trivial, ⟨⟨rfl, e, trivial⟩, trivial⟩, ?_, trivial⟩
   show List.take x l = l
   rw [e, List.take_length]
theorem wn_eq {n : Int} (h : 1 ≤ n ∧ n ≤ 64) : wnD n = n ∧ IntKind.u64.wrap n = n := by
 have h1 : IntKind.u64.wrap n = n := wrap_inR (k := .u64) ⟨by omega, by omega⟩
 refine ⟨?_, h1⟩
 unfold wnD
 rw [h1]
 show IntKind.i64.wrap (1 * n) = n
 rw [Int.one_mul]; exact wrap_inR (k := .i64) ⟨by omega, by omega⟩
theorem rpR_len {m x : Nat} (h : x ≤ m) : (rpR m x).length = m := by unfold rpR; rw [List.length_append, List.length_replicate, List.length_replicate]; omega
theorem rpR_take (m : Nat) : List.take m (rpR m m) = rpR m m := by conv => lhs; arg 1; rw [← rpR_len (Nat.le_refl m)]
                                                                   rw [List.take_length]
theorem rp_ok {n : Int} {T : Nat → Prop} (h : 1 ≤ n ∧ n ≤ 64) (hT : T n.toNat) : rpC n T := by
 obtain ⟨e1, e2⟩ := wn_eq h
 unfold rpC
 rw [e1, e2]
 have e3 : (Int.ofNat 1 : Int) * n = n := Int.one_mul n
 rw [e3]
 refine ⟨fun k => by omega, fun _ => ⟨⟨⟨by decide, by decide⟩, by omega, by omega⟩, fun _ => ⟨fun k => by omega, fun _ => ⟨by omega, Int.le_refl _, by omega, by omega, ⟨?_, Nat.le_refl _, by omega, by decide, (), trivial, ⟨by omega, trivial⟩, ?_, trivial⟩, fun _ _ => ⟨⟨1, ⟨Nat.le_refl _, by omega⟩, ⟨rfl, trivial⟩, rfl, trivial⟩, fun x hx => ⟨limS (by omega), fun k => ?_, fun k => ?_⟩⟩⟩⟩, fun k => absurd k (by decide)⟩⟩
 ·rw [List.length_replicate]; omega
 ·have em : min 1 n.toNat = 1 := by omega
  rw [em]
  obtain ⟨m, hm⟩ : ∃ m, n.toNat = m + 1 := ⟨n.toNat - 1, by omega⟩
  rw [hm]; unfold rpR
  show [] ++ [D.int 1] ++ List.drop (0 + 1) (List.replicate (m + 1) (D.int 0)) = List.replicate 1 (D.int 1) ++ List.replicate (m + 1 - 1) (D.int 0)
  rw [List.replicate_succ]; rfl
 ·have hl := rpR_len (m := n.toNat) (x := x) hx.2
  refine ⟨by omega, by omega, by show ((n.toNat : Nat) : Int) ≤ ((n.toNat : Nat) : Int); omega, Int.le_refl _, by omega, by show ((x : Nat) : Int) ≤ ((n.toNat : Nat) : Int); omega, by omega, by omega, by omega, by omega, ⟨by omega, by omega⟩, x + min x (n.toNat - x), ⟨by omega, by omega⟩, by omega, ⟨by omega, trivial⟩, ?_, trivial⟩
  generalize hm : n.toNat = m at *
  have hy : min x (m - x) ≤ x := Nat.min_le_left _ _
  have hy2 : min x (m - x) ≤ m - x := Nat.min_le_right _ _
  generalize min x (m - x) = y at *
  unfold rpR
  apply List.ext_getElem?
  intro i
  simp only [List.getElem?_append, List.getElem?_take, List.getElem?_drop, List.getElem?_replicate, List.length_append, List.length_take, List.length_drop, List.length_replicate]
  repeat' split
  all_goals first | rfl | (exfalso; omega) | skip
 ·have k : ¬ (x : Int) < ((n.toNat : Nat) : Int) := k
  rw [show x = n.toNat by omega]; exact hT
theorem cl_ok {n : Int} {z s : D} (h : wrgP n z s) : clC n z s := by
 have hz := h.pos.1
 have h90 := wrg_90 h
 have hb := h.pig.good.big
 have hl : z.len ≤ 64 := Nat.le_trans h.short (by decide)
 obtain ⟨l, rfl⟩ : ∃ l, z = .list l := by
  cases z <;> first | exact ⟨_, rfl⟩ | exact absurd hz (by simp [D.len, D.asList])
 have hz : 1 ≤ l.length := hz
 have hl : l.length ≤ 64 := hl
 have e : List.take (l.length + 1) (List.take l.length (List.take 0 ([] : List D) ++ l) ++ List.take 1 [D.int 1]) = l ++ [D.int 1] := by
  rw [List.take_zero, List.nil_append, List.take_length]
  show List.take (l.length + 1) (l ++ [D.int 1]) = _
  rw [show l.length + 1 = (l ++ [D.int 1]).length by rw [List.length_append]; rfl, List.take_length]
 unfold clC
 refine ⟨fun h => h.elim, fun _ => ⟨fun h => absurd (show l.length = 0 from h) (by omega), fun _ => ⟨Nat.le_refl _, by show 0 + l.length ≤ _; omega, fun h => absurd (show 0 + l.length ≤ 0 from h) (by omega), fun _ => ⟨Nat.le_refl _, ?_, by show l.length + 1 ≤ _; omega, ?_, ⟨?_, hb⟩, (), trivial, ⟨?_, trivial⟩, trivial⟩⟩⟩⟩
 ·show 0 + l.length ≤ (List.take 0 ([] : List D) ++ l).length; simp
 ·show 0 + (l.length + 1) ≤ (List.take l.length (List.take 0 ([] : List D) ++ l) ++ List.take 1 [D.int 1]).length; simp
 ·show (List.take (l.length + 1) (List.take l.length (List.take 0 ([] : List D) ++ l) ++ List.take 1 [D.int 1])).length ≤ 1000
  rw [e, List.length_append]; show l.length + 1 ≤ 1000; omega
 ·show (chk n (.list (List.take (l.length + 1) (List.take l.length (List.take 0 ([] : List D) ++ l) ++ List.take 1 [D.int 1]))) s).2 = 90
  rw [e]; exact h90
theorem rest_ok {n : Int} {z s : D} {i t : Nat} {X : D} {e : Int} (h : wrgP n z s) (hi : i < s.len) (ht : t < z.len) (hX : X.len ≤ 1000) (he : errE n .nil (evX s i t X) = e) (h0 : e ≠ 0) : restC n z s (i : Nat) (bdX s i t X) e := by
 have hl : 0 + s.len ≤ (bdX s i t X).length := by rw [bdX_len]; omega
 have hh : noHole (bdX s i t X) := bad_hole h
 have hw : badW n (.list (bdX s i t X)) := bad_w h hi ht hX (by rw [he]; exact h0)
 have hc : chk n .nil (.list (bdX s i t X)) = (((i : Nat) : Int), e) := by rw [bad_chk h hi (by rw [he]; exact h0), he]
 have hn := h.pig.good.n1
 have tt : true = true ∧ true = true := ⟨rfl, rfl⟩
 have ho := wrg_ones h (by omega)
 have hz : z.len ≤ 64 := Nat.le_trans h.short (by decide)
 obtain ⟨e1, _⟩ := wn_eq hn
 unfold restC
 rw [bdX_take, hc, e1]
 refine ⟨hl, hh, tt, ⟨by decide, hw.big⟩, hl, hh, tt, ⟨hw, hn⟩, hl, hh, tt, ⟨hw, hn⟩, hl, hh, tt, ⟨h.pig.good, hw, hn⟩, fun _ => ⟨fun _ => ⟨fun _ => ⟨fun _ => ⟨fun _ => ⟨hl, hh, tt, hw, hl, hh, tt, hw, hl, hh, tt, hw, hl, hh, tt, hw, ⟨by decide, by decide⟩, hl, hh, tt, hw, ⟨by decide, by decide⟩, hl, hh, tt, hw, ⟨by decide, by decide⟩, hl, hh, tt, hw, ⟨by decide, by decide⟩, fun k => (k rfl).elim, fun _ => ⟨cl_ok h, fun _ _ => ⟨rp_ok hn ?_, fun _ _ => ⟨fun _ => rp_ok hn ?_, fun k => (k rfl).elim⟩⟩⟩⟩, fun k => (k rfl).elim⟩, fun k => (k rfl).elim⟩, fun k => (k rfl).elim⟩, fun k => (k rfl).elim⟩, fun k => (k rfl).elim⟩
 ·refine ⟨by rw [rpR_len (Nat.le_refl _)]; omega, ⟨by rw [rpR_take, rpR_len (Nat.le_refl _)]; omega, h.pig.good.big⟩, (), trivial, ⟨by rw [rpR_take], trivial⟩, trivial⟩
 ·rw [rpR_take]
  exact ⟨by rw [rpR_len (Nat.le_refl _)]; omega, by omega, fun _ => ⟨hl, hh, tt, .inl hw, fun _ => ⟨fun _ => trivial, fun _ => rfl⟩, fun k => (k rfl).elim⟩, fun k => (k ho).elim⟩
theorem form_ok {n : Int} {z s : D} {i t : Nat} {X : D} {e : Int} (h : wrgP n z s) (hi : i < s.len) (ht : t < z.len) (hX : X.len ≤ 1000) (he : errE n .nil (evX s i t X) = e) (h0 : e ≠ 0) (P : Prop) (hP : P) :
  cpC s ∧ ∀ (_ : Unit), True → (0 : Int) ≤ ((i : Nat) : Int) ∧ ((i : Nat) : Int) < (s.len : Int) ∧ (i : Nat) < s.asList.length ∧ (el s i = D.nil → False) ∧ (∀ (r : List D), el s i = D.list r → (0 : Int) ≤ ((t : Nat) : Int) ∧ ((t : Nat) : Int) < (r.length : Int) ∧ (i : Nat) < s.asList.length ∧ ((t : Nat) : Int) < ((el s i).len : Int) ∧ P ∧ (i : Nat) < s.asList.length ∧ (t : Nat) < (el s i).len ∧ restC n z s (i : Nat) (bdX s i t X) e) ∧ ∀ (m : Int), el s i = D.int m → False := by
 obtain ⟨l, hl⟩ := h.row i hi
 have hlen := wrg_ev h hi
 refine ⟨cp_ok (by omega) (Nat.le_trans (good_lim h.pig.good) (by decide)) fun k hk => ?_, fun _ _ => ⟨by omega, by omega, hi, (fun k => by rw [hl] at k; cases k), fun r hr => ?_, (fun m k => by rw [hl] at k; cases k)⟩⟩
 ·obtain ⟨r, hr⟩ := h.row k hk
  have h1 := wrg_ev h hk
  have hs := h.short
  have hp := h.pos.1
  rw [hr] at h1
  have h1 : r.length = z.len := h1
  refine ⟨r, hr, by omega, by omega, fun j hj => ?_⟩
  obtain ⟨q, e, h2⟩ := wrg_t1 h hk (t := j) (by omega)
  rw [hr] at e
  exact ⟨q, e, h2⟩
 ·have h2 : (el s i).len = r.length := by rw [hr]; rfl
  exact ⟨by omega, by omega, hi, by omega, hP, hi, by omega, rest_ok h hi ht hX he h0⟩
theorem out_set {n v : Int} {l : List D} (h : 1 ≤ l.length) (hv : ¬ (0 ≤ v ∧ v < n)) : outP n (l.set 0 (.int v)) :=
 ⟨.int v, by cases l with
  | nil => exact absurd h (by simp)
  | cons a l => simp, hv⟩
theorem law_ok {n : Int} {z s : D} (h : wrgP n z s) (x way iZ tZ : Int) (hi : 0 < s.len → 0 ≤ iZ ∧ iZ < s.len) (ht : 0 ≤ tZ ∧ tZ < z.len) : lawC n z s x way iZ tZ := by
 unfold lawC
 refine ⟨fun k => ⟨.inr ⟨h.pig.good, by omega⟩, fun _ => ⟨fun _ => trivial, fun _ => rfl⟩, fun k => (k rfl).elim⟩, fun k => ?_⟩
 have hs : 0 < s.len := Nat.pos_of_ne_zero fun e => k (by rw [e]; rfl)
 obtain ⟨i, rfl⟩ := Int.eq_ofNat_of_zero_le (hi hs).1
 obtain ⟨t, rfl⟩ := Int.eq_ofNat_of_zero_le ht.1
 have hi : i < s.len := by have := (hi hs).2; omega
 have ht : t < z.len := by have := ht.2; omega
 have hev := wrg_ev h hi
 have hz := h.pos.1
 obtain ⟨l, e, h1, h2⟩ := wrg_t1 h hi ht
 obtain ⟨l0, e0, h10, h20⟩ := wrg_t1 h hi (t := 0) hz
 have hl6 : l.length ≤ 6 := by
  have h3 := (h.pig.tab i hi).2 t ht
  have h4 := (h.pos.2 t ht).2
  rw [e] at h3
  have h3 : (l.length : Int) = nAt z t := h3
  omega
 rw [show ((i : Nat) : Int).toNat = i from rfl, show ((t : Nat) : Int).toNat = t from rfl]
 have hT0 : (el (el s i) 0).len = l0.length := by rw [e0]; rfl
 have herr6 : ∀ v : Int, ¬ (0 ≤ v ∧ v < n) → errE n .nil (evX s i t (.list (l.set 0 (.int v)))) = 6 := fun v hv =>
  err_6 h hi ht (by show 1 ≤ (l.set 0 _).length; rw [List.length_set]; exact h1) (out_set h1 hv)
 have herr5 := err_5 h hi ht
 have herr2 := err_2 h hi ht
 generalize hg : nAt (el (el s i) 0) 0 = g at *
 rw [e] at herr5 herr2
 have hmis : ∀ L w, misP n x s i t L w → (D.list L).len ≤ 1000 ∧ errE n .nil (evX s i t (.list L)) = w ∧ w ≠ 0 := fun L w hm => by
  have hm := hm.out
  rw [e, hg] at hm
  have hn := h.pig.good.n1
  rcases hm with ⟨rfl, rfl⟩ | ⟨rfl, rfl⟩ | ⟨rfl, rfl⟩
  ·exact ⟨by show (l.set 0 _).length ≤ _; rw [List.length_set]; omega, herr6 _ (by omega), by decide⟩
  ·exact ⟨by show (l.set 0 _).length ≤ _; rw [List.length_set]; omega, herr6 _ (by omega), by decide⟩
  ·exact ⟨by show (l ++ [_]).length ≤ _; rw [List.length_append]; show l.length + 1 ≤ _; omega, herr5, by decide⟩
 have hmk : ∀ L w, ((L = l.set 0 (.int (max x n)) ∧ w = 6) ∨ (L = l.set 0 (.int (min x (-1))) ∧ w = 6) ∨ (L = l ++ [.int g] ∧ w = 5)) → misP n x s i t L w := fun L w hm => ⟨by rw [e, hg]; exact hm⟩
 rw [e]
 refine ⟨k, by omega, ⟨by omega, by omega, by omega, by omega, fun k => k.elim, fun _ => ⟨fun k => absurd (show l.length = 0 from k) (by omega), fun _ => ⟨Nat.le_refl _, by show 0 + l.length ≤ _; omega, fun k => absurd (show 0 + l.length ≤ 0 from k) (by omega), fun _ => ⟨(), trivial, ⟨⟨rfl, rfl, trivial⟩, trivial⟩, rfl, trivial⟩⟩⟩⟩, fun _ _ => ⟨?_, ⟨?_, ?_⟩, ?_⟩⟩
 ·refine ⟨by decide, fun _ => ?_, fun _ => ⟨fun _ => ?_, fun _ => ⟨fun _ => ?_, fun _ => ⟨fun _ => ?_, fun _ => .inl (.inl ⟨_, rfl, ⟨rfl, trivial, trivial⟩, trivial⟩)⟩⟩⟩⟩
  ·exact ⟨Int.le_refl _, by show (0 : Int) < (l.length : Int); omega, h1, .inl (.inr ⟨(_, 6), hmk _ _ (.inl ⟨rfl, rfl⟩), ⟨rfl, ⟨rfl, by show l.length = (l.set 0 _).length; rw [List.length_set], trivial⟩, trivial⟩, rfl, trivial⟩)⟩
  ·exact ⟨Int.le_refl _, by show (0 : Int) < (l.length : Int); omega, h1, .inl (.inr ⟨(_, 6), hmk _ _ (.inr (.inl ⟨rfl, rfl⟩)), ⟨rfl, ⟨rfl, by show l.length = (l.set 0 _).length; rw [List.length_set], trivial⟩, trivial⟩, rfl, trivial⟩)⟩
  ·refine ⟨by omega, by omega, Int.le_refl _, by omega, Int.le_refl _, by omega, Nat.le_refl _, by show 0 + l.length ≤ l.length; omega, by show l.length + 1 ≤ _; omega, .inl (.inr ⟨(l ++ [.int g], 5), hmk _ _ (.inr (.inr ⟨rfl, rfl⟩)), ⟨rfl, ⟨rfl, by show l.length + 1 = (l ++ [_]).length; rw [List.length_append]; rfl, trivial⟩, trivial⟩, ?_, trivial⟩)⟩
   show List.take l.length l ++ _ = l ++ _
   rw [List.take_length]; rfl
  ·exact ⟨by decide, by show (1 : Int) ≤ (l.length : Int); omega, by show (l.length : Int) ≤ (l.length : Int); omega, .inr ⟨_, rfl, ⟨rfl, ⟨rfl, rfl, trivial⟩, trivial⟩, rfl, trivial⟩⟩
 ·intro y hy
  have hq := form_ok h hi ht (X := .nil) (e := 2) (by decide) (err_E _ rfl (by omega)) (by decide) True trivial
  refine ⟨hq.1, fun u v => ?_⟩
  obtain ⟨a, b, c, d, f, g⟩ := hq.2 u v
  exact ⟨a, b, c, d, fun r hr => by obtain ⟨f1, f2, f3, f4, _, f5, f6, f7⟩ := f r hr; exact ⟨f1, f2, f3, f4, f5, f6, f7⟩, g⟩
 ·intro y hy
  obtain ⟨m1, m2, m3⟩ := hmis _ _ hy
  rw [List.take_length]
  exact form_ok h hi ht m1 m2 m3 _ (by omega)
 ·intro y hy
  subst hy
  have e2 : List.take (l.length - 1) (List.drop 1 l) = l.drop 1 := by
   rw [← List.length_drop, List.take_length]
  show cpC s ∧ ∀ (x_2 : Unit), True → _
  simp only [asList_list]
  rw [e2]
  exact form_ok h hi ht (by show (l.drop 1).length ≤ _; rw [List.length_drop]; omega) herr2 (by decide) _ (by omega)
theorem s3w (c w : D) (at_ where_ way x : Int) (hc : u8L c) (hw : u8W w) (ha : 0 ≤ at_ ∧ at_ < 256) (hb : 0 ≤ where_ ∧ where_ < 256) : symFun (ctxo wh1 whAnn whJoin) 6 3 [.dat 22 c, .dat 23 w, .int .u8 at_, .int .u8 where_, .int .u8 way, .int .i64 x] (.prop True) := by
 rw [vc3]
 have h := made_wrg hc hw
 have e1 : IntKind.i64.wrap at_ = at_ := wrap_inR (k := .i64) ⟨by omega, by omega⟩
 have e2 : IntKind.i64.wrap where_ = where_ := wrap_inR (k := .i64) ⟨by omega, by omega⟩
 rw [e1, e2]
 refine ⟨⟨hc, hw⟩, law_ok h x way _ _ (fun hs => ⟨Int.tmod_nonneg _ ha.1, Int.tmod_lt_of_pos _ (by omega)⟩) ⟨Int.tmod_nonneg _ hb.1, Int.tmod_lt_of_pos _ (by have := h.pos.1; omega)⟩⟩
end Go.Ev
