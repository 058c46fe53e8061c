/-
  Part of the engine that the claim is proved with: it states nothing of the document by itself.
-/
import Derived.Test.YtpopdemanadllaaGreatDoorCoreWhDefs
open Go.Proofs
namespace Go.Ev
set_option maxRecDepth 100000
set_option maxHeartbeats 4000000
structure wrgP (n : Int) (z s : D) : Prop where
 pig : pigF n z s
 row : ∀ i, i < s.len → ∃ l, el s i = .list l
 perm : ∀ i, i < s.len → (((el s i).asList.map D.asList).flatten).Perm (idL n.toNat)
 pos : 1 ≤ z.len ∧ ∀ j, j < z.len → 1 ≤ nAt z j ∧ nAt z j ≤ 6
 short : z.len ≤ 8
theorem made_wrg {c w : D} (hc : u8L c) (hw : u8W w) : wrgP (nD c) (szD c) (madeD c w) :=
 ⟨made_pig hc hw, fun _ hi => ⟨_, made_el hi⟩, fun _ hi => made_flat hc hw hi, ⟨(sz_p hc).l1.1, (sz_p hc).at1⟩, (sz_p hc).l1.2⟩
section
variable {n : Int} {z s : D} (h : wrgP n z s)
include h
theorem wrg_ev {i : Nat} (hi : i < s.len) : (el s i).len = z.len := (h.pig.tab i hi).1
theorem wrg_tb {i t : Nat} (hi : i < s.len) (ht : t < z.len) : 1 ≤ (el (el s i) t).len := by
 have h1 := (h.pig.tab i hi).2 t ht
 have h2 := h.pos.2 t ht
 omega
theorem wrg_t1 {i t : Nat} (hi : i < s.len) (ht : t < z.len) : ∃ l, el (el s i) t = .list l ∧ 1 ≤ l.length ∧ l.length ≤ 1000 := by
 have h1 := wrg_tb h hi ht
 have h2 := (h.pig.good.big.out.2 i hi).out.2 t (by rw [wrg_ev h hi]; exact ht)
 generalize el (el s i) t = d at h1 h2
 cases d <;> first | exact ⟨_, rfl, h1, h2⟩ | exact absurd h1 (by simp [D.len, D.asList])
end
theorem ev_split (E : D) {t : Nat} (ht : t < E.len) : ∃ A C : List D, flatL E E.len = A ++ (el E t).asList ++ C ∧ ∀ X : D, flatL (.list (E.asList.set t X)) (D.list (E.asList.set t X)).len = A ++ X.asList ++ C := by
 have f (e : D) : flatL e e.len = (e.asList.map D.asList).flatten := by
  rw [flat_map e _ (Nat.le_refl _)]; show ((e.asList.take e.asList.length).map D.asList).flatten = _; rw [List.take_length]
 have ht' : t < E.asList.length := ht
 refine ⟨((E.asList.take t).map D.asList).flatten, ((E.asList.drop (t + 1)).map D.asList).flatten, ?_, fun X => ?_⟩
 ·rw [f E]
  have e : E.asList = E.asList.take t ++ el E t :: E.asList.drop (t + 1) := by
   rw [el, nthD_at ht', ← List.drop_eq_getElem_cons ht', List.take_append_drop]
  conv => lhs; rw [e]
  simp
 ·rw [f]
  show ((E.asList.set t X).map D.asList).flatten = _
  rw [List.set_eq_take_append_cons_drop, if_pos ht']
  simp
section
variable {n : Int} {z s : D} {i t : Nat}
def evX (s : D) (i t : Nat) (X : D) : D := .list ((el s i).asList.set t X)
def bdX (s : D) (i t : Nat) (X : D) : List D := s.asList.set i (evX s i t X)
theorem evX_len (X : D) : (evX s i t X).len = (el s i).len := by show (List.set _ _ _).length = _; rw [List.length_set]; rfl
theorem evX_at (X : D) (ht : t < (el s i).len) (j : Nat) : el (evX s i t X) j = if t = j then X else el (el s i) j := nthD_set _ _ _ _ ht
theorem bdX_len (X : D) : (bdX s i t X).length = s.len := by show (List.set _ _ _).length = _; rw [List.length_set]; rfl
theorem bdX_take (X : D) : List.take s.len (bdX s i t X) = bdX s i t X := by rw [← bdX_len (s := s) (i := i) (t := t) X, List.take_length]
theorem bdX_at (X : D) (hi : i < s.len) (j : Nat) : el (.list (bdX s i t X)) j = if i = j then evX s i t X else el s j := nthD_set _ _ _ _ hi
theorem idL_in {n : Int} (h : 0 ≤ n) {l : List D} (p : l.Perm (idL n.toNat)) {a : D} (ha : a ∈ l) : 0 ≤ a.asInt ∧ a.asInt < n := by
 obtain ⟨k, hk, rfl⟩ := List.mem_map.1 (p.mem_iff.1 ha)
 have hk := List.mem_range.1 hk
 show 0 ≤ (k : Int) ∧ (k : Int) < n
 omega
theorem idL_len (m : Nat) : (idL m).length = m := by simp [idL]
theorem err_E (X : D) (hX : X.len = 0) (ht : t < (el s i).len) : errE n .nil (evX s i t X) = 2 :=
 (errE_2 (.inl ⟨t, by rw [evX_len]; exact ht, by rw [evX_at X ht, if_pos rfl]; exact hX⟩)).symm
theorem noEmpty (h : wrgP n z s) (hi : i < s.len) (ht : t < z.len) {X : D} (hX : 1 ≤ X.len) : ¬ emptyP (evX s i t X) := fun ⟨j, hj, h0⟩ => by
 have e := wrg_ev h hi
 rw [evX_at X (by omega)] at h0
 rw [evX_len] at hj
 split at h0
 ·omega
 ·have := wrg_tb h hi (t := j) (by omega); omega
theorem err_g (h : wrgP n z s) (hi : i < s.len) (ht : t < z.len) {X : D} (hX : 1 ≤ X.len) : errE n .nil (evX s i t X) = errG n (flatL (evX s i t X) (evX s i t X).len) :=
 errE_g (noEmpty h hi ht hX) fun k => absurd k (Nat.lt_irrefl 0)
theorem err_6 (h : wrgP n z s) (hi : i < s.len) (ht : t < z.len) {X : D} (hX : 1 ≤ X.len) (ho : outP n X.asList) : errE n .nil (evX s i t X) = 6 := by
 rw [err_g h hi ht hX]
 obtain ⟨A, C, _, h2⟩ := ev_split (el s i) (t := t) (by rw [wrg_ev h hi]; exact ht)
 rw [show flatL (evX s i t X) (evX s i t X).len = A ++ X.asList ++ C from h2 X]
 obtain ⟨a, ha, hna⟩ := ho
 exact errG_6 ⟨a, List.mem_append.2 (.inl (List.mem_append.2 (.inr ha))), hna⟩
theorem wrg_fl (h : wrgP n z s) (hi : i < s.len) : (flatL (el s i) (el s i).len).Perm (idL n.toNat) := by
 rw [flat_map _ _ (Nat.le_refl _)]
 show (List.flatten (List.map D.asList (List.take (el s i).asList.length (el s i).asList))).Perm _
 rw [List.take_length]; exact h.perm i hi
theorem err_5 (h : wrgP n z s) (hi : i < s.len) (ht : t < z.len) : errE n .nil (evX s i t (.list ((el (el s i) t).asList ++ [.int (nAt (el (el s i) 0) 0)]))) = 5 := by
 have hn := h.pig.good.n1
 have hev := wrg_ev h hi
 obtain ⟨A, C, h1, h2⟩ := ev_split (el s i) (t := t) (by omega)
 obtain ⟨A0, C0, h10, _⟩ := ev_split (el s i) (t := 0) (by have := h.pos; omega)
 have hp := wrg_fl h hi
 obtain ⟨l0, e0, hl0, _⟩ := wrg_t1 h hi (t := 0) (by have := h.pos; omega)
 have hg : 0 ≤ nAt (el (el s i) 0) 0 ∧ nAt (el (el s i) 0) 0 < n := by
  have hm : nthD (el (el s i) 0).asList 0 ∈ flatL (el s i) (el s i).len := by
   rw [h10]; exact List.mem_append.2 (.inl (List.mem_append.2 (.inr (nthD_mem (by rw [e0]; exact hl0)))))
  exact idL_in (by omega) hp hm
 rw [err_g h hi ht (by show 1 ≤ (_ ++ [_]).length; rw [List.length_append]; simp), show flatL (evX s i t _) (evX s i t _).len = A ++ _ ++ C from h2 _]
 generalize hG : nAt (el (el s i) 0) 0 = g at *
 show errG n (A ++ ((el (el s i) t).asList ++ [.int g]) ++ C) = 5
 refine errG_5 (x := g) (fun ⟨a, ha, hna⟩ => hna ?_) hg ?_
 ·rw [List.mem_append, List.mem_append, List.mem_append] at ha
  rcases ha with (ha | ha | ha) | ha
  ·exact idL_in (by omega) hp (by rw [h1]; exact List.mem_append.2 (.inl (List.mem_append.2 (.inl ha))))
  ·exact idL_in (by omega) hp (by rw [h1]; exact List.mem_append.2 (.inl (List.mem_append.2 (.inr ha))))
  ·rw [List.mem_singleton.1 ha]; exact hg
  ·exact idL_in (by omega) hp (by rw [h1]; exact List.mem_append.2 (.inr ha))
 ·have hc : cntF (A ++ (el (el s i) t).asList ++ C) g = 1 := by
   rw [← h1, cnt_perm hp, cnt_id, if_pos (by omega)]
  rw [cntF_app, cntF_app] at hc
  rw [cntF_app, cntF_app, cntF_app]
  have : cntF [D.int g] g = 1 := by show (0 : Int) + (if g = g then 1 else 0) = 1; rw [if_pos rfl]; rfl
  omega
theorem err_2 (h : wrgP n z s) (hi : i < s.len) (ht : t < z.len) : errE n .nil (evX s i t (.list ((el (el s i) t).asList.drop 1))) = 2 := by
 have hn := h.pig.good.n1
 have hev := wrg_ev h hi
 obtain ⟨l, e, hl, _⟩ := wrg_t1 h hi ht
 cases l with
 | nil => exact absurd hl (by simp)
 | cons a l =>
 rw [e]
 show errE n .nil (evX s i t (.list l)) = 2
 cases hl2 : l with
 | nil => exact err_E _ rfl (by omega)
 | cons b l' =>
 rw [← hl2]
 rw [err_g h hi ht (by show 1 ≤ l.length; rw [hl2]; simp)]
 obtain ⟨A, C, h1, h2⟩ := ev_split (el s i) (t := t) (by omega)
 have hp := wrg_fl h hi
 rw [show flatL (evX s i t (.list l)) (evX s i t (.list l)).len = A ++ l ++ C from h2 _]
 rw [e] at h1
 have h1 : flatL (el s i) (el s i).len = A ++ (a :: l) ++ C := h1
 rw [h1] at hp
 have ho : ¬ outP n (A ++ l ++ C) := fun ⟨x, hx, hnx⟩ => hnx (idL_in (by omega) hp (by
  simp only [List.mem_append, List.mem_cons] at hx ⊢
  rcases hx with (hx | hx) | hx
  ·exact .inl (.inl hx)
  ·exact .inl (.inr (.inr hx))
  ·exact .inr hx))
 have h1 : ∀ v : Nat, (v : Int) < n → cntF (A ++ l ++ C) v ≤ 1 := fun v hv => by
  have hc : cntF (A ++ (a :: l) ++ C) v = 1 := by rw [cnt_perm hp, cnt_id, if_pos (by omega)]
  rw [cntF_app, cntF_app] at hc
  have : cntF (a :: l) v = cntF l v + (if a.asInt = v then 1 else 0) := rfl
  rw [cntF_app, cntF_app]
  split at this <;> omega
 rw [errG_len (by omega) ho h1]
 have hlen := hp.length_eq
 rw [idL_len] at hlen
 simp only [List.length_append, List.length_cons] at hlen ⊢
 rw [if_pos (by omega)]
end
theorem scan_at {n : Int} {sz s : D} {i : Nat} : ∀ f k, k ≤ i → i < k + f → (∀ j, k ≤ j → j < i → errE n sz (el s j) = 0) → errE n sz (el s i) ≠ 0 → scanK n sz s f k = (((i : Nat) : Int), errE n sz (el s i))
 | 0, k, h1, h2, _, _ => by omega
 | f + 1, k, h1, h2, h3, h4 => by
  unfold scanK
  by_cases hk : k = i
  ·rw [hk, if_pos h4]
  ·rw [if_neg fun c => c (h3 k (Nat.le_refl _) (by omega))]
   exact scan_at f (k + 1) (by omega) (by omega) (fun j hj hji => h3 j (by omega) hji) h4
section
variable {n : Int} {z s : D} {i t : Nat}
theorem bad_chk (h : wrgP n z s) (hi : i < s.len) {X : D} (he : errE n .nil (evX s i t X) ≠ 0) : chk n .nil (.list (bdX s i t X)) = (((i : Nat) : Int), errE n .nil (evX s i t X)) := by
 have hL := good_lim h.pig.good
 have hl : (D.list (bdX s i t X)).len = s.len := bdX_len X
 rw [chk_s (sz := .nil) h.pig.good.n1 (fun k => absurd k (Nat.lt_irrefl 0)) (by omega)]
 have ha : el (.list (bdX s i t X)) i = evX s i t X := by rw [bdX_at X hi, if_pos rfl]
 rw [scan_at (i := i) _ 0 (Nat.zero_le _) (by omega) (fun j _ hj => by rw [bdX_at X hi, if_neg (by omega)]; exact good_err h.pig.good (by omega)) (by rw [ha]; exact he), ha]
theorem bad_big (h : wrgP n z s) (hi : i < s.len) (ht : t < z.len) {X : D} (hX : X.len ≤ 1000) : bigP (.list (bdX s i t X)) := by
 have hb := h.pig.good.big
 refine ⟨by show (bdX s i t X).length ≤ _; rw [bdX_len]; exact hb.out.1, fun j hj => ?_⟩
 have hj : j < s.len := by have : j < (bdX s i t X).length := hj; rw [bdX_len] at this; exact this
 rw [bdX_at X hi]
 split
 ·refine ⟨by rw [evX_len]; exact (hb.out.2 i hi).out.1, fun k hk => ?_⟩
  rw [evX_len] at hk
  rw [evX_at X (by rw [wrg_ev h hi]; exact ht)]
  split
  ·exact hX
  ·exact (hb.out.2 i hi).out.2 k hk
 ·exact hb.out.2 j hj
theorem bad_w (h : wrgP n z s) (hi : i < s.len) (ht : t < z.len) {X : D} (hX : X.len ≤ 1000) (he : errE n .nil (evX s i t X) ≠ 0) : badW n (.list (bdX s i t X)) :=
 ⟨bad_big h hi ht hX, fun hg => by have := hg.chk; rw [bad_chk h hi he] at this; exact he (congrArg Prod.snd this)⟩
theorem bad_hole (h : wrgP n z s) {X : D} : noHole (bdX s i t X) := ⟨fun v hv => by
 rcases List.mem_or_eq_of_mem_set hv with hv | hv
 ·obtain ⟨k, hk, e⟩ := List.getElem_of_mem hv
  obtain ⟨l, hl⟩ := h.row k hk
  rw [el, nthD_at hk, e] at hl; cases hl
 ·cases hv⟩
end
theorem sum_cong {a b : D} : ∀ m, (∀ j, j < m → nAt a j = nAt b j) → sumZ a m = sumZ b m
 | 0, _ => rfl
 | m + 1, h => by show sumZ a m + nAt a m = sumZ b m + nAt b m; rw [sum_cong m fun j hj => h j (by omega), h m (by omega)]
theorem fit_eq {n : Int} {a b : D} (e : eqN a b) (h : fitP n a) : fitP n b :=
 ⟨fun i hi => by rw [← e.out.2 i (by rw [e.out.1]; exact hi)]; exact h.out.1 i (by rw [e.out.1]; exact hi), by rw [← e.out.1, ← sum_cong a.len e.out.2]; exact h.out.2⟩
theorem eqN_symm {a b : D} (e : eqN a b) : eqN b a := ⟨e.out.1.symm, fun i hi => (e.out.2 i (by rw [e.out.1]; exact hi)).symm⟩
theorem same_eq {ev a b : D} (e : eqN a b) (h : sameSz ev a) : sameSz ev b := ⟨by rw [h.out.1, e.out.1], fun i hi => by rw [h.out.2 i hi]; exact e.out.2 i (by rw [← h.out.1]; exact hi)⟩
theorem chk_eq {n : Int} {a b s : D} (e : eqN a b) (h : chk n a s = (0, 0)) (hn : 1 ≤ n ∧ n ≤ 64) (ha : 0 < a.len → fitP n a) (hs : ¬ 64 < s.len) : chk n b s = (0, 0) := by
 rw [chk_s hn ha hs] at h
 rw [chk_s hn (fun k => fit_eq e (ha (by rw [e.out.1]; exact k))) hs]
 have : ∀ f i, scanK n a s f i = scanK n b s f i := by
  intro f
  induction f with
  | zero => intro i; rfl
  | succ f ih =>
   intro i
   unfold scanK
   have he : errE n a (el s i) = errE n b (el s i) := by
    by_cases hb : emptyP (el s i) ∨ (0 < a.len ∧ ¬ sameSz (el s i) a)
    ·rw [← errE_2 hb, ← errE_2]
     exact hb.imp_right fun hb => ⟨by rw [← e.out.1]; exact hb.1, fun k => hb.2 (same_eq (eqN_symm e) k)⟩
    ·have h1 : ¬ emptyP (el s i) := fun k => hb (.inl k)
     have h2 : 0 < a.len → sameSz (el s i) a := fun k => Classical.not_not.1 fun k' => hb (.inr ⟨k, k'⟩)
     rw [errE_g h1 h2, errE_g h1 fun k => same_eq e (h2 (by rw [e.out.1]; exact k))]
   rw [he, ih]
 rw [← this]; exact h
theorem wrg_ones {n : Int} {z s : D} (h : wrgP n z s) (hs : 0 < s.len) : ((chk n (.list (rpR n.toNat n.toNat)) s).2 = 0) ↔ eqN z (.list (rpR n.toNat n.toNat)) := by
 have hn := h.pig.good.n1
 have hL := good_lim h.pig.good
 generalize hO : D.list (rpR n.toNat n.toNat) = O
 have hOl : O.len = n.toNat := by rw [← hO]; show (List.replicate n.toNat _ ++ List.replicate (n.toNat - n.toNat) _).length = _; simp
 constructor
 ·intro hc
  have h2 := chk_two hc
  have hf : 0 < O.len → fitP n O := fun k => Classical.not_not.1 fun k' => by
   rw [chk_90 (.inr ⟨k, k'⟩)] at hc; exact absurd hc (by decide)
  rw [chk_s hn hf (by omega)] at h2
  have h0 : errE n O (el s 0) = 0 := by
   obtain ⟨m, hm⟩ : ∃ m, s.len = m + 1 := ⟨s.len - 1, by omega⟩
   rw [hm] at h2
   unfold scanK at h2
   exact Classical.not_not.1 fun k => by rw [if_pos k] at h2; exact k (congrArg Prod.snd h2)
  have hss : sameSz (el s 0) O := Classical.not_not.1 fun k => by
   rw [← errE_2 (n := n) (.inr ⟨by omega, k⟩)] at h0; exact absurd h0 (by decide)
  have ht := h.pig.tab 0 hs
  exact ⟨by rw [← ht.1]; exact hss.out.1, fun j hj => by rw [← ht.2 j hj]; exact hss.out.2 j (by rw [ht.1]; exact hj)⟩
 ·intro he
  rw [chk_eq he h.pig.chk1 hn (fun _ => h.pig.ok.fit) (by omega)]
theorem wrg_90 {n : Int} {z s : D} (h : wrgP n z s) : (chk n (.list (z.asList ++ [.int 1])) s).2 = 90 := by
 have hn := h.pig.good.n1
 rw [chk_90 (.inr ⟨by show 0 < (z.asList ++ [D.int 1]).length; simp, fun hf => ?_⟩)]
 have h1 := hf.out.2
 have hl : (D.list (z.asList ++ [D.int 1])).len = z.len + 1 := by show (z.asList ++ [D.int 1]).length = _; rw [List.length_append]; rfl
 rw [hl] at h1
 have h1 : sumZ (D.list (z.asList ++ [D.int 1])) z.len + nAt (D.list (z.asList ++ [D.int 1])) z.len = n := h1
 rw [sum_cong (b := z) z.len fun j hj => by
  show (nthD (z.asList ++ [D.int 1]) j).asInt = (nthD z.asList j).asInt
  simp only [nthD]; rw [List.getElem?_append_left hj]] at h1
 have h2 : nAt (D.list (z.asList ++ [D.int 1])) z.len = 1 := by
  show (nthD (z.asList ++ [D.int 1]) z.asList.length).asInt = 1
  simp [nthD, D.asInt]
 have h3 := h.pig.ok.fit.out.2
 omega
end Go.Ev
