/-
  Part of the engine that the claim is proved with: it states nothing of the document by itself.
-/
import Derived.Test.YtdcamlgidccamaaGreatDoorCoreRlDefs
import Derived.Test.YtdcamlgidccamaaGreatDoorCoreRfC
open Go.Proofs
namespace Go.Ev
set_option maxRecDepth 100000
set_option maxHeartbeats 4000000
theorem vc131 : ∀ (all : D) (x : Int), symFun (ctx rf2 rlAnn) 4 (131 : FuncId) [V.dat (91 : TypeId) all, V.int IntKind.i64 x] (V.tup [V.agg [V.int IntKind.i64 (knT all x), V.int IntKind.i64 (knK all x)], V.prop (knP all
 x)]) = (((x < 0 → False) → ((all.len : Int) ≤ x → (0 = knT all x ∧ 0 = knK all x ∧ True) ∧ (false = true ↔ knP all x) ∧ True) ∧ (((all.len : Int) ≤ x → False) → 0 ≤ x ∧ x < (all.len : Int) ∧ (((el all x.toNat).fld
 0).asInt = knT all x ∧ tShape (el all x.toNat) = knK all x ∧ True) ∧ (true = true ↔ knP all x) ∧ True)) ∧ (x < 0 → (0 = knT all x ∧ 0 = knK all x ∧ True) ∧ (false = true ↔ knP all x) ∧ True)) := by intros; kernel_rfl
theorem vc136 : ∀ (own l all far : D) (x y : Int), symFun (ctx rl1 rlAnn) 4 (136 : FuncId) [V.dat (22 : TypeId) own, V.dat (22 : TypeId) l, V.dat (91 : TypeId) all, V.int IntKind.i64 x, V.int IntKind.i64 y, V.dat (29 :
 TypeId) far] (V.prop True) = (True ∧ True ∧ (knP all x → (knP all y → (knT all x = knT all y → 0 ≤ knT all x ∧ knT all x < (l.len : Int) ∧ (inTab (tShape (el l (knT all x).toNat)) (tA (el l (knT all x).toNat)) (tB (el l
 (knT all x).toNat)) (knK all x) ∧ inTab (tShape (el l (knT all x).toNat)) (tA (el l (knT all x).toNat)) (tB (el l (knT all x).toNat)) (knK all y)) ∧ (inTab (tShape (el l (knT all x).toNat)) (tA (el l (knT all x).toNat))
 (tB (el l (knT all x).toNat)) (knK all x) ∧ inTab (tShape (el l (knT all x).toNat)) (tA (el l (knT all x).toNat)) (tB (el l (knT all x).toNat)) (knK all y)) ∧ 0 ≤ knK all y ∧ knK all y < (far.len : Int) ∧ 0 ≤ knK all y ∧
 knK all y < (far.len : Int) ∧ (smallD own ∧ i64P x ∧ i64P y) ∧ (smallD own ∧ i64P x ∧ i64P y) ∧ ((besideH own x y ↔ besideP (tShape (el l (knT all x).toNat)) (tA (el l (knT all x).toNat)) (tB (el l (knT all x).toNat))
 (knK all x) (knK all y)) → (smallD own ∧ i64P x ∧ i64P y) ∧ ((acrossH own x y ↔ acrossP (tShape (el l (knT all x).toNat)) (tA (el l (knT all x).toNat)) (tB (el l (knT all x).toNat)) (knK all x) (knK all y)) → (smallD own
 ∧ i64P x ∧ i64P y) ∧ ((besideP (tShape (el l (knT all x).toNat)) (tA (el l (knT all x).toNat)) (tB (el l (knT all x).toNat)) (knK all x) (knK all y) → False) → ((nearH own x y ↔ acrossP (tShape (el l (knT all x).toNat))
 (tA (el l (knT all x).toNat)) (tB (el l (knT all x).toNat)) (knK all x) (knK all y)) → ((distH own x y = bif true then max (el far (knK all y).toNat).asInt (0 : Int) else min (el far (knK all y).toNat).asInt (0 : Int)) →
 ((distP own x y ↔ 0 ≤ (el far (knK all y).toNat).asInt) ↔ True)) ∧ (((distH own x y = bif true then max (el far (knK all y).toNat).asInt (0 : Int) else min (el far (knK all y).toNat).asInt (0 : Int)) → False) → (false =
 true ↔ True))) ∧ (((nearH own x y ↔ acrossP (tShape (el l (knT all x).toNat)) (tA (el l (knT all x).toNat)) (tB (el l (knT all x).toNat)) (knK all x) (knK all y)) → False) → (false = true ↔ True))) ∧ (besideP (tShape (el
 l (knT all x).toNat)) (tA (el l (knT all x).toNat)) (tB (el l (knT all x).toNat)) (knK all x) (knK all y) → ((nearH own x y ↔ true = true) → ((distH own x y = bif true then max (el far (knK all y).toNat).asInt (0 : Int)
 else min (el far (knK all y).toNat).asInt (0 : Int)) → ((distP own x y ↔ 0 ≤ (el far (knK all y).toNat).asInt) ↔ True)) ∧ (((distH own x y = bif true then max (el far (knK all y).toNat).asInt (0 : Int) else min (el far
 (knK all y).toNat).asInt (0 : Int)) → False) → (false = true ↔ True))) ∧ (((nearH own x y ↔ true = true) → False) → (false = true ↔ True)))) ∧ (((acrossH own x y ↔ acrossP (tShape (el l (knT all x).toNat)) (tA (el l (knT
 all x).toNat)) (tB (el l (knT all x).toNat)) (knK all x) (knK all y)) → False) → (false = true ↔ True))) ∧ (((besideH own x y ↔ besideP (tShape (el l (knT all x).toNat)) (tA (el l (knT all x).toNat)) (tB (el l (knT all
 x).toNat)) (knK all x) (knK all y)) → False) → (false = true ↔ True))) ∧ ((knT all x = knT all y → False) → (smallD own ∧ i64P x ∧ i64P y) ∧ (smallD own ∧ i64P x ∧ i64P y) ∧ ((besideH own x y ↔ false = true) → (smallD
 own ∧ i64P x ∧ i64P y) ∧ ((acrossH own x y ↔ false = true) → (smallD own ∧ i64P x ∧ i64P y) ∧ ((nearH own x y ↔ false = true) → (distH own x y = 0 → ((distP own x y ↔ false = true) ↔ True)) ∧ ((distH own x y = 0 → False)
 → (false = true ↔ True))) ∧ (((nearH own x y ↔ false = true) → False) → (false = true ↔ True))) ∧ (((acrossH own x y ↔ false = true) → False) → (false = true ↔ True))) ∧ (((besideH own x y ↔ false = true) → False) →
 (false = true ↔ True)))) ∧ ((knP all y → False) → (smallD own ∧ i64P x ∧ i64P y) ∧ (smallD own ∧ i64P x ∧ i64P y) ∧ ((besideH own x y ↔ false = true) → (smallD own ∧ i64P x ∧ i64P y) ∧ ((acrossH own x y ↔ false = true) →
 (smallD own ∧ i64P x ∧ i64P y) ∧ ((nearH own x y ↔ false = true) → (distH own x y = 0 → ((distP own x y ↔ false = true) ↔ True)) ∧ ((distH own x y = 0 → False) → (false = true ↔ True))) ∧ (((nearH own x y ↔ false = true)
 → False) → (false = true ↔ True))) ∧ (((acrossH own x y ↔ false = true) → False) → (false = true ↔ True))) ∧ (((besideH own x y ↔ false = true) → False) → (false = true ↔ True)))) ∧ ((knP all x → False) → (smallD own ∧
 i64P x ∧ i64P y) ∧ (smallD own ∧ i64P x ∧ i64P y) ∧ ((besideH own x y ↔ false = true) → (smallD own ∧ i64P x ∧ i64P y) ∧ ((acrossH own x y ↔ false = true) → (smallD own ∧ i64P x ∧ i64P y) ∧ ((nearH own x y ↔ false =
 true) → (distH own x y = 0 → ((distP own x y ↔ false = true) ↔ True)) ∧ ((distH own x y = 0 → False) → (false = true ↔ True))) ∧ (((nearH own x y ↔ false = true) → False) → (false = true ↔ True))) ∧ (((acrossH own x y ↔
 false = true) → False) → (false = true ↔ True))) ∧ (((besideH own x y ↔ false = true) → False) → (false = true ↔ True)))) := by intros; kernel_rfl
theorem s131 (all : D) (x : Int) : symFun (ctx rf2 rlAnn) 4 131 [.dat 91 all, .int .i64 x] (.tup [.agg [.int .i64 (knT all x), .int .i64 (knK all x)], .prop (knP all x)]) := by
  rw [vc131]; simp only [imp_false]
  have hno : ¬ knP all x → ((0 : Int) = knT all x ∧ (0 : Int) = knK all x ∧ True) ∧ (false = true ↔ knP all x) ∧ True := fun h => by
    unfold knT knK; rw [if_neg h, if_neg h]; simp [h]
  refine ⟨fun h1 => ⟨fun h2 => hno fun h => by have := h.out; omega, fun h2 => ⟨by omega, by omega, ?_⟩⟩, fun h1 => hno fun h => by have := h.out; omega⟩
  have hy : knP all x := ⟨by omega, by omega⟩
  unfold knT knK; rw [if_pos hy, if_pos hy]
  exact ⟨⟨rfl, rfl, trivial⟩, ⟨fun _ => hy, fun _ => trivial⟩, trivial⟩
theorem seat_at (l : D) : ∀ n x, x < (seatsL l n).length → ∃ j k : Nat, j < n ∧ k < (sizeT' (el l j)).toNat ∧ (x : Int) = sumZ l j + k ∧ (seatsL l n)[x]? = some (.sct [.int (j : Int), .int (k : Int)])
  | 0, x, h => by simp [seatsL] at h
  | n + 1, x, h => by
    have hs := seats_sum l n
    have e : seatsL l (n + 1) = seatsL l n ++ seatRow n (sizeT' (el l n)).toNat := rfl
    rw [e] at h ⊢
    by_cases hx : x < (seatsL l n).length
    · obtain ⟨j, k, h1, h2, h3, h4⟩ := seat_at l n x hx
      exact ⟨j, k, by omega, h2, h3, by rw [List.getElem?_append_left hx]; exact h4⟩
    · rw [List.length_append, row_len] at h
      refine ⟨n, x - (seatsL l n).length, by omega, by omega, by omega, ?_⟩
      rw [List.getElem?_append_right (by omega)]
      unfold seatRow
      rw [List.getElem?_map, List.getElem?_range (by omega)]; rfl
theorem kn_where {l all : D} (ha : all = allD l) (x : Int) : (knP all x ↔ whereP l x) ∧ knT all x = whereT l x ∧ knK all x = whereK l x := by
  have hno : ¬ knP all x → whereO l x = none → (knP all x ↔ whereP l x) ∧ knT all x = whereT l x ∧ knK all x = whereK l x := fun h h' => by
    refine ⟨⟨fun g => absurd g h, fun g => absurd h' g.out⟩, ?_, ?_⟩
    · unfold knT whereT; rw [if_neg h, h']; rfl
    · unfold knK whereK; rw [if_neg h, h']; rfl
  by_cases hok : okHall l
  · have e : all = listD (seatsL l l.len) := by rw [ha]; unfold allD; rw [if_pos hok]
    have hlen : all.len = (seatsL l l.len).length := by rw [e]; exact listD_len _
    by_cases hx : knP all x
    · have h0 := hx.out
      obtain ⟨j, k, h1, h2, h3, h4⟩ := seat_at l l.len x.toNat (by omega)
      have hw : whereO l x = some ((j : Int), (k : Int)) := by
        unfold whereO; rw [if_neg (by rintro (h | h); · omega
                                      · exact h hok)]
        have := where_at l (j := j) (k := (k : Int)) (by omega) (by omega) l.len 0 (by omega) (by omega)
        rw [show sumZ l j - sumZ l 0 + (k : Int) = x by have : sumZ l 0 = 0 := rfl; omega] at this
        exact this
      have hel : el all x.toNat = .sct [.int (j : Int), .int (k : Int)] := by
        unfold el nthD; rw [e, listD_as, h4]; rfl
      refine ⟨⟨fun _ => ⟨by rw [hw]; simp⟩, fun _ => hx⟩, ?_, ?_⟩
      · unfold knT whereT; rw [if_pos hx, hel, hw]; rfl
      · unfold knK whereK; rw [if_pos hx, hel, hw]; rfl
    · refine hno hx ?_
      unfold whereO
      by_cases h0 : x < 0 ∨ ¬ okHall l
      · rw [if_pos h0]
      · rw [if_neg h0]
        apply where_off
        have := seats_sum l l.len
        have h1 : ¬ (0 ≤ x ∧ x < all.len) := fun h => hx ⟨h⟩
        have h2 : sumZ l 0 = 0 := rfl
        rw [Nat.zero_add]
        have h3 : ¬ x < 0 := fun h => h0 (.inl h)
        omega
  · have e : all = .nil := by rw [ha]; unfold allD; rw [if_neg hok]
    refine hno (fun h => ?_) (by unfold whereO; rw [if_pos (.inr hok)])
    have := h.out; rw [e] at this; simp [len_nil] at this; omega
/-! ### A copied hall -/
theorem c_ok (l : D) : okHall (copyD l) = okHall l := propext ⟨fun h => ⟨by have := h.out; rw [c_bad] at this; exact this⟩, fun h => ⟨by rw [c_bad]; exact h.out⟩⟩
theorem c_whereZ (l : D) : ∀ f i k, whereZ (copyD l) f i k = whereZ l f i k
  | 0, _, _ => rfl
  | f + 1, i, k => by unfold whereZ; rw [c_size, c_whereZ l f]
theorem c_whereO (l : D) (p : Int) : whereO (copyD l) p = whereO l p := by unfold whereO; rw [c_ok, copy_dlen, c_whereZ]
theorem c_whereT (l : D) (p : Int) : whereT (copyD l) p = whereT l p := by unfold whereT; rw [c_whereO]
theorem c_whereK (l : D) (p : Int) : whereK (copyD l) p = whereK l p := by unfold whereK; rw [c_whereO]
theorem c_whereP (l : D) (p : Int) : whereP (copyD l) p = whereP l p := propext ⟨fun h => ⟨by have := h.out; rw [c_whereO] at this; exact this⟩, fun h => ⟨by rw [c_whereO]; exact h.out⟩⟩
theorem c_one (l : D) (p q : Int) : oneT (copyD l) p q = oneT l p q := propext ⟨fun h => ⟨by have := h.out; rw [c_whereP, c_whereP, c_whereT, c_whereT] at this; exact this⟩, fun h => ⟨by rw [c_whereP, c_whereP, c_whereT, c_whereT]; exact h.out⟩⟩
theorem c_tab (l : D) (p : Int) : tShape (tabAt (copyD l) p) = tShape (tabAt l p) ∧ tA (tabAt (copyD l) p) = tA (tabAt l p) ∧ tB (tabAt (copyD l) p) = tB (tabAt l p) := by
  unfold tabAt
  rw [c_whereT]
  rcases copy_el l (whereT l p).toNat with ⟨_, h⟩ | ⟨h, h'⟩
  · rw [h]; exact ⟨rfl, rfl, rfl⟩
  · rw [h, h']; exact ⟨rfl, rfl, rfl⟩
theorem c_tabS (l : D) (p : Int) : sizeT' (tabAt (copyD l) p) = sizeT' (tabAt l p) := by unfold tabAt; rw [c_whereT]; exact c_size l _
theorem c_row (l : D) (p : Int) : rowT (copyD l) p = rowT l p := by
  unfold rowT; obtain ⟨h1, h2, h3⟩ := c_tab l p; rw [h1, h2, h3, c_tabS, c_whereK]
theorem c_distD (l : D) (p q : Int) : distD (copyD l) p q = distD l p q := by unfold distD; rw [c_row, c_whereK]
theorem c_distP (l : D) (p q : Int) : distP (copyD l) p q = distP l p q := propext ⟨fun h => ⟨by have := h.out; rw [c_one, c_distD] at this; exact this⟩, fun h => ⟨by rw [c_one, c_distD]; exact h.out⟩⟩
theorem c_distH (l : D) (p q : Int) : distH (copyD l) p q = distH l p q := by unfold distH; rw [c_distP, c_distD]
theorem c_besideH (l : D) (p q : Int) : besideH (copyD l) p q = besideH l p q := by
  obtain ⟨h1, h2, h3⟩ := c_tab l p
  exact propext ⟨fun h => ⟨by have := h.out; rw [c_one, h1, h2, h3, c_whereK, c_whereK] at this; exact this⟩, fun h => ⟨by rw [c_one, h1, h2, h3, c_whereK, c_whereK]; exact h.out⟩⟩
theorem c_acrossH (l : D) (p q : Int) : acrossH (copyD l) p q = acrossH l p q := by
  obtain ⟨h1, h2, h3⟩ := c_tab l p
  exact propext ⟨fun h => ⟨by have := h.out; rw [c_one, h1, h2, h3, c_whereK, c_whereK] at this; exact this⟩, fun h => ⟨by rw [c_one, h1, h2, h3, c_whereK, c_whereK]; exact h.out⟩⟩
theorem c_nearH (l : D) (p q : Int) : nearH (copyD l) p q = nearH l p q := by
  obtain ⟨h1, h2, h3⟩ := c_tab l p
  exact propext ⟨fun h => ⟨by have := h.out; rw [c_one, h1, h2, h3, c_whereK, c_whereK] at this; exact this⟩, fun h => ⟨by rw [c_one, h1, h2, h3, c_whereK, c_whereK]; exact h.out⟩⟩
theorem nearH_or (l : D) (p q : Int) : nearH l p q ↔ besideH l p q ∨ acrossH l p q :=
  ⟨fun h => h.out.2.out.imp (fun g => ⟨h.out.1, g⟩) (fun g => ⟨h.out.1, g⟩), fun h => h.elim (fun g => ⟨g.out.1, ⟨.inl g.out.2⟩⟩) (fun g => ⟨g.out.1, ⟨.inr g.out.2⟩⟩)⟩
theorem s136 (own l all far : D) (x y : Int) (ha : asked own l all) (hx : i64P x) (hy : i64P y) (hf : far = farD l x) : symFun (ctx rl1 rlAnn) 4 136 [.dat 22 own, .dat 22 l, .dat 91 all, .int .i64 x, .int .i64 y, .dat 29 far] (.prop True) := by
  rw [vc136]
  obtain ⟨hc, hsm, hall⟩ := ha
  obtain ⟨p1, t1, k1⟩ := kn_where hall x
  obtain ⟨p2, t2, k2⟩ := kn_where hall y
  have hs3 : smallD own ∧ i64P x ∧ i64P y := ⟨by rw [hc]; exact c_small hsm, hx, hy⟩
  rw [t1, t2, k1, k2]
  have eb : besideH own x y = besideH l x y := by rw [hc, c_besideH]
  have ea : acrossH own x y = acrossH l x y := by rw [hc, c_acrossH]
  have en : nearH own x y = nearH l x y := by rw [hc, c_nearH]
  have ed : distH own x y = distH l x y := by rw [hc, c_distH]
  have ep : distP own x y = distP l x y := by rw [hc, c_distP]
  rw [eb, ea, en, ed, ep]
  have hno : ¬ oneT l x y → ¬ besideH l x y ∧ ¬ acrossH l x y ∧ ¬ nearH l x y ∧ distH l x y = 0 ∧ ¬ distP l x y := fun h =>
    ⟨fun g => h g.out.1, fun g => h g.out.1, fun g => h g.out.1, by unfold distH; rw [if_neg fun g => h g.out.1], fun g => h g.out.1⟩
  refine ⟨trivial, trivial, fun h1 => ⟨fun h2 => ⟨fun h3 => ?_, fun h3 => ?_⟩, fun h2 => ?_⟩, fun h1 => ?_⟩
  · have w1 := p1.1 h1
    have w2 := p2.1 h2
    obtain ⟨a1, a2, a3⟩ := whereP_tab w1
    obtain ⟨_, _, b3⟩ := whereP_tab w2
    rw [← h3] at b3
    have ho : oneT l x y := ⟨w1, w2, h3⟩
    have qb : besideP (tShape (el l (whereT l x).toNat)) (tA (el l (whereT l x).toNat)) (tB (el l (whereT l x).toNat)) (whereK l x) (whereK l y) ↔ besideH l x y := ⟨fun h => ⟨ho, h⟩, fun h => h.out.2⟩
    have qa : acrossP (tShape (el l (whereT l x).toNat)) (tA (el l (whereT l x).toNat)) (tB (el l (whereT l x).toNat)) (whereK l x) (whereK l y) ↔ acrossH l x y := ⟨fun h => ⟨ho, h⟩, fun h => h.out.2⟩
    have qn := nearH_or l x y
    have hfl : far = .list (rowT l x) := by rw [hf]; unfold farD; rw [if_pos w1]
    have hd : (el far (whereK l y).toNat).asInt = distD l x y := by rw [hfl]; rfl
    have hfn : (far.len : Int) = sizeZ (tShape (el l (whereT l x).toNat)) (tA (el l (whereT l x).toNat)) (tB (el l (whereT l x).toNat)) := by
      have : far.len = (sizeT' (tabAt l x)).toNat := by rw [hfl]; show (rowT l x).length = _; unfold rowT; exact len_dist _ _ _ _ _
      rw [this]
      have hz := a3.out
      show (((sizeZ (tShape (el l (whereT l x).toNat)) (tA (el l (whereT l x).toNat)) (tB (el l (whereT l x).toNat))).toNat : Nat) : Int) = _
      omega
    have hk := b3.out
    rw [hd, qb, qa]
    have hpd : distP l x y ↔ 0 ≤ distD l x y := ⟨fun h => h.out.2, fun h => ⟨ho, h⟩⟩
    have hmx : distH l x y = max (distD l x y) 0 := by
      unfold distH
      by_cases h : distP l x y
      · rw [if_pos h]; have := hpd.1 h; omega
      · rw [if_neg h]; have : ¬ 0 ≤ distD l x y := fun g => h (hpd.2 g); omega
    refine ⟨a1, a2, ⟨a3, b3⟩, ⟨a3, b3⟩, hk.2.1, by omega, hk.2.1, by omega, hs3, hs3, fun _ => ⟨hs3, fun _ => ⟨hs3, fun g1 => ⟨fun _ => ⟨fun _ => by simp [hpd], fun g2 => absurd hmx g2⟩, fun g2 => absurd (by rw [qn]; have g1 : ¬ besideH l x y := g1; simp [g1]) g2⟩, fun g1 => ⟨fun _ => ⟨fun _ => by simp [hpd], fun g2 => absurd hmx g2⟩, fun g2 => absurd (by rw [qn]; simp [g1]) g2⟩⟩, fun g => absurd Iff.rfl g⟩, fun g => absurd Iff.rfl g⟩
  all_goals
    have hn : ¬ oneT l x y := fun h => by
      first
        | exact h3 h.out.2.2
        | exact h2 (p2.2 h.out.2.1)
        | exact h1 (p1.2 h.out.1)
    obtain ⟨n1, n2, n3, n4, n5⟩ := hno hn
    simp [hs3, n1, n2, n3, n4, n5]
theorem v131 : ∀ d, 49 ≤ d → VC d 131 con131 := fun d hd =>
  valid_of_sym (C := ctx rf2 rlAnn) (G := GC) (B := 45) (m := 4) rfl rfl rfl vf2 (fun us p r hc hp ht => by
    unfold con131 at hc; split at hc
    · cases hc; exact s131 _ _
    · cases hc) (fun _ _ => rfl) rfl d hd
theorem vl1 : ∀ d, 58 ≤ d → ∀ g c, rl1 g = some c → VC d g c := fun d hd g c h => by
  unfold rl1 at h
  split at h
  · cases h; exact valid_nil (fun t ht => by simp at ht; subst ht; rfl) (vf2 d (by omega) 43 con43 rfl)
  · cases h; exact v134 d (by omega)
  · cases h; exact v132 d (by omega)
  · cases h; exact valid_nil (fun t ht => by simp at ht; subst ht; rfl) (v131 d (by omega))
  · cases h; exact v32 d (by omega)
  · cases h; exact v34 d (by omega)
  · cases h; exact v35 d (by omega)
  · cases h; exact v33 d (by omega)
  · cases h; exact v45 d (by omega)
  · cases h; exact v54 d (by omega)
  · cases h; exact v53 d (by omega)
  · exact vf2 d (by omega) _ c h
theorem v136 : ∀ d, 62 ≤ d → VC d 136 con136 := fun d hd =>
  valid_of_sym (C := ctx rl1 rlAnn) (G := GC) (B := 58) (m := 4) rfl rfl rfl vl1 (fun us p r hc hp ht => by
    unfold con136 at hc; split at hc
    · cases hc; exact s136 _ _ _ _ _ _ hp.1 hp.2.1 hp.2.2.1 hp.2.2.2
    · cases hc) (fun _ _ => rfl) rfl d hd
theorem vl2 : ∀ d, 62 ≤ d → ∀ g c, rl2 g = some c → VC d g c := fun d hd g c h => by
  unfold rl2 at h
  split at h
  · cases h; exact valid_nil (fun t ht => by simp at ht; rcases ht with rfl | rfl <;> rfl) (v136 d hd)
  · exact vl1 d (by omega) _ c h
end Go.Ev
