/-
  Part of the engine that the claim is proved with: it states nothing of the document by itself.
-/
import Derived.Test.YtdcamlgidccamaaGreatDoorCoreNumDefs
import Derived.Test.YtdcamlgidccamaaGreatDoorCoreMade
import Derived.Test.YtdcamlgidccamaaGreatDoorCoreChkLaw
open Go.Proofs
namespace Go.Ev
set_option maxRecDepth 100000
set_option maxHeartbeats 1000000
theorem vc113 : ∀ (l : D), symFun (ctx chk3 numAnn) 5 (113 : FuncId) [V.dat (22 : TypeId) l] (V.prop (okHall l)) = (smallD l ∧ ((badZ l).snd = 0 ↔ okHall l)) := by intros; kernel_rfl
theorem vc50 : ∀ (nm : List UInt8) (sh a b : Int) (o : D) (x y : Int), symFun (ctx chk3 numAnn) 5 (50 : FuncId) [V.agg [V.str nm, V.int IntKind.u8 sh, V.int IntKind.i64 a, V.int IntKind.i64 b, V.dat (29 : TypeId) o,
 V.int IntKind.i64 x, V.int IntKind.i64 y]] (V.int IntKind.i64 (seatsZ nm sh a b o x y)) = (o.len ≤ 100 ∧ ((errZ nm sh a b o x y = 0 → False) → 0 = seatsZ nm sh a b o x y) ∧ (((errZ nm sh a b o x y = 0 → False) → False) →
 (sizeZ sh a b = 0 → False) ∧ sizeZ sh a b = seatsZ nm sh a b o x y)) := by intros; kernel_rfl
theorem vc55 : ∀ (l : D), symFun (ctx num1 numAnn) 5 (55 : FuncId) [V.dat (22 : TypeId) l] (V.int IntKind.i64 (countZ l)) = (smallD l ∧ ((okHall l → False) → 0 = countZ l) ∧ (((okHall l → False) → False) → (0 ≤ (l.len :
 Int) ∧ (l.len : Int) ≤ (l.len : Int) ∧ seatedD l) ∧ sumZ l l.len = countZ l)) := by intros; kernel_rfl
theorem vc52 : ∀ (l : D) (t : Int), symFun (ctx num1 numAnn) 5 (52 : FuncId) [V.dat (22 : TypeId) l, V.int IntKind.i64 t] (V.int IntKind.i64 (firstZ l t)) = ((0 ≤ t → (t < (l.len : Int) → smallD l ∧ ((okHall l → False) →
 0 = firstZ l t) ∧ (((okHall l → False) → False) → (0 ≤ t ∧ t ≤ (l.len : Int) ∧ seatedD l) ∧ sumZ l t.toNat = firstZ l t)) ∧ ((t < (l.len : Int) → False) → 0 = firstZ l t)) ∧ ((0 ≤ t → False) → 0 = firstZ l t)) := by intros; kernel_rfl
theorem vc57 : ∀ (l : D) (s : List UInt8), symFun (ctx num1 numAnn) 5 (57 : FuncId) [V.dat (22 : TypeId) l, V.str s] (V.tup [V.int IntKind.i64 (findZ l s), V.prop (foundP l s)]) = (smallD l ∧ ((okHall l → False) → 0 =
 findZ l s ∧ (false = true ↔ foundP l s) ∧ True) ∧ (((okHall l → False) → False) → l.len ≤ 100 ∧ (0 ≤ idxZ l s l.len 0 → idxZ l s l.len 0 = findZ l s ∧ (true = true ↔ foundP l s) ∧ True) ∧ ((0 ≤ idxZ l s l.len 0 → False)
 → 0 = findZ l s ∧ (false = true ↔ foundP l s) ∧ True))) := by intros; kernel_rfl
theorem vc56 : ∀ (l : D) (n : Int), symFun (ctx num1 numAnn) 5 (56 : FuncId) [V.dat (22 : TypeId) l, V.int IntKind.i64 n] (V.tup [V.int IntKind.i64 (whereT l n), V.int IntKind.i64 (whereK l n), V.prop (whereP l n)]) =
 (((n < 0 → False) → smallD l ∧ ((okHall l → False) → 0 = whereT l n ∧ 0 = whereK l n ∧ (false = true ↔ whereP l n) ∧ True) ∧ (((okHall l → False) → False) → (∃ (x : Nat × Int), (x.fst ≤ l.len ∧ 0 ≤ x.snd ∧ x.snd ≤ n ∧
 whereZ l (l.len - x.fst) x.fst x.snd = whereZ l l.len 0 n) ∧ (0 = (x.fst : Int) ∧ n = x.snd ∧ True) ∧ True) ∧ ∀ (x : Nat × Int), x.fst ≤ l.len ∧ 0 ≤ x.snd ∧ x.snd ≤ n ∧ whereZ l (l.len - x.fst) x.fst x.snd = whereZ l
 l.len 0 n → l.len - x.fst < LIM ∧ ((x.fst : Int) < (l.len : Int) → 0 ≤ (x.fst : Int) ∧ (x.fst : Int) < (l.len : Int) ∧ (sizeT' (el l x.fst) = 0 → False) ∧ (x.snd < sizeT' (el l x.fst) → (x.fst : Int) = whereT l n ∧ x.snd
 = whereK l n ∧ (true = true ↔ whereP l n) ∧ True) ∧ ((x.snd < sizeT' (el l x.fst) → False) → ((-9223372036854775808) ≤ x.snd - sizeT' (el l x.fst) ∧ x.snd - sizeT' (el l x.fst) < 9223372036854775808) ∧
 ((-9223372036854775808) ≤ (x.fst : Int) + 1 ∧ (x.fst : Int) + 1 < 9223372036854775808) ∧ ∃ (y : Nat × Int), (y.fst ≤ l.len ∧ 0 ≤ y.snd ∧ y.snd ≤ n ∧ whereZ l (l.len - y.fst) y.fst y.snd = whereZ l l.len 0 n) ∧ l.len -
 y.fst < l.len - x.fst ∧ ((x.fst : Int) + 1 = (y.fst : Int) ∧ x.snd - sizeT' (el l x.fst) = y.snd ∧ True) ∧ True)) ∧ (((x.fst : Int) < (l.len : Int) → False) → 0 = whereT l n ∧ 0 = whereK l n ∧ (false = true ↔ whereP l n)
 ∧ True))) ∧ (n < 0 → 0 = whereT l n ∧ 0 = whereK l n ∧ (false = true ↔ whereP l n) ∧ True)) := by intros; kernel_rfl
/-! ### Tables that are made of numbers are valid -/
theorem listD_as (l : List D) : (listD l).asList = l := by cases l <;> rfl
/-! ### The contracts -/
theorem s113 (l : D) (h : smallD l) : symFun (ctx chk3 numAnn) 5 113 [.dat 22 l] (.prop (okHall l)) := by
  rw [vc113]
  exact ⟨h, fun h => ⟨h⟩, fun h => h.out⟩
theorem s50 (nm : List UInt8) (sh a b : Int) (o : D) (x y : Int) (h : o.len ≤ 100) : symFun (ctx chk3 numAnn) 5 50 [.agg [.str nm, .int .u8 sh, .int .i64 a, .int .i64 b, .dat 29 o, .int .i64 x, .int .i64 y]] (.int .i64 (seatsZ nm sh a b o x y)) := by
  rw [vc50]
  simp only [imp_false, Classical.not_not]
  refine ⟨h, fun he => by unfold seatsZ; rw [if_neg he], fun he => ⟨fun hz => ?_, by unfold seatsZ; rw [if_pos he]⟩⟩
  by_cases hn : nameP nm
  · rw [err_shape hn hz] at he; omega
  · rw [err_name hn] at he; omega
/-- Where a seat of a table is. -/
theorem sum_le (l : D) {i j : Nat} (h : i ≤ j) : sumZ l i ≤ sumZ l j := by
  induction j with
  | zero => rw [show i = 0 by omega]; exact Int.le_refl _
  | succ j ih =>
    rcases Nat.eq_or_lt_of_le h with e | e
    · rw [e]; exact Int.le_refl _
    · have := ih (by omega)
      have := (size_lim2 (el l j)).1
      show sumZ l i ≤ sumZ l j + sizeT' (el l j)
      omega
theorem where_at (l : D) {j : Nat} {k : Int} (hk : 0 ≤ k) (hk2 : k < sizeT' (el l j)) : ∀ f i, i ≤ j → j < i + f → whereZ l f i (sumZ l j - sumZ l i + k) = some ((j : Int), k)
  | 0, i, h1, h2 => by omega
  | f + 1, i, h1, h2 => by
    unfold whereZ
    rcases Nat.eq_or_lt_of_le h1 with e | e
    · subst e
      rw [if_pos (by omega)]
      congr 2; omega
    · have h3 := sum_le l (show i + 1 ≤ j by omega)
      have h4 : sumZ l (i + 1) = sumZ l i + sizeT' (el l i) := rfl
      rw [if_neg (by omega)]
      have := where_at l hk hk2 f (i + 1) (by omega) (by omega)
      rw [← this]; congr 1; omega
theorem where_off (l : D) : ∀ f i (n : Int), sumZ l (i + f) - sumZ l i ≤ n → whereZ l f i n = none
  | 0, _, _, _ => rfl
  | f + 1, i, n, h => by
    unfold whereZ
    have h3 := sum_le l (show i + 1 ≤ i + (f + 1) by omega)
    have h4 : sumZ l (i + 1) = sumZ l i + sizeT' (el l i) := rfl
    rw [if_neg (by omega)]
    exact where_off l f (i + 1) _ (by rw [show i + 1 + f = i + (f + 1) by omega]; omega)
theorem ok_seated {l : D} (hs : smallD l) (h : okHall l) : seatedD l := ⟨hs.out.1, fun i hi => err_size (bad_ok h.out i hi).1⟩
theorem s55 (l : D) (h : smallD l) : symFun (ctx num1 numAnn) 5 55 [.dat 22 l] (.int .i64 (countZ l)) := by
  rw [vc55]
  simp only [imp_false, Classical.not_not]
  exact ⟨h, fun hn => by unfold countZ; rw [if_neg hn], fun ho => ⟨⟨by omega, by omega, ok_seated h ho⟩, by unfold countZ; rw [if_pos ho]⟩⟩
theorem s52 (l : D) (t : Int) (h : smallD l) : symFun (ctx num1 numAnn) 5 52 [.dat 22 l, .int .i64 t] (.int .i64 (firstZ l t)) := by
  rw [vc52]
  simp only [imp_false, Classical.not_not]
  have no : ¬ ((0 ≤ t ∧ t < l.len) ∧ okHall l) → 0 = firstZ l t := fun hn => by unfold firstZ; rw [if_neg hn]
  refine ⟨fun h0 => ⟨fun h1 => ⟨h, fun hn => no fun hh => hn hh.2, fun ho => ⟨⟨h0, by omega, ok_seated h ho⟩, by unfold firstZ; rw [if_pos ⟨⟨h0, h1⟩, ho⟩]⟩⟩, fun h1 => no fun hh => h1 hh.1.2⟩, fun h0 => no fun hh => h0 hh.1.1⟩
theorem s57 (l : D) (s : List UInt8) (h : smallD l) : symFun (ctx num1 numAnn) 5 57 [.dat 22 l, .str s] (.tup [.int .i64 (findZ l s), .prop (foundP l s)]) := by
  rw [vc57]
  simp only [imp_false, Classical.not_not, and_true]
  have no : ¬ foundP l s → 0 = findZ l s ∧ (false = true ↔ foundP l s) := fun hn => ⟨by unfold findZ; rw [if_neg hn], fun h => by simp at h, fun h => absurd h hn⟩
  have yes : foundP l s → idxZ l s l.len 0 = findZ l s ∧ (True ↔ foundP l s) := fun hn => ⟨by unfold findZ; rw [if_pos hn], fun _ => hn, fun _ => trivial⟩
  exact ⟨h, fun hn => no fun hh => hn hh.out.1, fun ho => ⟨h.out.1, fun hi => yes ⟨⟨ho, hi⟩⟩, fun hi => no fun hh => hi hh.out.2⟩⟩
theorem s56 (l : D) (n : Int) (h : smallD l) (hn : -9223372036854775808 ≤ n ∧ n < 9223372036854775808) : symFun (ctx num1 numAnn) 5 56 [.dat 22 l, .int .i64 n] (.tup [.int .i64 (whereT l n), .int .i64 (whereK l n), .prop (whereP l n)]) := by
  rw [vc56]
  simp only [imp_false, Classical.not_not, and_true]
  have no : whereO l n = none → 0 = whereT l n ∧ 0 = whereK l n ∧ (false = true ↔ whereP l n) := fun e => ⟨by unfold whereT; rw [e]; rfl, by unfold whereK; rw [e]; rfl, fun h => by simp at h, fun h => absurd e h.out⟩
  have yes : ∀ t k, whereO l n = some (t, k) → t = whereT l n ∧ k = whereK l n ∧ (True ↔ whereP l n) := fun t k e => ⟨by unfold whereT; rw [e]; rfl, by unfold whereK; rw [e]; rfl, fun _ => ⟨by rw [e]; simp⟩, fun _ => trivial⟩
  have hlen := h.out.1
  refine ⟨fun h0 => ⟨h, fun ho => no (by unfold whereO; rw [if_pos (.inr ho)]), fun ho => ⟨⟨(0, n), ⟨by simp, by show 0 ≤ n; omega, Int.le_refl _, rfl⟩, rfl, rfl⟩, fun x ⟨h1, h2, h3, h4⟩ => ⟨by unfold LIM; omega, fun hlt => ?_, fun hge => no ?_⟩⟩⟩, fun h0 => no (by unfold whereO; rw [if_pos (.inl h0)])⟩
  · have hO : whereO l n = whereZ l (l.len - x.1) x.1 x.2 := by unfold whereO; rw [if_neg (fun hh => by rcases hh with hh | hh; exact h0 hh; exact hh ho), h4]
    have hz : l.len - x.1 = (l.len - (x.1 + 1)) + 1 := by omega
    have hsz := size_lim2 (el l x.1)
    refine ⟨by omega, hlt, (ok_seated h ho).out.2 x.1 (by omega), fun hk => yes _ _ ?_, fun hk => ⟨by omega, by omega, (x.1 + 1, x.2 - sizeT' (el l x.1)), ⟨by show x.1 + 1 ≤ l.len; omega, by show 0 ≤ x.2 - sizeT' (el l x.1); omega, by show x.2 - sizeT' (el l x.1) ≤ n; omega, ?_⟩, by show l.len - (x.1 + 1) < _; omega, by show _ = ((x.1 + 1 : Nat) : Int); omega, rfl⟩⟩
    · rw [hO, hz]; unfold whereZ; rw [if_pos hk]
    · rw [← h4, hz]
      show whereZ l (l.len - (x.1 + 1)) (x.1 + 1) (x.2 - sizeT' (el l x.1)) = whereZ l (l.len - (x.1 + 1) + 1) x.1 x.2
      rw [show whereZ l (l.len - (x.1 + 1) + 1) x.1 x.2 = if x.2 < sizeT' (el l x.1) then some ((x.1 : Int), x.2) else whereZ l (l.len - (x.1 + 1)) (x.1 + 1) (x.2 - sizeT' (el l x.1)) from rfl, if_neg hk]
  · unfold whereO
    rw [if_neg (fun hh => by rcases hh with hh | hh; exact h0 hh; exact hh ho), ← h4, show l.len - x.1 = 0 by omega]; rfl
/-! ### They hold -/
theorem v113 : ∀ d, 20 ≤ d → VC d 113 con113 := fun d hd =>
  valid_of_sym (C := ctx chk3 numAnn) (G := GC) (B := 15) (m := 5) rfl rfl rfl vk3 (fun us p r hc hp ht => by
    unfold con113 at hc; split at hc
    · cases hc; exact s113 _ hp
    · cases hc) (fun _ _ => rfl) rfl d hd
theorem v50 : ∀ d, 20 ≤ d → VC d 50 con50 := fun d hd =>
  valid_of_sym (C := ctx chk3 numAnn) (G := GC) (B := 15) (m := 5) rfl rfl rfl vk3 (fun us p r hc hp ht => by
    unfold con50 at hc; split at hc
    · cases hc; exact s50 _ _ _ _ _ _ _ hp
    · cases hc) (fun _ _ => rfl) rfl d hd
theorem vn1 : ∀ d, 20 ≤ d → ∀ g c, num1 g = some c → VC d g c := fun d hd g c h => by
  unfold num1 at h
  split at h
  · cases h; exact v113 d hd
  · cases h; exact v50 d hd
  · exact vk3 d (by omega) _ c h
theorem v55 : ∀ d, 25 ≤ d → VC d 55 con55 := fun d hd =>
  valid_of_sym (C := ctx num1 numAnn) (G := GC) (B := 20) (m := 5) rfl rfl rfl vn1 (fun us p r hc hp ht => by
    unfold con55 at hc; split at hc
    · cases hc; exact s55 _ hp
    · cases hc) (fun _ _ => rfl) rfl d hd
theorem v52 : ∀ d, 25 ≤ d → VC d 52 con52 := fun d hd =>
  valid_of_sym (C := ctx num1 numAnn) (G := GC) (B := 20) (m := 5) rfl rfl rfl vn1 (fun us p r hc hp ht => by
    unfold con52 at hc; split at hc
    · cases hc; exact s52 _ _ hp
    · cases hc) (fun _ _ => rfl) rfl d hd
theorem v57 : ∀ d, 25 ≤ d → VC d 57 con57 := fun d hd =>
  valid_of_sym (C := ctx num1 numAnn) (G := GC) (B := 20) (m := 5) rfl rfl rfl vn1 (fun us p r hc hp ht => by
    unfold con57 at hc; split at hc
    · cases hc; exact s57 _ _ hp
    · cases hc) (fun _ _ => rfl) rfl d hd
theorem v56 : ∀ d, 25 ≤ d → VC d 56 con56 := fun d hd =>
  valid_of_sym (C := ctx num1 numAnn) (G := GC) (B := 20) (m := 5) rfl rfl rfl vn1 (fun us p r hc hp ht => by
    unfold con56 at hc; split at hc
    · cases hc; exact s56 _ _ hp.1 hp.2.out
    · cases hc) (fun _ _ => rfl) rfl d hd
theorem vn2 : ∀ d, 25 ≤ d → ∀ g c, num2 g = some c → VC d g c := fun d hd g c h => by
  unfold num2 at h
  split at h
  · cases h; exact v55 d hd
  · cases h; exact valid_ext (v52 d hd)
  · cases h; exact valid_ext (v57 d hd)
  · cases h; exact valid_ext (v56 d hd)
  · exact vn1 d (by omega) _ c h
end Go.Ev
