/-
  Part of the engine that the claim is proved with: it states nothing of the document by itself.
-/
import Derived.Test.YtidhienppjdimaaGreatDoorCoreG22
import Derived.Test.YtidhienppjdimaaGreatDoorCoreCcC

section
open Go.Proofs
namespace Go.Ev
set_option maxRecDepth 100000
set_option maxHeartbeats 4000000
theorem naP_iff {k : Int} {nm : D} {n : Int} {g : GD} : naP k nm n g ↔ ((k = 4 ∧ g.sd = n) ∨ (k = 5 ∧ g.ho) ∨ (k = 7 ∧ hasP nm g.ct) ∨ ((k ≠ 4 ∧ k ≠ 5 ∧ k ≠ 7) ∧ anyP g.tg nm)) := ⟨fun h => h.out, fun h => ⟨h⟩⟩
theorem befP_iff {k : Int} {la : Prop} {nm : D} {n : Int} {a b : GD} {i j : Int} : befP k la nm n a b i j ↔ ((k = 1 ∧ idx nm a.rk < idx nm b.rk) ∨ (k = 2 ∧ a.si ≠ 0 ∧ (b.si = 0 ∨ a.si < b.si)) ∨ (k = 3 ∧ a.si ≠ 0 ∧ (b.si = 0 ∨ b.si < a.si)) ∨ (k = 8 ∧ sLt a.nm b.nm) ∨ (k = 9 ∧ inB i ∧ inB j ∧ i < j) ∨
  (k = 10 ∧ inB i ∧ inB j ∧ keyZ i n < keyZ j n) ∨ ((k ≠ 1 ∧ k ≠ 2 ∧ k ≠ 3 ∧ k ≠ 8 ∧ k ≠ 9 ∧ k ≠ 10) ∧ ((la ∧ ¬ naP k nm n a ∧ naP k nm n b) ∨ (¬ la ∧ naP k nm n a ∧ ¬ naP k nm n b)))) := ⟨fun h => h.out, fun h => ⟨h⟩⟩
theorem inB_iff {p : Int} : inB p ↔ (0 ≤ p ∧ p ≤ 63) := ⟨fun h => ⟨h.out.1, by have := h.out.2; omega⟩, fun h => ⟨h.1, by omega⟩⟩
theorem testsL_len (c : D) (n : Nat) : (testsL c n).length = n := by simp [testsL]
theorem testsL_succ (c : D) (n : Nat) : testsL c (n + 1) = testsL c n ++ [testE c n] := by unfold testsL; rw [List.range_succ, List.map_append]; rfl
theorem tests_set {c : D} {x : Nat} (h : x < c.len) : (testsL c x ++ List.replicate (c.len - x) D.nil).set x (testE c x) = testsL c (x + 1) ++ List.replicate (c.len - (x + 1)) D.nil := by
 rw [show c.len - x = (c.len - (x + 1)) + 1 by omega, List.replicate_succ, List.set_append_right _ _ (by rw [testsL_len]; exact Nat.le_refl _), testsL_len, Nat.sub_self, List.set_cons_zero, testsL_succ, List.append_assoc]; rfl
theorem tests_el {c : D} {n k : Nat} (h : k < n) : el (.list (testsL c n)) k = testE c k := by
 unfold el nthD testsL
 show ((List.map (fun i => testE c i) (List.range n))[k]?).getD .nil = _
 rw [List.getElem?_map, List.getElem?_range h]; rfl
theorem sep_step {f : Nat → Int} {n x : Nat} (h : x < n) (hs : sepF f (n - x) x = sepF f n 0) : (f x ≠ 0 → sepF f n 0 = (((x : Nat) : Int), f x)) ∧ (f x = 0 → sepF f (n - (x + 1)) (x + 1) = sepF f n 0) := by
 have hu : sepF f ((n - (x + 1)) + 1) x = if f x ≠ 0 then (((x : Nat) : Int), f x) else sepF f (n - (x + 1)) (x + 1) := rfl
 rw [show n - x = (n - (x + 1)) + 1 by omega, hu] at hs
 constructor
 ·intro k; rw [if_pos k] at hs; exact hs.symm
 ·intro k; rw [if_neg (fun q => q k)] at hs; exact hs
theorem sep_end {f : Nat → Int} {n x : Nat} (h : x = n) (hs : sepF f (n - x) x = sepF f n 0) : sepF f n 0 = (-1, 0) := by
 subst h
 rw [Nat.sub_self] at hs
 exact hs.symm
theorem sepF_congr {f g : Nat → Int} {n : Nat} (h : ∀ k, k < n → f k = g k) : ∀ (m i : Nat), i + m ≤ n → sepF f m i = sepF g m i
 | 0, _, _ => rfl
 | m + 1, i, hi => by unfold sepF; rw [h i (by omega), sepF_congr h m (i + 1) (by omega)]
theorem scan_zero {l : D} : ∀ (f i : Nat), (scanZ l f i).2 = 0 → ∀ k, i ≤ k → k < i + f → err1 l k = 0
 | 0, i, _, k, h1, h2 => by omega
 | f + 1, i, h, k, h1, h2 => by
  unfold scanZ at h
  by_cases e : err1 l i = 0
  ·rw [if_neg (fun q => q e)] at h
   by_cases q : k = i
   ·subst q; exact e
   ·exact scan_zero f (i + 1) h k (by omega) (by omega)
  ·rw [if_pos e] at h; exact (e h).elim
theorem bad_form {c : D} (h : (badZ c).2 = 0) {x : Nat} (hx : x < c.len) : formP (cK (el c x)) (cA (el c x)) (cL (el c x)) (cNm (el c x)).len (cN (el c x)) := by
 unfold badZ at h
 split at h
 ·cases h
 ·have := scan_zero c.len 0 h x (Nat.zero_le _) (by omega)
  unfold err1 errC at this
  by_cases q : formP (cK (el c x)) (cA (el c x)) (cL (el c x)) (cNm (el c x)).len (cN (el c x))
  ·exact q
  ·rw [if_pos q] at this; cases this
theorem form_lot {k : Int} {a : List UInt8} {la : Prop} {m : Nat} {n : Int} (h : formP k a la m n) : k = 10 → 0 ≤ n ∧ n ≤ 63 := fun e => by
 rcases h.out with h | h | h | h | h | h
 ·omega
 ·omega
 ·omega
 ·omega
 ·omega
 ·exact ⟨h.2.2.1, h.2.2.2.1⟩
theorem form_kind {k : Int} {a : List UInt8} {la : Prop} {m : Nat} {n : Int} (h : formP k a la m n) : 1 ≤ k ∧ k ≤ 10 := by
 rcases h.out with h | h | h | h | h | h <;> omega
theorem idD_fn (g : FuncId) (ts : List TypeId) (ds : List D) : idD (.fn g ts ds) = g := rfl
theorem runT1_133 (r : D) (a b : GD) (i j : Int) : runT1 (.fn 133 [165] [r]) a b i j = cmpI (runR r a) (runR r b) := by
 unfold runT1; rw [idD_fn, if_pos rfl]; rfl
theorem runT1_138 (m : D) (la : Prop) (a b : GD) (i j : Int) : runT1 (.fn 138 [149, 4] [m, .bool la]) a b i j = namZ (runN m a) (runN m b) la := by
 unfold runT1; rw [idD_fn, if_neg (show ¬ (138 : Nat) = 133 by decide), if_pos rfl]; rfl
theorem runT1_109 (a b : GD) (i j : Int) : runT1 (.fn 109 [] []) a b i j = cmpS a.nm b.nm := by
 unfold runT1; rw [idD_fn, if_neg (show ¬ (109 : Nat) = 133 by decide), if_neg (show ¬ (109 : Nat) = 138 by decide), if_pos rfl]
open Classical in
theorem runT1_141 (e k : D) (a b : GD) (i j : Int) : runT1 (.fn 141 [167, 153] [e, k]) a b i j = if inB i ∧ inB j then cmpI (runK k i) (runK k j) else 0 := by
 unfold runT1; rw [idD_fn, if_neg (show ¬ (141 : Nat) = 133 by decide), if_neg (show ¬ (141 : Nat) = 138 by decide), if_neg (show ¬ (141 : Nat) = 109 by decide)]; rfl
theorem runT2_135 (u c : D) (a b : GD) (i j : Int) : runT2 (.fn 135 [121, 127] [u, c]) a b i j = orZ (runT1 u a b i j) (runC c a.si b.si) := by
 unfold runT2; rw [idD_fn, if_pos rfl]; rfl
theorem runT2_1 {g : FuncId} {ts : List TypeId} {ds : List D} (h : g ≠ 135) (a b : GD) (i j : Int) : runT2 (.fn g ts ds) a b i j = runT1 (.fn g ts ds) a b i j := by unfold runT2; rw [idD_fn, if_neg h]
theorem runN_103 (x : D) (g : GD) : runN (.fn 103 [57] [x]) g ↔ g.sd = cN x := ⟨fun h => by rcases h.out with h | h | h | h | h; exact h.2; all_goals (have := h.1; cases this), fun h => ⟨.inl ⟨rfl, h⟩⟩⟩
theorem runN_104 (g : GD) : runN (.fn 104 [] []) g ↔ g.ho := ⟨fun h => by rcases h.out with h | h | h | h | h; (have := h.1; cases this); exact h.2; all_goals (have := h.1; cases this), fun h => ⟨.inr (.inl ⟨rfl, h⟩)⟩⟩
theorem runN_105 (x : D) (g : GD) : runN (.fn 105 [57] [x]) g ↔ anyP g.tg (cNm x) := ⟨fun h => by rcases h.out with h | h | h | h | h; (have := h.1; cases this); (have := h.1; cases this); exact h.2; all_goals (have := h.1; cases this), fun h => ⟨.inr (.inr (.inl ⟨rfl, h⟩))⟩⟩
theorem runN_108 (x : D) (g : GD) : runN (.fn 108 [57] [x]) g ↔ hasP (cNm x) g.ct := ⟨fun h => by rcases h.out with h | h | h | h | h; (have := h.1; cases this); (have := h.1; cases this); (have := h.1; cases this); exact h.2; (have := h.1; cases this), fun h => ⟨.inr (.inr (.inr (.inl ⟨rfl, h⟩)))⟩⟩
theorem runN_134 (g : GD) : runN (.fn 134 [] []) g ↔ g.si = 0 := ⟨fun h => by rcases h.out with h | h | h | h | h; (have := h.1; cases this); (have := h.1; cases this); (have := h.1; cases this); (have := h.1; cases this); exact h.2, fun h => ⟨.inr (.inr (.inr (.inr ⟨rfl, h⟩)))⟩⟩
open Classical in
theorem namZ_if {p q la A B : Prop} (h1 : A ↔ ((la ∧ ¬ p ∧ q) ∨ (¬ la ∧ p ∧ ¬ q))) (h2 : B ↔ ((la ∧ ¬ q ∧ p) ∨ (¬ la ∧ q ∧ ¬ p))) : namZ p q la = if A then -1 else if B then 1 else 0 := by
 unfold namZ
 by_cases hp : p <;> by_cases hq : q <;> by_cases hl : la <;> simp [h1, h2, hp, hq, hl]
open Classical in
theorem year_if {x y u w : Int} {A B : Prop} (h1 : A ↔ (x ≠ 0 ∧ (y = 0 ∨ u < w))) (h2 : B ↔ (y ≠ 0 ∧ (x = 0 ∨ w < u))) {p q : Prop} (hp : p ↔ x = 0) (hq : q ↔ y = 0) (h0 : x = 0 → y = 0 → u = w) : orZ (namZ p q True) (cmpI u w) = if A then -1 else if B then 1 else 0 := by
 unfold orZ namZ
 by_cases hx : x = 0 <;> by_cases hy : y = 0
 ·have := h0 hx hy
  subst this
  simp [h1, h2, hp, hq, hx, hy, cmpI]
 ·simp [h1, h2, hp, hq, hx, hy]
 ·simp [h1, h2, hp, hq, hx, hy]
 ·have e : cmpI u w = if A then -1 else if B then 1 else 0 := cmpI_if (h1.trans (by simp [hx, hy])) (h2.trans (by simp [hx, hy]))
  rw [← e]
  simp [hp, hq, hx, hy]
theorem key_eq (p n : Int) : (p * (n + n + 1) + n).tmod 64 = keyZ p n := by unfold keyZ; rw [show n + n + 1 = 2 * n + 1 by omega]
open Classical in
theorem run_test {k : Int} (h1 : 1 ≤ k) (h2 : k ≤ 10) (s : List UInt8) (la : Prop) (nm : D) (n : Int) (a b : GD) (i j : Int) :
  runT2 (testD k s la nm n) a b i j = if befP k la nm n a b i j then -1 else if befP k la nm n b a j i then 1 else 0 := by
 have hk : k = 1 ∨ k = 2 ∨ k = 3 ∨ k = 4 ∨ k = 5 ∨ k = 6 ∨ k = 7 ∨ k = 8 ∨ k = 9 ∨ k = 10 := by omega
 rcases hk with rfl | rfl | rfl | rfl | rfl | rfl | rfl | rfl | rfl | rfl
 ·show runT2 (.fn 133 [165] [.fn 131 [23] [nm]]) a b i j = _
  rw [runT2_1 (by decide), runT1_133]
  exact cmpI_if (by rw [befP_iff]; simp; exact (Int.ofNat_lt).symm) (by rw [befP_iff]; simp; exact (Int.ofNat_lt).symm)
 ·show runT2 (.fn 135 [121, 127] [.fn 138 [149, 4] [.fn 134 [] [], .bool (true = true)], .fn 100 [] []]) a b i j = _
  rw [runT2_135, runT1_138, show (true = true) = True from eq_true rfl]
  exact year_if (x := a.si) (y := b.si) (by rw [befP_iff]; simp) (by rw [befP_iff]; simp) (runN_134 a) (runN_134 b) (fun h k => by rw [h, k])
 ·show runT2 (.fn 135 [121, 127] [.fn 138 [149, 4] [.fn 134 [] [], .bool (true = true)], .fn 101 [] []]) a b i j = _
  rw [runT2_135, runT1_138, show (true = true) = True from eq_true rfl]
  exact year_if (x := a.si) (y := b.si) (u := b.si) (w := a.si) (by rw [befP_iff]; simp) (by rw [befP_iff]; simp) (runN_134 a) (runN_134 b) (fun h k => by rw [h, k])
 ·show runT2 (.fn 138 [149, 4] [.fn 103 [57] [xD 4 s la nm n], .bool la]) a b i j = _
  rw [runT2_1 (by decide), runT1_138]
  have e : ∀ g, runN (.fn 103 [57] [xD 4 s la nm n]) g ↔ naP 4 nm n g := fun g => (runN_103 _ g).trans (by rw [naP_iff]; simp; rfl)
  exact namZ_if (by rw [befP_iff, e, e]; simp) (by rw [befP_iff, e, e]; simp)
 ·show runT2 (.fn 138 [149, 4] [.fn 104 [] [], .bool la]) a b i j = _
  rw [runT2_1 (by decide), runT1_138]
  have e : ∀ g, runN (.fn 104 [] []) g ↔ naP 5 nm n g := fun g => (runN_104 g).trans (by rw [naP_iff]; simp)
  exact namZ_if (by rw [befP_iff, e, e]; simp) (by rw [befP_iff, e, e]; simp)
 ·show runT2 (.fn 138 [149, 4] [.fn 105 [57] [xD 6 s la nm n], .bool la]) a b i j = _
  rw [runT2_1 (by decide), runT1_138]
  have e : ∀ g, runN (.fn 105 [57] [xD 6 s la nm n]) g ↔ naP 6 nm n g := fun g => (runN_105 _ g).trans (by rw [naP_iff]; simp; rfl)
  exact namZ_if (by rw [befP_iff, e, e]; simp) (by rw [befP_iff, e, e]; simp)
 ·show runT2 (.fn 138 [149, 4] [.fn 108 [57] [xD 7 s la nm n], .bool la]) a b i j = _
  rw [runT2_1 (by decide), runT1_138]
  have e : ∀ g, runN (.fn 108 [57] [xD 7 s la nm n]) g ↔ naP 7 nm n g := fun g => (runN_108 _ g).trans (by rw [naP_iff]; simp; rfl)
  exact namZ_if (by rw [befP_iff, e, e]; simp) (by rw [befP_iff, e, e]; simp)
 ·show runT2 (.fn 109 [] []) a b i j = _
  rw [runT2_1 (by decide), runT1_109]
  exact cmpS_if (by rw [befP_iff]; simp) (by rw [befP_iff]; simp)
 ·show runT2 (.fn 141 [167, 153] [.fn 140 [] [], .fn 112 [] []]) a b i j = _
  rw [runT2_1 (by decide), runT1_141]
  by_cases q : inB i ∧ inB j
  ·rw [if_pos q]
   exact cmpI_if (by rw [befP_iff]; simp [q.1, q.2]; rfl) (by rw [befP_iff]; simp [q.1, q.2]; rfl)
  ·rw [if_neg q, if_neg (by rw [befP_iff]; simp; exact fun x y => absurd ⟨x, y⟩ q), if_neg (by rw [befP_iff]; simp; exact fun x y => absurd ⟨y, x⟩ q)]
 ·show runT2 (.fn 141 [167, 153] [.fn 140 [] [], .fn 113 [57] [xD 10 s la nm n]]) a b i j = _
  rw [runT2_1 (by decide), runT1_141]
  by_cases q : inB i ∧ inB j
  ·rw [if_pos q]
   exact cmpI_if (by rw [befP_iff]; simp [q.1, q.2]; rfl) (by rw [befP_iff]; simp [q.1, q.2]; rfl)
  ·rw [if_neg q, if_neg (by rw [befP_iff]; simp; exact fun x y => absurd ⟨x, y⟩ q), if_neg (by rw [befP_iff]; simp; exact fun x y => absurd ⟨y, x⟩ q)]
theorem run_cl {c : D} (h : (badZ c).2 = 0) {x : Nat} (hx : x < c.len) (a b : GD) (i j : Int) : runA (testE c x) a b i j = clE c a b i j x := by
 have hf := form_kind (bad_form h hx)
 show ambZ (cA (el c x)) (testD _ _ _ _ _) a b i j = _
 unfold ambZ clE clZ
 rw [run_test hf.1 hf.2]
theorem ok_test {k : Int} {s : List UInt8} {la : Prop} {nm : D} {n : Int} (hm : nm.len ≤ 100) (hn : k = 10 → 0 ≤ n ∧ n ≤ 63) (h1 : 1 ≤ k) (h2 : k ≤ 10) : okT2 (testD k s la nm n) := by
 have hk : k = 1 ∨ k = 2 ∨ k = 3 ∨ k = 4 ∨ k = 5 ∨ k = 6 ∨ k = 7 ∨ k = 8 ∨ k = 9 ∨ k = 10 := by omega
 rcases hk with rfl | rfl | rfl | rfl | rfl | rfl | rfl | rfl | rfl | rfl
 ·exact ⟨.inl ⟨.inl ⟨.fn 131 [23] [nm], rfl, ⟨nm, rfl, hm⟩⟩⟩⟩
 ·exact ⟨.inr ⟨nameT (true = true) (.fn 134 [] []), .fn 100 [] [], rfl, ⟨.inr (.inl ⟨_, _, rfl, ⟨.inr (.inr (.inr (.inr rfl)))⟩⟩)⟩, ⟨.inl rfl⟩⟩⟩
 ·exact ⟨.inr ⟨nameT (true = true) (.fn 134 [] []), .fn 101 [] [], rfl, ⟨.inr (.inl ⟨_, _, rfl, ⟨.inr (.inr (.inr (.inr rfl)))⟩⟩)⟩, ⟨.inr rfl⟩⟩⟩
 ·exact ⟨.inl ⟨.inr (.inl ⟨_, _, rfl, ⟨.inl ⟨_, rfl⟩⟩⟩)⟩⟩
 ·exact ⟨.inl ⟨.inr (.inl ⟨_, _, rfl, ⟨.inr (.inl rfl)⟩⟩)⟩⟩
 ·exact ⟨.inl ⟨.inr (.inl ⟨_, _, rfl, ⟨.inr (.inr (.inl ⟨_, rfl, hm⟩))⟩⟩)⟩⟩
 ·exact ⟨.inl ⟨.inr (.inl ⟨_, _, rfl, ⟨.inr (.inr (.inr (.inl ⟨_, rfl, hm⟩)))⟩⟩)⟩⟩
 ·exact ⟨.inl ⟨.inr (.inr (.inl rfl))⟩⟩
 ·exact ⟨.inl ⟨.inr (.inr (.inr ⟨_, rfl, ⟨.inl rfl⟩⟩))⟩⟩
 ·exact ⟨.inl ⟨.inr (.inr (.inr ⟨_, rfl, ⟨.inr ⟨_, rfl, hn rfl⟩⟩⟩))⟩⟩
theorem ok_tests {c : D} (hs : smallC c) (h : (badZ c).2 = 0) {x : Nat} (hx : x < c.len) : okA (testE c x) :=
 ⟨_, _, rfl, ok_test (hs.out.2 x hx) (form_lot (bad_form h hx)) (form_kind (bad_form h hx)).1 (form_kind (bad_form h hx)).2⟩
end Go.Ev

end

section
open Go.Proofs
namespace Go.Ev
set_option maxRecDepth 100000
set_option maxHeartbeats 4000000
theorem vc43 : ∀ (c : D), symFun (ctx cn0 cnAnn) (5 : Nat) (43 : FuncId) [V.dat (22 : TypeId) c] (V.dat (82 : TypeId) (D.list (testsL c c.len))) = ((0 : Int) ≤ (↑c.len : Int) ∧ (↑c.len : Int) ≤
 (↑c.len : Int) ∧ (↑c.len : Int) ≤ (16777216 : Int) ∧ (8 : Nat) * c.len ≤ (281474976710656 : Nat) ∧ (∃ (x : Nat), x.le c.len ∧ ((0 : Int) = (↑x : Int) ∧ True) ∧ List.replicate c.len D.nil = testsL c x
 ++ List.replicate (c.len - x) D.nil ∧ True) ∧ ∀ (x : Nat), x.le c.len → c.len - x < LIM ∧ ((↑x : Int) < (↑c.len : Int) → (0 : Int) ≤ (↑x : Int) ∧ (↑x : Int) < (↑c.len : Int) ∧ True ∧ True ∧ (0 : Int)
 ≤ (↑x : Int) ∧ (↑x : Int) < (↑c.len : Int) ∧ x < (testsL c x ++ List.replicate (c.len - x) D.nil).length ∧ ((-9223372036854775808 : Int) ≤ (↑x : Int) + (1 : Int) ∧ (↑x : Int) + (1 : Int) <
 (9223372036854775808 : Int)) ∧ ∃ (y : Nat), y.le c.len ∧ c.len - y < c.len - x ∧ ((↑x : Int) + (1 : Int) = (↑y : Int) ∧ True) ∧ (testsL c x ++ List.replicate (c.len - x) D.nil).set x (amongT (cA (el c
 x)) (testD (cK (el c x)) (cA (el c x)) (cL (el c x)) (cNm (el c x)) (cN (el c x)))) = testsL c y ++ List.replicate (c.len - y) D.nil ∧ True) ∧ (((↑x : Int) < (↑c.len : Int) → False) → (0 : Nat) +
 c.len ≤ (testsL c x ++ List.replicate (c.len - x) D.nil).length ∧ D.list (List.take c.len (testsL c x ++ List.replicate (c.len - x) D.nil)) = D.list (testsL c c.len))) := by intros; kernel_rfl
theorem vc42 : ∀ (ts : D) (a b : GD) (i j : Int) (f : Nat → Int), symFun (ctxm cm0 cF4 (sepAnn f)) (3 : Nat) (42 : FuncId) [V.dat (82 : TypeId) ts, pV a i, pV b j] (V.tup [V.int IntKind.i64 (sepF f
 ts.len (0 : Nat)).fst, V.int IntKind.i64 (sepF f ts.len (0 : Nat)).snd]) = ((∃ (x : Nat), (x ≤ ts.len ∧ sepF f (ts.len - x) x = sepF f ts.len (0 : Nat)) ∧ ((0 : Int) = (↑x : Int) ∧ True) ∧ True) ∧ ∀
 (x : Nat), x ≤ ts.len ∧ sepF f (ts.len - x) x = sepF f ts.len (0 : Nat) → ts.len - x < LIM ∧ ((↑x : Int) < (↑ts.len : Int) → (0 : Int) ≤ (↑x : Int) ∧ (↑x : Int) < (↑ts.len : Int) ∧ (okA (el ts x) ∧
 a.tg.len ≤ (100 : Nat) ∧ b.tg.len ≤ (100 : Nat)) ∧ ((runA (el ts x) a b i j = (0 : Int) → False) → (↑x : Int) = (sepF f ts.len (0 : Nat)).fst ∧ runA (el ts x) a b i j = (sepF f ts.len (0 : Nat)).snd ∧
 True) ∧ (((runA (el ts x) a b i j = (0 : Int) → False) → False) → ((-9223372036854775808 : Int) ≤ (↑x : Int) + (1 : Int) ∧ (↑x : Int) + (1 : Int) < (9223372036854775808 : Int)) ∧ ∃ (y : Nat), (y ≤
 ts.len ∧ sepF f (ts.len - y) y = sepF f ts.len (0 : Nat)) ∧ ts.len - y < ts.len - x ∧ ((↑x : Int) + (1 : Int) = (↑y : Int) ∧ True) ∧ True)) ∧ (((↑x : Int) < (↑ts.len : Int) → False) → (-1 : Int) =
 (sepF f ts.len (0 : Nat)).fst ∧ (0 : Int) = (sepF f ts.len (0 : Nat)).snd ∧ True)) := by intros; kernel_rfl
theorem vc41 : ∀ (c : D), symFun (ctx cc4 cnAnn) (4 : Nat) (41 : FuncId) [V.dat (22 : TypeId) c] (V.prop ((badZ c).snd = (0 : Int))) = (smallC c ∧ ((badZ c).snd = (0 : Int) ↔ (badZ c).snd = (0 :
 Int))) := by intros; kernel_rfl
theorem vc30 : ∀ (c : D), symFun (ctx cc4 cnAnn) (4 : Nat) (30 : FuncId) [V.dat (22 : TypeId) c] (V.prop ((badZ c).snd = (0 : Int))) = (smallC c ∧ ((badZ c).snd = (0 : Int) ↔ (badZ c).snd = (0 :
 Int))) := by intros; kernel_rfl
theorem vc76 : ∀ (k : Int) (s : List UInt8) (la : Prop) (nm : D) (n : Int) (g : GD), symFun (ctx cc1 (namAnn nm g.tg)) (4 : Nat) (76 : FuncId) [V.agg [V.int IntKind.u8 k, V.str s, V.prop la, V.dat (23
 : TypeId) nm, V.int IntKind.i64 n], gV g] (V.prop (naP k nm n g)) = ((k = (4 : Int) → (g.sd = n ↔ naP k nm n g)) ∧ ((k = (4 : Int) → False) → (k = (5 : Int) → (g.ho ↔ naP k nm n g)) ∧ ((k = (5 : Int)
 → False) → (k = (7 : Int) → nm.len ≤ (100 : Nat) ∧ (hasP nm g.ct ↔ naP k nm n g)) ∧ ((k = (7 : Int) → False) → (∃ (x : Nat), (x ≤ g.tg.len ∧ ∀ (i : Nat), i < x → hasP nm (sAt g.tg i) → False) ∧ ((0 :
 Int) = (↑x : Int) ∧ True) ∧ True) ∧ ∀ (x : Nat), (x ≤ g.tg.len ∧ ∀ (i : Nat), i < x → hasP nm (sAt g.tg i) → False) → g.tg.len - x < LIM ∧ ((↑x : Int) < (↑g.tg.len : Int) → (0 : Int) ≤ (↑x : Int) ∧
 (↑x : Int) < (↑g.tg.len : Int) ∧ nm.len ≤ (100 : Nat) ∧ (hasP nm (sAt g.tg x) → (true = true ↔ naP k nm n g)) ∧ ((hasP nm (sAt g.tg x) → False) → ((-9223372036854775808 : Int) ≤ (↑x : Int) + (1 : Int)
 ∧ (↑x : Int) + (1 : Int) < (9223372036854775808 : Int)) ∧ ∃ (y : Nat), (y ≤ g.tg.len ∧ ∀ (i : Nat), i < y → hasP nm (sAt g.tg i) → False) ∧ g.tg.len - y < g.tg.len - x ∧ ((↑x : Int) + (1 : Int) = (↑y
 : Int) ∧ True) ∧ True)) ∧ (((↑x : Int) < (↑g.tg.len : Int) → False) → (false = true ↔ naP k nm n g)))))) := by intros; kernel_rfl
theorem vc53 : ∀ (k : Int) (s : List UInt8) (la : Prop) (nm : D) (n : Int) (a b : GD) (i j : Int), symFun (ctx cn1 cnAnn) (4 : Nat) (53 : FuncId) [V.agg [V.int IntKind.u8 k, V.str s, V.prop la, V.dat
 (23 : TypeId) nm, V.int IntKind.i64 n], gV a, gV b, V.int IntKind.i64 i, V.int IntKind.i64 j] (V.prop (befP k la nm n a b i j)) = ((k = (1 : Int) → nm.len ≤ (100 : Nat) ∧ nm.len ≤ (100 : Nat) ∧
 ((↑(idx nm a.rk) : Int) < (↑(idx nm b.rk) : Int) ↔ befP k la nm n a b i j)) ∧ ((k = (1 : Int) → False) → (k = (2 : Int) → ((a.si = (0 : Int) → False) → ((b.si = (0 : Int) → False) → (a.si < b.si ↔
 befP k la nm n a b i j)) ∧ (b.si = (0 : Int) → (true = true ↔ befP k la nm n a b i j))) ∧ (((a.si = (0 : Int) → False) → False) → (false = true ↔ befP k la nm n a b i j))) ∧ ((k = (2 : Int) → False) →
 (k = (3 : Int) → ((a.si = (0 : Int) → False) → ((b.si = (0 : Int) → False) → (b.si < a.si ↔ befP k la nm n a b i j)) ∧ (b.si = (0 : Int) → (true = true ↔ befP k la nm n a b i j))) ∧ (((a.si = (0 :
 Int) → False) → False) → (false = true ↔ befP k la nm n a b i j))) ∧ ((k = (3 : Int) → False) → (k = (8 : Int) → (sLt a.nm b.nm ↔ befP k la nm n a b i j)) ∧ ((k = (8 : Int) → False) → (k = (9 : Int) →
 ((0 : Int) ≤ i → (i ≤ (63 : Int) → ((0 : Int) ≤ j → (j ≤ (63 : Int) → (i < j ↔ befP k la nm n a b i j)) ∧ ((j ≤ (63 : Int) → False) → (false = true ↔ befP k la nm n a b i j))) ∧ (((0 : Int) ≤ j →
 False) → (false = true ↔ befP k la nm n a b i j))) ∧ ((i ≤ (63 : Int) → False) → (false = true ↔ befP k la nm n a b i j))) ∧ (((0 : Int) ≤ i → False) → (false = true ↔ befP k la nm n a b i j))) ∧ ((k
 = (9 : Int) → False) → (k = (10 : Int) → ((0 : Int) ≤ i → (i ≤ (63 : Int) → ((0 : Int) ≤ j → (j ≤ (63 : Int) → ((-9223372036854775808 : Int) ≤ n + n ∧ n + n < (9223372036854775808 : Int)) ∧
 ((-9223372036854775808 : Int) ≤ n + n + (1 : Int) ∧ n + n + (1 : Int) < (9223372036854775808 : Int)) ∧ ((-9223372036854775808 : Int) ≤ i * (n + n + (1 : Int)) ∧ i * (n + n + (1 : Int)) <
 (9223372036854775808 : Int)) ∧ ((-9223372036854775808 : Int) ≤ i * (n + n + (1 : Int)) + n ∧ i * (n + n + (1 : Int)) + n < (9223372036854775808 : Int)) ∧ ((64 : Int) = (0 : Int) → False) ∧
 ((-9223372036854775808 : Int) ≤ n + n ∧ n + n < (9223372036854775808 : Int)) ∧ ((-9223372036854775808 : Int) ≤ n + n + (1 : Int) ∧ n + n + (1 : Int) < (9223372036854775808 : Int)) ∧
 ((-9223372036854775808 : Int) ≤ j * (n + n + (1 : Int)) ∧ j * (n + n + (1 : Int)) < (9223372036854775808 : Int)) ∧ ((-9223372036854775808 : Int) ≤ j * (n + n + (1 : Int)) + n ∧ j * (n + n + (1 : Int))
 + n < (9223372036854775808 : Int)) ∧ ((64 : Int) = (0 : Int) → False) ∧ ((i * (n + n + (1 : Int)) + n).tmod (64 : Int) < (j * (n + n + (1 : Int)) + n).tmod (64 : Int) ↔ befP k la nm n a b i j)) ∧ ((j
 ≤ (63 : Int) → False) → (false = true ↔ befP k la nm n a b i j))) ∧ (((0 : Int) ≤ j → False) → (false = true ↔ befP k la nm n a b i j))) ∧ ((i ≤ (63 : Int) → False) → (false = true ↔ befP k la nm n a
 b i j))) ∧ (((0 : Int) ≤ i → False) → (false = true ↔ befP k la nm n a b i j))) ∧ ((k = (10 : Int) → False) → (la → (nm.len ≤ (100 : Nat) ∧ a.tg.len ≤ (100 : Nat)) ∧ ((naP k nm n a → False) → (nm.len
 ≤ (100 : Nat) ∧ b.tg.len ≤ (100 : Nat)) ∧ (naP k nm n b ↔ befP k la nm n a b i j)) ∧ (((naP k nm n a → False) → False) → (false = true ↔ befP k la nm n a b i j))) ∧ ((la → False) → (nm.len ≤ (100 :
 Nat) ∧ a.tg.len ≤ (100 : Nat)) ∧ (naP k nm n a → (nm.len ≤ (100 : Nat) ∧ b.tg.len ≤ (100 : Nat)) ∧ (naP k nm n b → False ↔ befP k la nm n a b i j)) ∧ ((naP k nm n a → False) → (false = true ↔ befP k
 la nm n a b i j)))))))))) := by intros; kernel_rfl
theorem vc13 : ∀ (c : D) (a b : GD) (i j : Int), symFun (ctx cn1 cnAnn) (4 : Nat) (13 : FuncId) [V.dat (22 : TypeId) c, gV a, gV b, V.int IntKind.i64 i, V.int IntKind.i64 j] (V.tup [V.int IntKind.i64
 (reaZ c a b i j).fst, V.int IntKind.i64 (reaZ c a b i j).snd]) = (smallC c ∧ (((badZ c).snd = (0 : Int) → False) → (0 : Int) = (reaZ c a b i j).fst ∧ (0 : Int) = (reaZ c a b i j).snd ∧ True) ∧
 ((((badZ c).snd = (0 : Int) → False) → False) → c.len ≤ (100 : Nat) ∧ (((testsL c c.len).length ≤ (100 : Nat) ∧ ∀ (k : Nat), k < (testsL c c.len).length → okA (el (D.list (testsL c c.len)) k)) ∧
 a.tg.len ≤ (100 : Nat) ∧ b.tg.len ≤ (100 : Nat)) ∧ (sepF (fun (k : Nat) => runA (el (D.list (testsL c c.len)) k) a b i j) (testsL c c.len).length (0 : Nat)).fst = (reaZ c a b i j).fst ∧ (sepF (fun (k
 : Nat) => runA (el (D.list (testsL c c.len)) k) a b i j) (testsL c c.len).length (0 : Nat)).snd = (reaZ c a b i j).snd ∧ True)) := by intros; kernel_rfl
theorem vc14 : ∀ (c : D) (a b : GD) (i j : Int), symFun (ctx cn2 cnAnn) (4 : Nat) (14 : FuncId) [V.dat (22 : TypeId) c, gV a, gV b, V.int IntKind.i64 i, V.int IntKind.i64 j] (V.int IntKind.i64 (reaZ c
 a b i j).snd) = ((smallC c ∧ a.tg.len ≤ (100 : Nat) ∧ b.tg.len ≤ (100 : Nat)) ∧ (reaZ c a b i j).snd = (reaZ c a b i j).snd) := by intros; kernel_rfl
theorem vc51 : ∀ (l : D), symFun (ctx (fun _ => none) cnAnn) (4 : Nat) (51 : FuncId) [V.dat (23 : TypeId) l] (V.dat (23 : TypeId) (copyW l)) = (((∃ (x : Nat), x = (0 : Nat) ∧ ((0 : Int) = (0 : Int) ∧
 True ∧ True) ∧ True) ∨ ∃ (x : Nat), ((0 : Nat) < x ∧ x ≤ l.len) ∧ ((0 : Int) = (↑x : Int) ∧ False ∧ True) ∧ False ∧ True) ∧ (∀ (x : Nat), x = (0 : Nat) → l.len - x < LIM ∧ ((0 : Int) < (↑l.len : Int)
 → (0 : Int) ≤ (0 : Int) ∧ (0 : Int) < (↑l.len : Int) ∧ (0 : Nat) + (1 : Nat) ≤ [D.str (sAt l (0 : Nat))].length ∧ (1 : Nat) ≤ (16777216 : Nat) ∧ ((-9223372036854775808 : Int) ≤ (0 : Int) + (1 : Int) ∧
 (0 : Int) + (1 : Int) < (9223372036854775808 : Int)) ∧ ((∃ (y : Nat), y = (0 : Nat) ∧ l.len - y < l.len - x ∧ ((0 : Int) + (1 : Int) = (0 : Int) ∧ False ∧ True) ∧ True) ∨ ∃ (y : Nat), ((0 : Nat) < y ∧
 y ≤ l.len) ∧ l.len - y < l.len - x ∧ ((0 : Int) + (1 : Int) = (↑y : Int) ∧ ((0 : Nat) = (0 : Nat) ∧ (1 : Nat) = y ∧ True) ∧ True) ∧ List.take (1 : Nat) [D.str (sAt l (0 : Nat))] = copyWL l y ∧ True))
 ∧ (((0 : Int) < (↑l.len : Int) → False) → D.nil = copyW l)) ∧ ∀ (x : Nat), (0 : Nat) < x ∧ x ≤ l.len → l.len - x < LIM ∧ ((↑x : Int) < (↑l.len : Int) → (0 : Int) ≤ (↑x : Int) ∧ (↑x : Int) < (↑l.len :
 Int) ∧ (0 : Nat) + (1 : Nat) ≤ [D.str (sAt l x)].length ∧ (0 : Nat) + x ≤ (copyWL l x).length ∧ x + (1 : Nat) ≤ (16777216 : Nat) ∧ ((-9223372036854775808 : Int) ≤ (↑x : Int) + (1 : Int) ∧ (↑x : Int) +
 (1 : Int) < (9223372036854775808 : Int)) ∧ ((∃ (y : Nat), y = (0 : Nat) ∧ l.len - y < l.len - x ∧ ((↑x : Int) + (1 : Int) = (0 : Int) ∧ False ∧ True) ∧ True) ∨ ∃ (y : Nat), ((0 : Nat) < y ∧ y ≤ l.len)
 ∧ l.len - y < l.len - x ∧ ((↑x : Int) + (1 : Int) = (↑y : Int) ∧ ((0 : Nat) = (0 : Nat) ∧ x + (1 : Nat) = y ∧ True) ∧ True) ∧ List.take x (copyWL l x) ++ List.take (1 : Nat) [D.str (sAt l x)] = copyWL
 l y ∧ True)) ∧ (((↑x : Int) < (↑l.len : Int) → False) → (0 : Nat) + x ≤ (copyWL l x).length ∧ D.list (List.take x (copyWL l x)) = copyW l)) := by intros; kernel_rfl
theorem vc29 : ∀ (g : GD), symFun (ctx cn1 cnAnn) (4 : Nat) (29 : FuncId) [gV g] (gV (copyG g)) = (g.tg.len ≤ (100 : Nat) ∧ g.nm = (copyG g).nm ∧ g.rk = (copyG g).rk ∧ g.ct = (copyG g).ct ∧ g.si =
 (copyG g).si ∧ g.sd = (copyG g).sd ∧ g.di = (copyG g).di ∧ (g.ho ↔ g.ho) ∧ (g.ac ↔ g.ac) ∧ copyW g.tg = (copyG g).tg ∧ True) := by intros; kernel_rfl
theorem vc56 : ∀ (a b : D), symFun (ctx cc1 cnAnn) (4 : Nat) (56 : FuncId) [V.dat (23 : TypeId) a, V.dat (23 : TypeId) b] (V.prop (eqS a b)) = ((((↑a.len : Int) = (↑b.len : Int) → False) → (false =
 true ↔ eqS a b)) ∧ ((((↑a.len : Int) = (↑b.len : Int) → False) → False) → (∃ (x : Nat), (x ≤ a.len ∧ ∀ (i : Nat), i < x → sAt a i = sAt b i) ∧ ((0 : Int) = (↑x : Int) ∧ True) ∧ True) ∧ ∀ (x : Nat), (x
 ≤ a.len ∧ ∀ (i : Nat), i < x → sAt a i = sAt b i) → a.len - x < LIM ∧ ((↑x : Int) < (↑a.len : Int) → (0 : Int) ≤ (↑x : Int) ∧ (↑x : Int) < (↑a.len : Int) ∧ (0 : Int) ≤ (↑x : Int) ∧ (↑x : Int) <
 (↑b.len : Int) ∧ ((sAt a x = sAt b x → False) → (false = true ↔ eqS a b)) ∧ (((sAt a x = sAt b x → False) → False) → ((-9223372036854775808 : Int) ≤ (↑x : Int) + (1 : Int) ∧ (↑x : Int) + (1 : Int) <
 (9223372036854775808 : Int)) ∧ ∃ (y : Nat), (y ≤ a.len ∧ ∀ (i : Nat), i < y → sAt a i = sAt b i) ∧ a.len - y < a.len - x ∧ ((↑x : Int) + (1 : Int) = (↑y : Int) ∧ True) ∧ True)) ∧ (((↑x : Int) <
 (↑a.len : Int) → False) → (true = true ↔ eqS a b)))) := by intros; kernel_rfl
theorem vc33 : ∀ (a b : GD), symFun (ctx cn1 cnAnn) (4 : Nat) (33 : FuncId) [gV a, gV b] (V.prop (sameG a b)) = ((a.nm = b.nm → (a.rk = b.rk → (a.ct = b.ct → (a.si = b.si → (a.sd = b.sd → (a.di = b.di
 → ((a.ho ↔ b.ho) → ((a.ac ↔ b.ac) → a.tg.len ≤ (100 : Nat) ∧ (eqS a.tg b.tg ↔ sameG a b)) ∧ (((a.ac ↔ b.ac) → False) → (false = true ↔ sameG a b))) ∧ (((a.ho ↔ b.ho) → False) → (false = true ↔ sameG a
 b))) ∧ ((a.di = b.di → False) → (false = true ↔ sameG a b))) ∧ ((a.sd = b.sd → False) → (false = true ↔ sameG a b))) ∧ ((a.si = b.si → False) → (false = true ↔ sameG a b))) ∧ ((a.ct = b.ct → False) →
 (false = true ↔ sameG a b))) ∧ ((a.rk = b.rk → False) → (false = true ↔ sameG a b))) ∧ ((a.nm = b.nm → False) → (false = true ↔ sameG a b))) := by intros; kernel_rfl
theorem vc26 : ∀ (g : GD), symFun (ctx (fun _ => none) cnAnn) (6 : Nat) (26 : FuncId) [gV g] (V.prop ¬fewG (gD g)) = ((((40 : Int) < max (max (↑g.nm.length : Int) (↑g.rk.length : Int)) (↑g.ct.length :
 Int) → False) → (((10 : Int) < (↑g.tg.len : Int) → False) → (∃ (x : Nat), (x ≤ g.tg.len ∧ ∀ (i : Nat), i < x → (sAt g.tg i).length ≤ (40 : Nat)) ∧ ((0 : Int) = (↑x : Int) ∧ True) ∧ True) ∧ ∀ (x :
 Nat), (x ≤ g.tg.len ∧ ∀ (i : Nat), i < x → (sAt g.tg i).length ≤ (40 : Nat)) → g.tg.len - x < LIM ∧ ((↑x : Int) < (↑g.tg.len : Int) → (0 : Int) ≤ (↑x : Int) ∧ (↑x : Int) < (↑g.tg.len : Int) ∧ ((40 :
 Int) < (↑(sAt g.tg x).length : Int) → ((0 : Int) ≤ (↑x : Int) ↔ fewG (gD g) → False)) ∧ (((40 : Int) < (↑(sAt g.tg x).length : Int) → False) → ((-9223372036854775808 : Int) ≤ (↑x : Int) + (1 : Int) ∧
 (↑x : Int) + (1 : Int) < (9223372036854775808 : Int)) ∧ ∃ (y : Nat), (y ≤ g.tg.len ∧ ∀ (i : Nat), i < y → (sAt g.tg i).length ≤ (40 : Nat)) ∧ g.tg.len - y < g.tg.len - x ∧ ((↑x : Int) + (1 : Int) =
 (↑y : Int) ∧ True) ∧ True)) ∧ (((↑x : Int) < (↑g.tg.len : Int) → False) → (false = true ↔ fewG (gD g) → False))) ∧ ((10 : Int) < (↑g.tg.len : Int) → (true = true ↔ fewG (gD g) → False))) ∧ ((40 : Int)
 < max (max (↑g.nm.length : Int) (↑g.rk.length : Int)) (↑g.ct.length : Int) → (true = true ↔ fewG (gD g) → False))) := by intros; kernel_rfl
theorem nf {p : Prop} (h : p → False) : (false = true ↔ p) := ⟨fun e => (by cases e), fun q => (h q).elim⟩
theorem nt {p : Prop} (h : p) : (true = true ↔ p) := ⟨fun _ => h, fun _ => rfl⟩
theorem s43 (c : D) (h : c.len ≤ 100) : symFun (ctx cn0 cnAnn) 5 43 [.dat 22 c] (.dat 82 (.list (testsL c c.len))) := by
 rw [vc43]
 refine ⟨by omega, Int.le_refl _, by omega, by omega, ⟨0, Nat.zero_le _, ⟨rfl, trivial⟩, rfl, trivial⟩, fun x hx => ⟨n_lim h, fun k => ⟨by omega, k, trivial, trivial, by omega, k, ?_, by omega, x + 1, ?_, by omega, ⟨by omega, trivial⟩, tests_set (by omega), trivial⟩, fun k => ?_⟩⟩
 ·rw [List.length_append, testsL_len, List.length_replicate]; omega
 ·show x + 1 ≤ c.len; omega
 ·have e := x_end hx k
  subst e
  rw [Nat.sub_self, List.replicate_zero, List.append_nil, testsL_len]
  exact ⟨by omega, by rw [List.take_of_length_le (by rw [testsL_len]; exact Nat.le_refl _)]⟩
theorem s42 (ts : D) (a b : GD) (i j : Int) (h : ts.len ≤ 100) (ho : ∀ k, k < ts.len → okA (el ts k)) (ha : a.tg.len ≤ 100) (hb : b.tg.len ≤ 100) :
  symFun (ctxm cm0 cF4 (sepAnn (fun k => runA (el ts k) a b i j))) 3 42 [.dat 82 ts, pV a i, pV b j] (.tup [.int .i64 (sepF (fun k => runA (el ts k) a b i j) ts.len 0).1, .int .i64 (sepF (fun k => runA (el ts k) a b i j) ts.len 0).2]) := by
 rw [vc42]
 refine ⟨⟨0, ⟨Nat.zero_le _, rfl⟩, ⟨rfl, trivial⟩, trivial⟩, fun x hx => ⟨n_lim h, fun k => ⟨by omega, k, ⟨ho x (by omega), ha, hb⟩, fun e => ?_, fun e => ⟨by omega, x + 1, ⟨by omega, (sep_step (by omega) hx.2).2 (Classical.byContradiction e)⟩, by omega, ⟨by omega, trivial⟩, trivial⟩⟩, fun k => ?_⟩⟩
 ·rw [(sep_step (by omega) hx.2).1 e]; exact ⟨rfl, rfl, trivial⟩
 ·rw [sep_end (x_end hx.1 k) hx.2]; exact ⟨rfl, rfl, trivial⟩
theorem s41 (c : D) (h : smallC c) : symFun (ctx cc4 cnAnn) 4 41 [.dat 22 c] (.prop ((badZ c).2 = 0)) := by rw [vc41]; exact ⟨h, Iff.rfl⟩
theorem s30 (c : D) (h : smallC c) : symFun (ctx cc4 cnAnn) 4 30 [.dat 22 c] (.prop ((badZ c).2 = 0)) := by rw [vc30]; exact ⟨h, Iff.rfl⟩
theorem s76 (k : Int) (s : List UInt8) (la : Prop) (nm : D) (n : Int) (g : GD) (h1 : nm.len ≤ 100) (h2 : g.tg.len ≤ 100) : symFun (ctx cc1 (namAnn nm g.tg)) 4 76 [.agg [.int .u8 k, .str s, .prop la, .dat 23 nm, .int .i64 n], gV g] (.prop (naP k nm n g)) := by
 rw [vc76]
 refine ⟨fun h => by rw [naP_iff, h]; simp, fun h4 => ⟨fun h => by rw [naP_iff, h]; simp, fun h5 => ⟨fun h => ⟨h1, by rw [naP_iff, h]; simp⟩, fun h7 => ⟨⟨0, ⟨Nat.zero_le _, fun i hi => absurd hi (Nat.not_lt_zero _)⟩, ⟨rfl, trivial⟩, trivial⟩, fun x hx => ⟨n_lim h2,
  fun q => ⟨by omega, q, h1, fun e => nt (naP_iff.2 (.inr (.inr (.inr ⟨⟨h4, h5, h7⟩, ⟨x, by omega, e⟩⟩)))), fun e => ⟨by omega, x + 1, ⟨by omega, fun i hi => ?_⟩, by omega, ⟨by omega, trivial⟩, trivial⟩⟩, fun q => nf fun e => ?_⟩⟩⟩⟩⟩
 ·rcases Nat.lt_or_ge i x with w | w
  ·exact hx.2 i w
  ·have : i = x := by omega
   subst this; exact e
 ·rcases naP_iff.1 e with w | w | w | w
  ·exact h4 w.1
  ·exact h5 w.1
  ·exact h7 w.1
  ·obtain ⟨i, u, v⟩ := w.2.out
   have := x_end hx.1 q
   exact hx.2 i (by omega) v
theorem key_bnd2 {p n : Int} (h : 0 ≤ p) (h' : p ≤ 63) (h1 : 0 ≤ n) (h2 : n ≤ 63) : 0 ≤ p * (n + n + 1) ∧ p * (n + n + 1) ≤ 63 * 127 :=
 ⟨Int.mul_nonneg h (by omega), Int.mul_le_mul (by omega) (by omega) (by omega) (by omega)⟩
theorem s53 (k : Int) (s : List UInt8) (la : Prop) (nm : D) (n : Int) (a b : GD) (i j : Int) (h1 : nm.len ≤ 100) (ha : a.tg.len ≤ 100) (hb : b.tg.len ≤ 100) (hn : k = 10 → 0 ≤ n ∧ n ≤ 63) :
  symFun (ctx cn1 cnAnn) 4 53 [.agg [.int .u8 k, .str s, .prop la, .dat 23 nm, .int .i64 n], gV a, gV b, .int .i64 i, .int .i64 j] (.prop (befP k la nm n a b i j)) := by
 rw [vc53]
 refine ⟨fun h => ⟨h1, h1, by rw [befP_iff, h]; simp⟩, fun k1 => ⟨fun h => ⟨fun x => ⟨fun y => ?_, fun y => nt ?_⟩, fun x => nf fun q => ?_⟩, fun k2 => ⟨fun h => ⟨fun x => ⟨fun y => ?_, fun y => nt ?_⟩, fun x => nf fun q => ?_⟩, fun k3 => ⟨fun h => by rw [befP_iff, h]; simp,
  fun k8 => ⟨fun h => ⟨fun x => ⟨fun y => ⟨fun z => ⟨fun w => ?_, fun w => nf fun q => ?_⟩, fun z => nf fun q => ?_⟩, fun y => nf fun q => ?_⟩, fun x => nf fun q => ?_⟩,
  fun k9 => ⟨fun h => ⟨fun x => ⟨fun y => ⟨fun z => ⟨fun w => ?_, fun w => nf fun q => ?_⟩, fun z => nf fun q => ?_⟩, fun y => nf fun q => ?_⟩, fun x => nf fun q => ?_⟩,
  fun k10 => ⟨fun h => ⟨⟨h1, ha⟩, fun x => ⟨⟨h1, hb⟩, ?_⟩, fun x => nf fun q => ?_⟩, fun h => ⟨⟨h1, ha⟩, fun x => ⟨⟨h1, hb⟩, ?_⟩, fun x => nf fun q => ?_⟩⟩⟩⟩⟩⟩⟩⟩
 ·have x : ¬ a.si = 0 := x
  have y : ¬ b.si = 0 := y
  rw [befP_iff, h]; simp [x, y]
 ·have x : ¬ a.si = 0 := x
  rw [befP_iff, h]; simp [x, y]
 ·have x : a.si = 0 := Classical.byContradiction x
  rw [befP_iff, h] at q; simp [x] at q
 ·have x : ¬ a.si = 0 := x
  have y : ¬ b.si = 0 := y
  rw [befP_iff, h]; simp [x, y]
 ·have x : ¬ a.si = 0 := x
  rw [befP_iff, h]; simp [x, y]
 ·have x : a.si = 0 := Classical.byContradiction x
  rw [befP_iff, h] at q; simp [x] at q
 ·rw [befP_iff, h]; simp [inB_iff, x, y, z, w]
 ·rw [befP_iff, h] at q; simp [inB_iff] at q; exact w q.2.1.2
 ·rw [befP_iff, h] at q; simp [inB_iff] at q; exact z q.2.1.1
 ·rw [befP_iff, h] at q; simp [inB_iff] at q; exact y q.1.2
 ·rw [befP_iff, h] at q; simp [inB_iff] at q; exact x q.1.1
 ·obtain ⟨n0, n1⟩ := hn h
  obtain ⟨i0, i1⟩ := key_bnd2 x y n0 n1
  obtain ⟨j0, j1⟩ := key_bnd2 z w n0 n1
  refine ⟨by omega, by omega, by omega, by omega, fun e => absurd e (by decide), by omega, by omega, by omega, by omega, fun e => absurd e (by decide), ?_⟩
  rw [key_eq, key_eq, befP_iff, h]; simp [inB_iff, x, y, z, w]
 ·rw [befP_iff, h] at q; simp [inB_iff] at q; exact w q.2.1.2
 ·rw [befP_iff, h] at q; simp [inB_iff] at q; exact z q.2.1.1
 ·rw [befP_iff, h] at q; simp [inB_iff] at q; exact y q.1.2
 ·rw [befP_iff, h] at q; simp [inB_iff] at q; exact x q.1.1
 ·have x : ¬ naP k nm n a := x
  have k1 : ¬ k = 1 := k1
  have k2 : ¬ k = 2 := k2
  have k3 : ¬ k = 3 := k3
  have k8 : ¬ k = 8 := k8
  have k9 : ¬ k = 9 := k9
  have k10 : ¬ k = 10 := k10
  rw [befP_iff]; simp [h, x, k1, k2, k3, k8, k9, k10]
 ·have x : naP k nm n a := Classical.byContradiction x
  have k1 : ¬ k = 1 := k1
  have k2 : ¬ k = 2 := k2
  have k3 : ¬ k = 3 := k3
  have k8 : ¬ k = 8 := k8
  have k9 : ¬ k = 9 := k9
  have k10 : ¬ k = 10 := k10
  rw [befP_iff] at q; simp [h, x, k1, k2, k3, k8, k9, k10] at q
 ·have h : ¬ la := h
  have k1 : ¬ k = 1 := k1
  have k2 : ¬ k = 2 := k2
  have k3 : ¬ k = 3 := k3
  have k8 : ¬ k = 8 := k8
  have k9 : ¬ k = 9 := k9
  have k10 : ¬ k = 10 := k10
  rw [befP_iff]; simp [h, x, k1, k2, k3, k8, k9, k10]
 ·have h : ¬ la := h
  have x : ¬ naP k nm n a := x
  have k1 : ¬ k = 1 := k1
  have k2 : ¬ k = 2 := k2
  have k3 : ¬ k = 3 := k3
  have k8 : ¬ k = 8 := k8
  have k9 : ¬ k = 9 := k9
  have k10 : ¬ k = 10 := k10
  rw [befP_iff] at q; simp [h, x, k1, k2, k3, k8, k9, k10] at q
theorem s13 (c : D) (a b : GD) (i j : Int) (hs : smallC c) (ha : a.tg.len ≤ 100) (hb : b.tg.len ≤ 100) : symFun (ctx cn1 cnAnn) 4 13 [.dat 22 c, gV a, gV b, .int .i64 i, .int .i64 j] (.tup [.int .i64 (reaZ c a b i j).1, .int .i64 (reaZ c a b i j).2]) := by
 have hlen := hs.out.1
 rw [vc13]
 refine ⟨hs, fun h => by unfold reaZ; rw [if_neg h]; exact ⟨rfl, rfl, trivial⟩, fun h => ?_⟩
 have h : (badZ c).2 = 0 := Classical.byContradiction h
 have key : sepF (fun k => runA (el (.list (testsL c c.len)) k) a b i j) (testsL c c.len).length 0 = reaZ c a b i j := by
  unfold reaZ
  rw [if_pos h, testsL_len]
  exact sepF_congr (fun k hk => by rw [tests_el hk, run_cl h hk]) _ _ (by omega)
 exact ⟨hlen, ⟨⟨by rw [testsL_len]; exact hlen, fun k hk => by rw [testsL_len] at hk; rw [tests_el hk]; exact ok_tests hs h hk⟩, ha, hb⟩, by rw [key], by rw [key], trivial⟩
theorem s14 (c : D) (a b : GD) (i j : Int) (hs : smallC c) (ha : a.tg.len ≤ 100) (hb : b.tg.len ≤ 100) : symFun (ctx cn2 cnAnn) 4 14 [.dat 22 c, gV a, gV b, .int .i64 i, .int .i64 j] (.int .i64 (reaZ c a b i j).2) := by
 rw [vc14]; exact ⟨⟨hs, ha, hb⟩, rfl⟩
theorem copyWL_len (l : D) (n : Nat) : (copyWL l n).length = n := by simp [copyWL]
theorem copyWL_succ (l : D) (n : Nat) : copyWL l (n + 1) = copyWL l n ++ [.str (sAt l n)] := by unfold copyWL; rw [List.range_succ, List.map_append]; rfl
theorem s51 (l : D) (hl : l.len ≤ 100) : symFun (ctx (fun _ => none) cnAnn) 4 51 [.dat 23 l] (.dat 23 (copyW l)) := by
 rw [vc51]
 refine ⟨.inl ⟨0, rfl, ⟨rfl, trivial, trivial⟩, trivial⟩, fun x hx => ⟨n_lim hl, fun h => ⟨by omega, h, by simp, by decide, by omega, .inr ⟨1, ⟨by omega, by omega⟩, by omega, ⟨by omega, ⟨rfl, rfl, trivial⟩, trivial⟩, rfl, trivial⟩⟩, fun h => ?_⟩,
  fun x hx => ⟨n_lim hl, fun h => ⟨by omega, h, by simp, by rw [copyWL_len]; omega, by omega, by omega, .inr ⟨x + 1, ⟨by omega, by omega⟩, by omega, ⟨by omega, ⟨rfl, rfl, trivial⟩, trivial⟩, ?_, trivial⟩⟩, fun h => ⟨by rw [copyWL_len]; omega, ?_⟩⟩⟩
 ·have h : ¬ (0 : Int) < l.len := h
  have : l.len = 0 := by omega
  unfold copyW; rw [this]; rfl
 ·rw [copyWL_succ, List.take_of_length_le (by rw [copyWL_len]; exact Nat.le_refl _)]; rfl
 ·have e := x_end hx.2 h
  subst e
  rw [List.take_of_length_le (by rw [copyWL_len]; exact Nat.le_refl _)]
  unfold copyW
  cases hc : copyWL l l.len with
  | nil => have := copyWL_len l l.len; rw [hc] at this; simp at this; omega
  | cons d r => rfl
theorem s29 (g : GD) (h : g.tg.len ≤ 100) : symFun (ctx cn1 cnAnn) 4 29 [gV g] (gV (copyG g)) := by
 rw [vc29]; exact ⟨h, rfl, rfl, rfl, rfl, rfl, rfl, Iff.rfl, Iff.rfl, rfl, trivial⟩
theorem s56 (a b : D) (h : a.len ≤ 100) : symFun (ctx cc1 cnAnn) 4 56 [.dat 23 a, .dat 23 b] (.prop (eqS a b)) := by
 rw [vc56]
 refine ⟨fun q => nf fun e => q (by rw [e.out.1]), fun q => ?_⟩
 have q : a.len = b.len := by have := Classical.byContradiction q; omega
 refine ⟨⟨0, ⟨Nat.zero_le _, fun i hi => absurd hi (Nat.not_lt_zero _)⟩, ⟨rfl, trivial⟩, trivial⟩, fun x hx => ⟨n_lim h, fun k => ⟨by omega, k, by omega, by omega, fun e => nf fun w => e (w.out.2 x (by omega)), fun e => ⟨by omega, x + 1, ⟨by omega, fun i hi => ?_⟩, by omega, ⟨by omega, trivial⟩, trivial⟩⟩, fun k => nt ⟨q, fun i hi => hx.2 i (by rw [x_end hx.1 k]; exact hi)⟩⟩⟩
 rcases Nat.lt_or_ge i x with w | w
 ·exact hx.2 i w
 ·have : i = x := by omega
  subst this; exact Classical.byContradiction e
theorem s33 (a b : GD) (h : a.tg.len ≤ 100) : symFun (ctx cn1 cnAnn) 4 33 [gV a, gV b] (.prop (sameG a b)) := by
 rw [vc33]
 exact ⟨fun e1 => ⟨fun e2 => ⟨fun e3 => ⟨fun e4 => ⟨fun e5 => ⟨fun e6 => ⟨fun e7 => ⟨fun e8 => ⟨h, ⟨fun q => ⟨e1, e2, e3, e4, e5, e6, e7, e8, q⟩, fun q => q.out.2.2.2.2.2.2.2.2⟩⟩, fun w => nf fun q => w q.out.2.2.2.2.2.2.2.1⟩, fun w => nf fun q => w q.out.2.2.2.2.2.2.1⟩, fun w => nf fun q => w q.out.2.2.2.2.2.1⟩,
  fun w => nf fun q => w q.out.2.2.2.2.1⟩, fun w => nf fun q => w q.out.2.2.2.1⟩, fun w => nf fun q => w q.out.2.2.1⟩, fun w => nf fun q => w q.out.2.1⟩, fun w => nf fun q => w q.out.1⟩
theorem s26 (g : GD) : symFun (ctx (fun _ => none) cnAnn) 6 26 [gV g] (.prop (¬ fewG (gD g))) := by
 rw [vc26]
 refine ⟨fun h1 => ⟨fun h2 => ?_, fun h2 => nt fun q => ?_⟩, fun h1 => nt fun q => ?_⟩
 ·have h1 : ¬ (40 : Int) < max (max (↑g.nm.length) (↑g.rk.length)) (↑g.ct.length) := h1
  have h2 : ¬ (10 : Int) < g.tg.len := h2
  refine ⟨⟨0, ⟨Nat.zero_le _, fun i hi => absurd hi (Nat.not_lt_zero _)⟩, ⟨rfl, trivial⟩, trivial⟩, fun x hx => ⟨n_lim (by omega), fun k => ⟨by omega, k, fun e => ⟨fun _ q => ?_, fun _ => by omega⟩, fun e => ⟨by omega, x + 1, ⟨by omega, fun i hi => ?_⟩, by omega, ⟨by omega, trivial⟩, trivial⟩⟩, fun k => ⟨fun e => (by cases e), fun q => (q ⟨?_, ?_, ⟨fun i hi => ?_⟩⟩).elim⟩⟩⟩
  ·have := q.out.2.2.out x (by show x < g.tg.len; omega)
   have this : (sAt g.tg x).length ≤ 40 := this
   omega
  ·rcases Nat.lt_or_ge i x with w | w
   ·exact hx.2 i w
   ·have : i = x := by omega
    subst this
    have e : ¬ (40 : Int) < (sAt g.tg i).length := e
    omega
  ·show max (max (g.nm.length : Int) g.rk.length) g.ct.length ≤ 40; omega
  ·show g.tg.len ≤ 10; omega
  ·exact hx.2 i (by rw [x_end hx.1 k]; exact hi)
 ·have : g.tg.len ≤ 10 := q.out.2.1
  omega
 ·have : max (max (g.nm.length : Int) g.rk.length) g.ct.length ≤ 40 := q.out.1
  omega
theorem hasP_as {l m : D} (h : l.asList = m.asList) (s : List UInt8) : hasP l s ↔ hasP m s := by
 have e1 : l.len = m.len := by unfold D.len; rw [h]
 have e2 : ∀ i, sAt l i = sAt m i := fun i => by unfold sAt; rw [h]
 exact ⟨fun k => by obtain ⟨i, a, b⟩ := k.out; exact ⟨i, by omega, by rw [← e2]; exact b⟩, fun k => by obtain ⟨i, a, b⟩ := k.out; exact ⟨i, by omega, by rw [e2]; exact b⟩⟩
theorem scanI_as {l m : D} (h : l.asList = m.asList) (s : List UInt8) : ∀ (f i : Nat), scanI l s f i = scanI m s f i
 | 0, _ => rfl
 | f + 1, i => by
  have e2 : sAt l i = sAt m i := by unfold sAt; rw [h]
  unfold scanI; rw [e2, scanI_as h s f (i + 1)]
theorem idx_as {l m : D} (h : l.asList = m.asList) (s : List UInt8) : idx l s = idx m s := by
 unfold idx; rw [show l.len = m.len by unfold D.len; rw [h]]; exact scanI_as h s _ _
end Go.Ev

end
