/-
  Part of the engine that the claim is proved with: it states nothing of the document by itself.
-/
import Derived.Test.YtenmglepjkflhaaGreatDoorCoreQpT
open Go.Proofs
namespace Go.Ev
set_option maxRecDepth 100000
set_option maxHeartbeats 4000000
structure eqN (a b : D) : Prop where
 out : a.len = b.len ∧ ∀ i, i < a.len → nAt a i = nAt b i
noncomputable def con42 : Con := fun | [.int .i64 n, .dat 27 l] => some ((1 ≤ n ∧ n ≤ 64) ∧ l.len ≤ 16777216, .prop (fitP n l)) | _ => none
noncomputable def con39 : Con := fun | [.int .i64 n, .dat 27 l] => some (l.len ≤ 16777216, .prop (okS n l)) | _ => none
noncomputable def ebmAnn : FuncId → Nat → Option Ann
 | 20, 4 => some { τ := Nat, slots := fun _ _ x => [(13, .int .i64 x)], blks := fun _ _ _ => [], inv := fun S _ x => x ≤ (slD S 0).len ∧ ∀ i, i < x → nAt (slD S 0) i = nAt (slD S 1) i, meas := fun S _ x => (slD S 0).len - x }
 | 69, 3 => some { τ := Nat, slots := fun S _ x => [(11, .int .i64 x), (5, .int .i64 (slI S 0 - sumZ (slD S 1) x))], blks := fun _ _ _ => [], inv := fun S _ x => x ≤ (slD S 1).len ∧ (∀ i, i < x → 1 ≤ nAt (slD S 1) i) ∧ 0 ≤ sumZ (slD S 1) x ∧ sumZ (slD S 1) x ≤ slI S 0, meas := fun S _ x => (slD S 1).len - x }
 | 51, 4 => some { τ := Nat, slots := fun S _ x => [(20, .int .i64 x), (4, .int .i64 (triS (slD S 1) x))], blks := fun _ _ _ => [], inv := fun S _ x => x ≤ (slD S 1).len, meas := fun S _ x => (slD S 1).len - x }
 | 64, 3 => some { τ := Nat, slots := fun S _ x => [(6, .int .i64 x), (5, .int .i64 (sumZ (slD S 1) x))], blks := fun _ _ _ => [], inv := fun S _ x => x ≤ (slD S 1).len ∧ (∀ i, i < x → 1 ≤ nAt (slD S 1) i) ∧ 0 ≤ sumZ (slD S 1) x ∧ sumZ (slD S 1) x ≤ 128, meas := fun S _ x => (slD S 1).len - x }
 | _, _ => none
theorem vc19 : ∀ (a b : D), symFun (ctx cc0 ebmAnn) 3 (20 : FuncId) [V.dat (27 : TypeId) a, V.dat (27 : TypeId) b] (V.prop (eqN a b)) = ((((a.len : Int) = (b.len : Int) → False) → (false = true ↔ eqN a b)) ∧ ((((a.len :
Int) = (b.len : Int) → False) → False) → (∃ (x : Nat), (x ≤ a.len ∧ ∀ (i : Nat), i < x → nAt a i = nAt b i) ∧ (0 = (x : Int) ∧ True) ∧ True) ∧ ∀ (x : Nat), (x ≤ a.len ∧ ∀ (i : Nat), i < x → nAt a i = nAt b i) → a.len - x
< LIM ∧ ((x : Int) < (a.len : Int) → 0 ≤ (x : Int) ∧ (x : Int) < (a.len : Int) ∧ 0 ≤ (x : Int) ∧ (x : Int) < (b.len : Int) ∧ ((nAt a x = nAt b x → False) → (false = true ↔ eqN a b)) ∧ (((nAt a x = nAt b x → False) →
False) → fits64 ((x : Int) + 1) ∧ ∃ (y : Nat), (y ≤ a.len ∧ ∀ (i : Nat), i < y → nAt a i = nAt b i) ∧ a.len - y < a.len - x ∧ ((x : Int) + 1 = (y : Int) ∧ True) ∧ True)) ∧ (((x : Int) < (a.len : Int) → False) → (true =
true ↔ eqN a b)))) := by intros; kernel_rfl
theorem vc39 : ∀ (n : Int) (l : D), symFun (ctx cc0 ebmAnn) 3 (64 : FuncId) [V.int IntKind.i64 n, V.dat (27 : TypeId) l] (V.prop (okS n l)) = ((∃ (x : Nat), (x ≤ l.len ∧ (∀ (i : Nat), i < x → 1 ≤ nAt l i) ∧ 0 ≤ sumZ l x
∧ sumZ l x ≤ 128) ∧ (0 = (x : Int) ∧ 0 = sumZ l x ∧ True) ∧ True) ∧ ∀ (x : Nat), x ≤ l.len ∧ (∀ (i : Nat), i < x → 1 ≤ nAt l i) ∧ 0 ≤ sumZ l x ∧ sumZ l x ≤ 128 → l.len - x < LIM ∧ ((x : Int) < (l.len : Int) → 0 ≤ (x :
Int) ∧ (x : Int) < (l.len : Int) ∧ ((nAt l x < 1 → False) → 0 ≤ (x : Int) ∧ (x : Int) < (l.len : Int) ∧ ((64 < nAt l x → False) → (64 < sumZ l x → (false = true ↔ okS n l)) ∧ ((64 < sumZ l x → False) → 0 ≤ (x : Int) ∧ (x
: Int) < (l.len : Int) ∧ fits64 (sumZ l x + nAt l x) ∧ fits64 ((x : Int) + 1) ∧ ∃ (y : Nat), (y ≤ l.len ∧ (∀ (i : Nat), i < y → 1 ≤ nAt l i) ∧ 0 ≤ sumZ l y ∧ sumZ l y ≤ 128) ∧ l.len - y < l.len - x ∧ ((x : Int) + 1 = (y
: Int) ∧ sumZ l x + nAt l x = sumZ l y ∧ True) ∧ True)) ∧ (64 < nAt l x → (false = true ↔ okS n l))) ∧ (nAt l x < 1 → (false = true ↔ okS n l))) ∧ (((x : Int) < (l.len : Int) → False) → (1 ≤ n → (n ≤ 64 → (sumZ l x = n ↔
okS n l)) ∧ ((n ≤ 64 → False) → (false = true ↔ okS n l))) ∧ ((1 ≤ n → False) → (false = true ↔ okS n l)))) := by intros; kernel_rfl
theorem s19 (a b : D) (ha : a.len ≤ 16777216) : symFun (ctx cc0 ebmAnn) 3 20 [.dat 27 a, .dat 27 b] (.prop (eqN a b)) := by
 rw [vc19]
 refine ⟨fun h => iff_of_false (fun h => (by cases h)) fun h' => h (by have := h'.out.1; omega), fun h => ?_⟩
 have he := Classical.not_not.1 h
 refine ⟨⟨0, ⟨Nat.zero_le _, fun i hi => absurd hi (Nat.not_lt_zero _)⟩, ⟨rfl, trivial⟩, trivial⟩, fun x hx => ⟨?_, fun hlt => ⟨by omega, by omega, by omega, by omega, fun hn => iff_of_false (fun h => (by cases h)) fun h' => hn (h'.out.2 x (by omega)), fun hn => ⟨⟨by omega, by omega⟩, x + 1, ⟨by omega, fun i hi => ?_⟩, by omega, ⟨by omega, trivial⟩, trivial⟩⟩, fun hge => ?_⟩⟩
 ·unfold LIM; omega
 ·rcases Nat.lt_or_ge i x with h' | h'
  ·exact hx.2 i h'
  ·rw [show i = x by omega]; exact Classical.not_not.1 hn
 ·have hge := not_of hge
  exact iff_of_true rfl ⟨by omega, fun i hi => hx.2 i (by omega)⟩
theorem s39 (n : Int) (l : D) (hl : l.len ≤ 16777216) : symFun (ctx cc0 ebmAnn) 3 64 [.int .i64 n, .dat 27 l] (.prop (okS n l)) := by
 rw [vc39]
 have no : ∀ {p : Prop}, ¬ p → (false = true ↔ p) := fun h => iff_of_false (fun h => (by cases h)) h
 refine And.intro ⟨0, ⟨Nat.zero_le _, fun i hi => absurd hi (Nat.not_lt_zero _), Int.le_refl _, by show (0 : Int) ≤ 128; omega⟩, ⟨rfl, rfl, trivial⟩, trivial⟩ (fun x hx => ⟨by unfold LIM; omega, fun hlt => ⟨by omega, by omega, fun hs => ⟨by omega, by omega, fun hb => ⟨fun hc => no fun h => ?_, fun hc => ?_⟩, fun hb => no fun h => ?_⟩, fun hs => no fun h => ?_⟩, fun hge => ⟨fun h1 => ⟨fun h2 => ?_, fun h2 => no fun h => h2 h.n2⟩, fun h1 => no fun h => h1 h.n1⟩⟩)
 ·have := fit_sum h.fit (x := x) (by omega); have := h.n2; omega
 ·have hs := not_of hs; have hb := not_of hb; have hc := not_of hc
  have e : sumZ l (x + 1) = sumZ l x + nAt l x := rfl
  refine ⟨by omega, by omega, ⟨by omega, by omega⟩, ⟨by omega, by omega⟩, x + 1, ⟨by omega, fun i hi => ?_, by omega, by omega⟩, by omega, ⟨by omega, by omega, trivial⟩, trivial⟩
  rcases Nat.lt_or_ge i x with h' | h'
  ·exact hx.2.1 i h'
  ·rw [show i = x by omega]; omega
 ·have := (ok_siz h).2 x (by omega); have := h.n2; omega
 ·have := (ok_siz h).2 x (by omega); omega
 ·have hge := not_of hge
  have e : x = l.len := by omega
  subst e
  exact ⟨fun h => ⟨h1, h2, ⟨hx.2.1, h⟩⟩, fun h => h.fit.out.2⟩
structure eqNN (a b : D) : Prop where
 out : a.len = b.len ∧ ∀ i, i < a.len → eqN (el a i) (el b i)
structure eqS3 (a b : D) : Prop where
 out : a.len = b.len ∧ ∀ i, i < a.len → eqNN (el a i) (el b i)
structure fewP (s : D) (m : Int) : Prop where
 out : s.len ≤ 70 ∧ (∀ i, i < s.len → (el s i).len ≤ 12) ∧ (totS s s.len : Int) ≤ m
structure lensP (s : D) : Prop where
 out : ∀ i j, i < s.len → j < (el s i).len → (el (el s i) j).len ≤ 1152921504606846976
def cpT (t : D) : D := .list t.asList
def cpEL (ev : D) (n : Nat) : List D := (List.range n).map fun i => cpT (el ev i)
def cpE (ev : D) : D := listD (cpEL ev ev.len)
def cpSL (s : D) (n : Nat) : List D := (List.range n).map fun i => cpE (el s i)
def cpS (s : D) : D := listD (cpSL s s.len)
noncomputable def con67 : Con := fun | [.dat 27 a, .dat 27 b] => some (a.len ≤ 16777216, .prop (eqN a b)) | _ => none
noncomputable def con47 : Con := fun | [.dat 26 a, .dat 26 b] => some (smE a, .prop (eqNN a b)) | _ => none
noncomputable def con64 : Con := fun | [.int .i64 n, .dat 27 d] => some ((1 ≤ n ∧ n ≤ 64) ∧ d.len ≤ 1000000, .int .i64 (errG n d.asList)) | _ => none
noncomputable def con43 : Con := fun | [.int .i64 n, .dat 27 sz, .dat 26 ev] => some ((1 ≤ n ∧ n ≤ 64) ∧ smE ev ∧ sz.len ≤ 1000, .int .i64 (errE n sz ev)) | _ => none
noncomputable def con66 : Con := fun | [.dat 26 ev, .int .i64 x] => some (smE ev, .int .i64 (cntF (flatL ev ev.len) x)) | _ => none
noncomputable def emAnn : FuncId → Nat → Option Ann
 | 44, 4 => some { τ := Nat, slots := fun _ _ x => [(5, .int .i64 x)], blks := fun _ _ _ => [], inv := fun S _ x => x ≤ (slD S 0).len ∧ ∀ i, i < x → nAt (slD S 0) i = nAt (slD S 1) i, meas := fun S _ x => (slD S 0).len - x }
 | 18, 4 => some { τ := Nat, slots := fun _ _ x => [(5, .int .i64 x)], blks := fun _ _ _ => [], inv := fun S _ x => x ≤ (slD S 0).len ∧ ∀ i, i < x → eqN (el (slD S 0) i) (el (slD S 1) i), meas := fun S _ x => (slD S 0).len - x }
 | 41, 4 => some { τ := Nat, slots := fun _ _ x => [(17, .int .i64 x)], blks := fun _ _ _ => [], inv := fun S _ x => x ≤ (slD S 0).len ∧ ∀ i, i < x → eqNN (el (slD S 0) i) (el (slD S 1) i), meas := fun S _ x => (slD S 0).len - x }
 | 4, 5 => some { τ := Nat, slots := fun S _ x => [(15, .int .i64 x), (5, .int .i64 (totS (slD S 0) x))], blks := fun _ _ _ => [], inv := fun S _ x => x ≤ (slD S 0).len ∧ (∀ i, i < x → (el (slD S 0) i).len ≤ 12) ∧ (totS (slD S 0) x : Int) ≤ slI S 1, meas := fun S _ x => (slD S 0).len - x }
 | 4, 10 => some { τ := Nat, slots := fun S _ x => [(24, .int .i64 x), (5, .int .i64 (slI S 5 + (totE (slD S 22) x : Nat)))], blks := fun _ _ _ => [], inv := fun S _ x => x ≤ (slD S 22).len ∧ slI S 5 + (totE (slD S 22) x : Nat) ≤ slI S 1, meas := fun S _ x => (slD S 22).len - x }
 | 7, 3 => some { hs := 2, τ := Nat, slots := fun _ i x => match i with | 0 => [(11, .int .i64 0), (3, .val (.slice none 0 0))] | _ => [(11, .int .i64 x), (3, .slc 60 (.lit 0) (.sym x) none)], blks := fun S i x => match i with | 0 => [] | _ => [(60, .arr 26 (cpSL (slD S 0) x))], inv := fun S i x => match i with | 0 => x = 0 | _ => 0 < x ∧ x ≤ (slD S 0).len, meas := fun S _ x => (slD S 0).len - x }
 | 7, 7 => some { hs := 2, τ := Nat, slots := fun _ i x => match i with | 0 => [(17, .int .i64 0), (6, .val (.slice none 0 0))] | _ => [(17, .int .i64 x), (6, .slc 90 (.lit 0) (.sym x) none)], blks := fun S i x => match i with | 0 => [] | _ => [(90, .arr 27 (cpEL (slD S 15) x))], inv := fun S i x => match i with | 0 => x = 0 | _ => 0 < x ∧ x ≤ (slD S 15).len, meas := fun S _ x => (slD S 15).len - x }
 | 55, 6 => some { τ := Nat, slots := fun _ _ x => [(32, .int .i64 x)], blks := fun _ _ _ => [], inv := fun S _ x => x ≤ (slD S 2).len ∧ scanK (slI S 0) (slD S 1) (slD S 2) ((slD S 2).len - x) x = scanK (slI S 0) (slD S 1) (slD S 2) (slD S 2).len 0, meas := fun S _ x => (slD S 2).len - x }
 | 40, 6 => some { τ := Nat, slots := fun _ _ x => [(8, .int .i64 x)], blks := fun _ _ _ => [], inv := fun S _ x => x ≤ (slD S 2).len ∧ scanK (slI S 0) (slD S 1) (slD S 2) ((slD S 2).len - x) x = scanK (slI S 0) (slD S 1) (slD S 2) (slD S 2).len 0, meas := fun S _ x => (slD S 2).len - x }
 | 65, 4 => some { τ := Nat, slots := fun _ _ x => [(7, .int .i64 x)], blks := fun _ _ _ => [], inv := fun S _ x => x ≤ (slD S 2).len ∧ ∀ i, i < x → (el (slD S 2) i).len ≠ 0 ∧ (0 < (slD S 1).len → ((el (slD S 2) i).len : Int) = nAt (slD S 1) i), meas := fun S _ x => (slD S 2).len - x }
 | 65, 9 => some { τ := Nat, slots := fun _ _ x => [(8, .int .i64 x)], blks := fun _ _ _ => [], inv := fun S _ x => x ≤ (slD S 2).len ∧ ¬ outP (slI S 0) (flatL (slD S 2) x), meas := fun S _ x => (slD S 2).len - x }
 | 65, 12 => some { τ := Nat, slots := fun _ _ x => [(9, .int .i64 x)], blks := fun _ _ _ => [], inv := fun S _ x => x ≤ (el (slD S 2) (slI S 8).toNat).len ∧ ∀ i, i < x → 0 ≤ nAt (el (slD S 2) (slI S 8).toNat) i ∧ nAt (el (slD S 2) (slI S 8).toNat) i < slI S 0, meas := fun S _ x => (el (slD S 2) (slI S 8).toNat).len - x }
 | 65, 17 => some { τ := Nat, slots := fun _ _ x => [(10, .int .i64 x)], blks := fun _ _ _ => [], inv := fun S _ x => x ≤ (slI S 0).toNat ∧ ∀ v : Nat, v < x → cntF (flatL (slD S 2) (slD S 2).len) v ≤ 1, meas := fun S _ x => (slI S 0).toNat - x }
 | 65, 22 => some { τ := Nat, slots := fun _ _ x => [(11, .int .i64 x)], blks := fun _ _ _ => [], inv := fun S _ x => x ≤ (slI S 0).toNat ∧ ∀ v : Nat, v < x → cntF (flatL (slD S 2) (slD S 2).len) v ≠ 0, meas := fun S _ x => (slI S 0).toNat - x }
 | 77, 3 => some { τ := Nat, slots := fun S _ x => [(6, .int .i64 x), (5, .int .i64 (cntF (flatL (slD S 0) x) (slI S 1)))], blks := fun _ _ _ => [], inv := fun S _ x => x ≤ (slD S 0).len, meas := fun S _ x => (slD S 0).len - x }
 | 77, 6 => some { τ := Nat, slots := fun S _ x => [(7, .int .i64 x), (5, .int .i64 (slI S 5 + cntF ((el (slD S 0) (slI S 6).toNat).asList.take x) (slI S 1)))], blks := fun _ _ _ => [], inv := fun S _ x => x ≤ (el (slD S 0) (slI S 6).toNat).len, meas := fun S _ x => (el (slD S 0) (slI S 6).toNat).len - x }
 | _, _ => none
noncomputable def ck1 : FuncId → Option Con
 | 44 => some con67
 | _ => none
noncomputable def ck2 : FuncId → Option Con
 | 18 => some con47
 | _ => none
noncomputable def cm3 : FuncId → Option Con
 | 84 => some con64
 | 77 => some con66
 | _ => none
noncomputable def cm4 : FuncId → Option Con
 | 69 => some con42
 | 64 => some con39
 | 74 => some con43
 | 65 => some con43
 | _ => none
theorem vc67 : ∀ (a b : D), symFun (ctx cc0 emAnn) 3 (44 : FuncId) [V.dat (27 : TypeId) a, V.dat (27 : TypeId) b] (V.prop (eqN a b)) = ((((a.len : Int) = (b.len : Int) → False) → (false = true ↔ eqN a b)) ∧ ((((a.len :
Int) = (b.len : Int) → False) → False) → (∃ (x : Nat), (x ≤ a.len ∧ ∀ (i : Nat), i < x → nAt a i = nAt b i) ∧ (0 = (x : Int) ∧ True) ∧ True) ∧ ∀ (x : Nat), (x ≤ a.len ∧ ∀ (i : Nat), i < x → nAt a i = nAt b i) → a.len - x
< LIM ∧ ((x : Int) < (a.len : Int) → 0 ≤ (x : Int) ∧ (x : Int) < (a.len : Int) ∧ 0 ≤ (x : Int) ∧ (x : Int) < (b.len : Int) ∧ ((nAt a x = nAt b x → False) → (false = true ↔ eqN a b)) ∧ (((nAt a x = nAt b x → False) →
False) → fits64 ((x : Int) + 1) ∧ ∃ (y : Nat), (y ≤ a.len ∧ ∀ (i : Nat), i < y → nAt a i = nAt b i) ∧ a.len - y < a.len - x ∧ ((x : Int) + 1 = (y : Int) ∧ True) ∧ True)) ∧ (((x : Int) < (a.len : Int) → False) → (true =
true ↔ eqN a b)))) := by intros; kernel_rfl
theorem vc47 : ∀ (a b : D), symFun (ctx ck1 emAnn) 3 (18 : FuncId) [V.dat (26 : TypeId) a, V.dat (26 : TypeId) b] (V.prop (eqNN a b)) = ((((a.len : Int) = (b.len : Int) → False) → (false = true ↔ eqNN a b)) ∧ ((((a.len :
Int) = (b.len : Int) → False) → False) → (∃ (x : Nat), (x ≤ a.len ∧ ∀ (i : Nat), i < x → eqN (el a i) (el b i)) ∧ (0 = (x : Int) ∧ True) ∧ True) ∧ ∀ (x : Nat), (x ≤ a.len ∧ ∀ (i : Nat), i < x → eqN (el a i) (el b i)) →
a.len - x < LIM ∧ ((x : Int) < (a.len : Int) → 0 ≤ (x : Int) ∧ (x : Int) < (a.len : Int) ∧ 0 ≤ (x : Int) ∧ (x : Int) < (b.len : Int) ∧ (el a x).len ≤ 16777216 ∧ ((eqN (el a x) (el b x) → False) → (false = true ↔ eqNN a
b)) ∧ (((eqN (el a x) (el b x) → False) → False) → fits64 ((x : Int) + 1) ∧ ∃ (y : Nat), (y ≤ a.len ∧ ∀ (i : Nat), i < y → eqN (el a i) (el b i)) ∧ a.len - y < a.len - x ∧ ((x : Int) + 1 = (y : Int) ∧ True) ∧ True)) ∧
(((x : Int) < (a.len : Int) → False) → (true = true ↔ eqNN a b)))) := by intros; kernel_rfl
theorem vc24 : ∀ (a b : D), symFun (ctx ck2 emAnn) 5 (15 : FuncId) [V.dat (22 : TypeId) a, V.dat (22 : TypeId) b] (V.prop (eqS3 a b)) = ((((a.len : Int) = (b.len : Int) → False) → (false = true ↔ eqS3 a b)) ∧ ((((a.len :
Int) = (b.len : Int) → False) → False) → (∃ (x : Nat), (x ≤ a.len ∧ ∀ (i : Nat), i < x → eqNN (el a i) (el b i)) ∧ (0 = (x : Int) ∧ True) ∧ True) ∧ ∀ (x : Nat), (x ≤ a.len ∧ ∀ (i : Nat), i < x → eqNN (el a i) (el b i)) →
a.len - x < LIM ∧ ((x : Int) < (a.len : Int) → 0 ≤ (x : Int) ∧ (x : Int) < (a.len : Int) ∧ 0 ≤ (x : Int) ∧ (x : Int) < (b.len : Int) ∧ smE (el a x) ∧ ((eqNN (el a x) (el b x) → False) → (false = true ↔ eqS3 a b)) ∧
(((eqNN (el a x) (el b x) → False) → False) → fits64 ((x : Int) + 1) ∧ ∃ (y : Nat), (y ≤ a.len ∧ ∀ (i : Nat), i < y → eqNN (el a i) (el b i)) ∧ a.len - y < a.len - x ∧ ((x : Int) + 1 = (y : Int) ∧ True) ∧ True)) ∧ (((x :
Int) < (a.len : Int) → False) → (true = true ↔ eqS3 a b)))) := by intros; kernel_rfl
theorem vc20 : ∀ (s : D) (m : Int), symFun (ctx cc0 emAnn) 3 (4 : FuncId) [V.dat (22 : TypeId) s, V.int IntKind.i64 m] (V.prop (fewP s m)) = ((70 < (s.len : Int) → (false = true ↔ fewP s m)) ∧ ((70 < (s.len : Int) →
False) → (∃ (x : Nat), (x ≤ s.len ∧ (∀ (i : Nat), i < x → (el s i).len ≤ 12) ∧ (↑(totS s x) : Int) ≤ m) ∧ (0 = (x : Int) ∧ 0 = (↑(totS s x) : Int) ∧ True) ∧ True) ∧ ∀ (x : Nat), x ≤ s.len ∧ (∀ (i : Nat), i < x → (el s
i).len ≤ 12) ∧ (↑(totS s x) : Int) ≤ m → s.len - x < LIM ∧ ((x : Int) < (s.len : Int) → 0 ≤ (x : Int) ∧ (x : Int) < (s.len : Int) ∧ (12 < (↑(el s x).len : Int) → (false = true ↔ fewP s m)) ∧ ((12 < (↑(el s x).len : Int)
→ False) → (∃ (x_1 : Nat), (x_1 ≤ (el s x).len ∧ (↑(totS s x) : Int) + (↑(totE (el s x) x_1) : Int) ≤ m) ∧ (0 = (x_1 : Int) ∧ (↑(totS s x) : Int) = (↑(totS s x) : Int) + (↑(totE (el s x) x_1) : Int) ∧ True) ∧ True) ∧ ∀
(x_1 : Nat), x_1 ≤ (el s x).len ∧ (↑(totS s x) : Int) + (↑(totE (el s x) x_1) : Int) ≤ m → (el s x).len - x_1 < LIM ∧ ((x_1 : Int) < (↑(el s x).len : Int) → 0 ≤ (x_1 : Int) ∧ (x_1 : Int) < (↑(el s x).len : Int) ∧ fits64
((↑(totS s x) : Int) + (↑(totE (el s x) x_1) : Int) + (↑(el (el s x) x_1).len : Int)) ∧ (m < (↑(totS s x) : Int) + (↑(totE (el s x) x_1) : Int) + (↑(el (el s x) x_1).len : Int) → (false = true ↔ fewP s m)) ∧ ((m <
(↑(totS s x) : Int) + (↑(totE (el s x) x_1) : Int) + (↑(el (el s x) x_1).len : Int) → False) → fits64 ((x_1 : Int) + 1) ∧ ∃ (y : Nat), (y ≤ (el s x).len ∧ (↑(totS s x) : Int) + (↑(totE (el s x) y) : Int) ≤ m) ∧ (el s
x).len - y < (el s x).len - x_1 ∧ ((x_1 : Int) + 1 = (y : Int) ∧ (↑(totS s x) : Int) + (↑(totE (el s x) x_1) : Int) + (↑(el (el s x) x_1).len : Int) = (↑(totS s x) : Int) + (↑(totE (el s x) y) : Int) ∧ True) ∧ True)) ∧
(((x_1 : Int) < (↑(el s x).len : Int) → False) → fits64 ((x : Int) + 1) ∧ ∃ (y : Nat), (y ≤ s.len ∧ (∀ (i : Nat), i < y → (el s i).len ≤ 12) ∧ (↑(totS s y) : Int) ≤ m) ∧ s.len - y < s.len - x ∧ ((x : Int) + 1 = (y : Int)
∧ (↑(totS s x) : Int) + (↑(totE (el s x) x_1) : Int) = (↑(totS s y) : Int) ∧ True) ∧ True))) ∧ (((x : Int) < (s.len : Int) → False) → (true = true ↔ fewP s m)))) := by intros; kernel_rfl
theorem vc66 : ∀ (ev : D) (x : Int), symFun (ctx cc0 emAnn) 3 (77 : FuncId) [V.dat (26 : TypeId) ev, V.int IntKind.i64 x] (V.int IntKind.i64 (cntF (flatL ev ev.len) x)) = ((∃ (x_1 : Nat), x_1.le ev.len ∧ (0 = (x_1 : Int)
∧ 0 = cntF (flatL ev x_1) x ∧ True) ∧ True) ∧ ∀ (x_1 : Nat), x_1.le ev.len → ev.len - x_1 < LIM ∧ ((x_1 : Int) < (ev.len : Int) → (∃ (x_2 : Nat), x_2.le (el ev x_1).len ∧ (0 = (x_2 : Int) ∧ cntF (flatL ev x_1) x = cntF
(flatL ev x_1) x + cntF (List.take x_2 (el ev x_1).asList) x ∧ True) ∧ True) ∧ ∀ (x_2 : Nat), x_2.le (el ev x_1).len → (el ev x_1).len - x_2 < LIM ∧ 0 ≤ (x_1 : Int) ∧ (x_1 : Int) < (ev.len : Int) ∧ ((x_2 : Int) < (↑(el
ev x_1).len : Int) → 0 ≤ (x_1 : Int) ∧ (x_1 : Int) < (ev.len : Int) ∧ 0 ≤ (x_2 : Int) ∧ (x_2 : Int) < (↑(el ev x_1).len : Int) ∧ (nAt (el ev x_1) x_2 = x → fits64 (cntF (flatL ev x_1) x + cntF (List.take x_2 (el ev
x_1).asList) x + 1) ∧ fits64 ((x_2 : Int) + 1) ∧ ∃ (y : Nat), y.le (el ev x_1).len ∧ (el ev x_1).len - y < (el ev x_1).len - x_2 ∧ ((x_2 : Int) + 1 = (y : Int) ∧ cntF (flatL ev x_1) x + cntF (List.take x_2 (el ev
x_1).asList) x + 1 = cntF (flatL ev x_1) x + cntF (List.take y (el ev x_1).asList) x ∧ True) ∧ True) ∧ ((nAt (el ev x_1) x_2 = x → False) → fits64 ((x_2 : Int) + 1) ∧ ∃ (y : Nat), y.le (el ev x_1).len ∧ (el ev x_1).len -
y < (el ev x_1).len - x_2 ∧ ((x_2 : Int) + 1 = (y : Int) ∧ cntF (flatL ev x_1) x + cntF (List.take x_2 (el ev x_1).asList) x = cntF (flatL ev x_1) x + cntF (List.take y (el ev x_1).asList) x ∧ True) ∧ True)) ∧ (((x_2 :
Int) < (↑(el ev x_1).len : Int) → False) → fits64 ((x_1 : Int) + 1) ∧ ∃ (y : Nat), y.le ev.len ∧ ev.len - y < ev.len - x_1 ∧ ((x_1 : Int) + 1 = (y : Int) ∧ cntF (flatL ev x_1) x + cntF (List.take x_2 (el ev x_1).asList)
x = cntF (flatL ev y) x ∧ True) ∧ True)) ∧ (((x_1 : Int) < (ev.len : Int) → False) → cntF (flatL ev x_1) x = cntF (flatL ev ev.len) x)) := by intros; kernel_rfl
theorem totS_mono (s : D) (n : Nat) : ∀ k, totS s n ≤ totS s (n + k)
 | 0 => Nat.le_refl _
 | k + 1 => Nat.le_trans (totS_mono s n k) (Nat.le_add_right _ _)
theorem totS_mono' (s : D) {n m : Nat} (h : n ≤ m) : totS s n ≤ totS s m := by have := totS_mono s n (m - n); rwa [show n + (m - n) = m by omega] at this
theorem s67 (a b : D) (ha : a.len ≤ 16777216) : symFun (ctx cc0 emAnn) 3 44 [.dat 27 a, .dat 27 b] (.prop (eqN a b)) := by
 rw [vc67]
 refine ⟨fun h => no_of fun h' => h (by have := h'.out.1; omega), fun h => ?_⟩
 have he := Classical.not_not.1 h
 refine ⟨⟨0, ⟨Nat.zero_le _, fun i hi => absurd hi (Nat.not_lt_zero _)⟩, ⟨rfl, trivial⟩, trivial⟩, fun x hx => ⟨?_, fun hlt => ⟨by omega, by omega, by omega, by omega, fun hn => no_of fun h' => hn (h'.out.2 x (by omega)), fun hn => ⟨⟨by omega, by omega⟩, x + 1, ⟨by omega, fun i hi => ?_⟩, by omega, ⟨by omega, trivial⟩, trivial⟩⟩, fun hge => ?_⟩⟩
 ·unfold LIM; omega
 ·rcases Nat.lt_or_ge i x with h' | h'
  ·exact hx.2 i h'
  ·rw [show i = x by omega]; exact Classical.not_not.1 hn
 ·have hge := not_of hge
  exact iff_of_true rfl ⟨by omega, fun i hi => hx.2 i (by omega)⟩
theorem s47 (a b : D) (ha : smE a) : symFun (ctx ck1 emAnn) 3 18 [.dat 26 a, .dat 26 b] (.prop (eqNN a b)) := by
 rw [vc47]
 have hl := ha.out.1
 refine ⟨fun h => no_of fun h' => h (by have := h'.out.1; omega), fun h => ?_⟩
 have he := Classical.not_not.1 h
 refine ⟨⟨0, ⟨Nat.zero_le _, fun i hi => absurd hi (Nat.not_lt_zero _)⟩, ⟨rfl, trivial⟩, trivial⟩, fun x hx => ⟨?_, fun hlt => ⟨by omega, by omega, by omega, by omega, by have := ha.out.2 x (by omega); omega, fun hn => no_of fun h' => hn (h'.out.2 x (by omega)), fun hn => ⟨⟨by omega, by omega⟩, x + 1, ⟨by omega, fun i hi => ?_⟩, by omega, ⟨by omega, trivial⟩, trivial⟩⟩, fun hge => ?_⟩⟩
 ·unfold LIM; omega
 ·rcases Nat.lt_or_ge i x with h' | h'
  ·exact hx.2 i h'
  ·rw [show i = x by omega]; exact Classical.not_not.1 hn
 ·have hge := not_of hge
  exact iff_of_true rfl ⟨by omega, fun i hi => hx.2 i (by omega)⟩
theorem s24 (a b : D) (ha : bigP a) : symFun (ctx ck2 emAnn) 5 15 [.dat 22 a, .dat 22 b] (.prop (eqS3 a b)) := by
 rw [vc24]
 have hl := ha.out.1
 refine ⟨fun h => no_of fun h' => h (by have := h'.out.1; omega), fun h => ?_⟩
 have he := Classical.not_not.1 h
 refine ⟨⟨0, ⟨Nat.zero_le _, fun i hi => absurd hi (Nat.not_lt_zero _)⟩, ⟨rfl, trivial⟩, trivial⟩, fun x hx => ⟨?_, fun hlt => ⟨by omega, by omega, by omega, by omega, ha.out.2 x (by omega), fun hn => no_of fun h' => hn (h'.out.2 x (by omega)), fun hn => ⟨⟨by omega, by omega⟩, x + 1, ⟨by omega, fun i hi => ?_⟩, by omega, ⟨by omega, trivial⟩, trivial⟩⟩, fun hge => ?_⟩⟩
 ·unfold LIM; omega
 ·rcases Nat.lt_or_ge i x with h' | h'
  ·exact hx.2 i h'
  ·rw [show i = x by omega]; exact Classical.not_not.1 hn
 ·have hge := not_of hge
  exact iff_of_true rfl ⟨by omega, fun i hi => hx.2 i (by omega)⟩
theorem s20 (s : D) (m : Int) (h0 : 0 ≤ m) (h1 : m ≤ 100000) (hs : lensP s) : symFun (ctx cc0 emAnn) 3 4 [.dat 22 s, .int .i64 m] (.prop (fewP s m)) := by
 rw [vc20]
 refine ⟨fun h => no_of fun h' => by have := h'.out.1; omega, fun h => ?_⟩
 have h := not_of h
 refine And.intro ⟨0, ⟨Nat.zero_le _, fun i hi => absurd hi (Nat.not_lt_zero _), h0⟩, ⟨rfl, rfl, trivial⟩, trivial⟩ (fun x hx => ⟨lim_of (by omega), fun hlt => ⟨by omega, by omega, fun h2 => no_of fun h' => by have := h'.out.2.1 x (by omega); omega, fun h2 => ?_⟩, fun hge => ?_⟩)
 ·have h2 := not_of h2
  refine And.intro ⟨0, ⟨Nat.zero_le _, by show (totS s x : Int) + ((0 : Nat) : Int) ≤ m; omega⟩, ⟨rfl, by show (totS s x : Int) = totS s x + ((0 : Nat) : Int); omega, trivial⟩, trivial⟩ (fun y hy => ⟨lim_of (by omega), fun hlt2 => ?_, fun hge => ?_⟩)
  ·have h3 := hs.out x y (by omega) (by omega)
   have e : totE (el s x) (y + 1) = totE (el s x) y + (el (el s x) y).len := rfl
   refine ⟨by omega, by omega, ⟨by omega, by omega⟩, fun h4 => no_of fun h' => ?_, fun h4 => ⟨⟨by omega, by omega⟩, y + 1, ⟨by omega, by have := not_of h4; omega⟩, by omega, ⟨by omega, by omega, trivial⟩, trivial⟩⟩
   have k1 := tot_mono' (el s x) (show y + 1 ≤ (el s x).len by omega)
   have k2 := totS_mono' s (show x + 1 ≤ s.len by omega)
   have e2 : totS s (x + 1) = totS s x + totE (el s x) (el s x).len := rfl
   have := h'.out.2.2
   omega
  ·have hge := not_of hge
   have e2 : totS s (x + 1) = totS s x + totE (el s x) (el s x).len := rfl
   have e : y = (el s x).len := by omega
   subst e
   refine ⟨⟨by omega, by omega⟩, x + 1, ⟨by omega, fun i hi => ?_, by omega⟩, by omega, ⟨by omega, by omega, trivial⟩, trivial⟩
   rcases Nat.lt_or_ge i x with h' | h'
   ·exact hx.2.1 i h'
   ·rw [show i = x by omega]; omega
 ·have hge := not_of hge
  have e : x = s.len := by omega
  subst e
  exact iff_of_true rfl ⟨by omega, hx.2.1, hx.2.2⟩
theorem s66 (ev : D) (x : Int) (h : smE ev) : symFun (ctx cc0 emAnn) 3 77 [.dat 26 ev, .int .i64 x] (.int .i64 (cntF (flatL ev ev.len) x)) := by
 rw [vc66]
 have hl := h.out.1
 refine And.intro ⟨0, Nat.zero_le _, ⟨rfl, rfl, trivial⟩, trivial⟩ (fun i hi => ?_)
 have hi : i ≤ ev.len := hi
 refine ⟨lim_of (by omega), fun hlt => ?_, fun hge => ?_⟩
 ·have h2 := h.out.2 i (by omega)
  have c1 := cntF_rng (flatL ev i) x
  have c2 := tot_le h.out.2 i hi
  rw [flat_len] at c1
  refine And.intro ⟨0, Nat.zero_le _, ⟨rfl, by show _ = _ + (0 : Int); omega, trivial⟩, trivial⟩ (fun j hj => ?_)
  have hj : j ≤ (el ev i).len := hj
  have c3 := cntF_rng (List.take j (el ev i).asList) x
  have c4 : (List.take j (el ev i).asList).length ≤ j := by rw [List.length_take]; omega
  refine ⟨lim_of (by omega), by omega, by omega, fun hlt2 => ⟨by omega, by omega, by omega, by omega, fun he => ?_, fun he => ?_⟩, fun hge => ?_⟩
  ·have k : cntF ((el ev i).asList.take (j + 1)) x = cntF ((el ev i).asList.take j) x + (if nAt (el ev i) j = x then 1 else 0) := cntF_succ (l := (el ev i).asList) (i := j) (show j < (el ev i).len by omega) x
   rw [if_pos he] at k
   exact ⟨⟨by omega, by omega⟩, ⟨by omega, by omega⟩, j + 1, show j + 1 ≤ (el ev i).len by omega, by omega, ⟨by omega, by omega, trivial⟩, trivial⟩
  ·have k : cntF ((el ev i).asList.take (j + 1)) x = cntF ((el ev i).asList.take j) x + (if nAt (el ev i) j = x then 1 else 0) := cntF_succ (l := (el ev i).asList) (i := j) (show j < (el ev i).len by omega) x
   rw [if_neg he] at k
   exact ⟨⟨by omega, by omega⟩, j + 1, show j + 1 ≤ (el ev i).len by omega, by omega, ⟨by omega, by omega, trivial⟩, trivial⟩
  ·have hge := not_of hge
   have e : List.take j (el ev i).asList = (el ev i).asList := List.take_of_length_le (by show (el ev i).len ≤ j; omega)
   have e2 : cntF (flatL ev (i + 1)) x = cntF (flatL ev i) x + cntF (el ev i).asList x := cntF_app _ _ _
   exact ⟨⟨by omega, by omega⟩, i + 1, show i + 1 ≤ ev.len by omega, by omega, ⟨by omega, by rw [e, e2], trivial⟩, trivial⟩
 ·have hge := not_of hge
  rw [show i = ev.len by omega]
theorem vc44 : ∀ (n : Int) (sz ev : D), symFun (ctx cm3 emAnn) 3 (65 : FuncId) [V.int IntKind.i64 n, V.dat (27 : TypeId) sz, V.dat (26 : TypeId) ev] (V.int IntKind.i64 (errE n sz ev)) = ((0 < (sz.len : Int) → (((sz.len :
Int) = (ev.len : Int) → False) → 2 = errE n sz ev) ∧ ((((sz.len : Int) = (ev.len : Int) → False) → False) → (∃ (x : Nat), (x ≤ ev.len ∧ ∀ (i : Nat), i < x → ((el ev i).len = 0 → False) ∧ (0 < sz.len → (↑(el ev i).len :
Int) = nAt sz i)) ∧ (0 = (x : Int) ∧ True) ∧ True) ∧ ∀ (x : Nat), (x ≤ ev.len ∧ ∀ (i : Nat), i < x → ((el ev i).len = 0 → False) ∧ (0 < sz.len → (↑(el ev i).len : Int) = nAt sz i)) → ev.len - x < LIM ∧ ((x : Int) <
(ev.len : Int) → 0 ≤ (x : Int) ∧ (x : Int) < (ev.len : Int) ∧ (((↑(el ev x).len : Int) = 0 → False) → (0 < (sz.len : Int) → 0 ≤ (x : Int) ∧ (x : Int) < (sz.len : Int) ∧ 0 ≤ (x : Int) ∧ (x : Int) < (ev.len : Int) ∧ ((nAt
sz x = (↑(el ev x).len : Int) → False) → 2 = errE n sz ev) ∧ (((nAt sz x = (↑(el ev x).len : Int) → False) → False) → fits64 ((x : Int) + 1) ∧ ∃ (y : Nat), (y ≤ ev.len ∧ ∀ (i : Nat), i < y → ((el ev i).len = 0 → False) ∧
(0 < sz.len → (↑(el ev i).len : Int) = nAt sz i)) ∧ ev.len - y < ev.len - x ∧ ((x : Int) + 1 = (y : Int) ∧ True) ∧ True)) ∧ ((0 < (sz.len : Int) → False) → fits64 ((x : Int) + 1) ∧ ∃ (y : Nat), (y ≤ ev.len ∧ ∀ (i : Nat),
i < y → ((el ev i).len = 0 → False) ∧ (0 < sz.len → (↑(el ev i).len : Int) = nAt sz i)) ∧ ev.len - y < ev.len - x ∧ ((x : Int) + 1 = (y : Int) ∧ True) ∧ True)) ∧ ((↑(el ev x).len : Int) = 0 → 2 = errE n sz ev)) ∧ (((x :
Int) < (ev.len : Int) → False) → (∃ (x : Nat), (x ≤ ev.len ∧ (outP n (flatL ev x) → False)) ∧ (0 = (x : Int) ∧ True) ∧ True) ∧ ∀ (x : Nat), x ≤ ev.len ∧ (outP n (flatL ev x) → False) → ev.len - x < LIM ∧ ((x : Int) <
(ev.len : Int) → (∃ (x_1 : Nat), (x_1 ≤ (el ev x).len ∧ ∀ (i : Nat), i < x_1 → 0 ≤ nAt (el ev x) i ∧ nAt (el ev x) i < n) ∧ (0 = (x_1 : Int) ∧ True) ∧ True) ∧ ∀ (x_1 : Nat), (x_1 ≤ (el ev x).len ∧ ∀ (i : Nat), i < x_1 →
0 ≤ nAt (el ev x) i ∧ nAt (el ev x) i < n) → (el ev x).len - x_1 < LIM ∧ 0 ≤ (x : Int) ∧ (x : Int) < (ev.len : Int) ∧ ((x_1 : Int) < (↑(el ev x).len : Int) → 0 ≤ (x : Int) ∧ (x : Int) < (ev.len : Int) ∧ 0 ≤ (x_1 : Int) ∧
(x_1 : Int) < (↑(el ev x).len : Int) ∧ ((nAt (el ev x) x_1 < 0 → False) → 0 ≤ (x : Int) ∧ (x : Int) < (ev.len : Int) ∧ 0 ≤ (x_1 : Int) ∧ (x_1 : Int) < (↑(el ev x).len : Int) ∧ (n ≤ nAt (el ev x) x_1 → 6 = errE n sz ev) ∧
((n ≤ nAt (el ev x) x_1 → False) → fits64 ((x_1 : Int) + 1) ∧ ∃ (y : Nat), (y ≤ (el ev x).len ∧ ∀ (i : Nat), i < y → 0 ≤ nAt (el ev x) i ∧ nAt (el ev x) i < n) ∧ (el ev x).len - y < (el ev x).len - x_1 ∧ ((x_1 : Int) + 1
= (y : Int) ∧ True) ∧ True)) ∧ (nAt (el ev x) x_1 < 0 → 6 = errE n sz ev)) ∧ (((x_1 : Int) < (↑(el ev x).len : Int) → False) → fits64 ((x : Int) + 1) ∧ ∃ (y : Nat), (y ≤ ev.len ∧ (outP n (flatL ev y) → False)) ∧ ev.len -
y < ev.len - x ∧ ((x : Int) + 1 = (y : Int) ∧ True) ∧ True)) ∧ (((x : Int) < (ev.len : Int) → False) → (∃ (x : Nat), (x ≤ n.toNat ∧ ∀ (v : Nat), v < x → cntF (flatL ev ev.len) (v : Int) ≤ 1) ∧ (0 = (x : Int) ∧ True) ∧
True) ∧ ∀ (x : Nat), (x ≤ n.toNat ∧ ∀ (v : Nat), v < x → cntF (flatL ev ev.len) (v : Int) ≤ 1) → n.toNat - x < LIM ∧ ((x : Int) < n → smE ev ∧ (1 < cntF (flatL ev ev.len) (x : Int) → 5 = errE n sz ev) ∧ ((1 < cntF (flatL
ev ev.len) (x : Int) → False) → fits64 ((x : Int) + 1) ∧ ∃ (y : Nat), (y ≤ n.toNat ∧ ∀ (v : Nat), v < y → cntF (flatL ev ev.len) (v : Int) ≤ 1) ∧ n.toNat - y < n.toNat - x ∧ ((x : Int) + 1 = (y : Int) ∧ True) ∧ True)) ∧
(((x : Int) < n → False) → (∃ (x : Nat), (x ≤ n.toNat ∧ ∀ (v : Nat), v < x → cntF (flatL ev ev.len) (v : Int) = 0 → False) ∧ (0 = (x : Int) ∧ True) ∧ True) ∧ ∀ (x : Nat), (x ≤ n.toNat ∧ ∀ (v : Nat), v < x → cntF (flatL
ev ev.len) (v : Int) = 0 → False) → n.toNat - x < LIM ∧ ((x : Int) < n → smE ev ∧ (cntF (flatL ev ev.len) (x : Int) = 0 → 2 = errE n sz ev) ∧ ((cntF (flatL ev ev.len) (x : Int) = 0 → False) → fits64 ((x : Int) + 1) ∧ ∃
(y : Nat), (y ≤ n.toNat ∧ ∀ (v : Nat), v < y → cntF (flatL ev ev.len) (v : Int) = 0 → False) ∧ n.toNat - y < n.toNat - x ∧ ((x : Int) + 1 = (y : Int) ∧ True) ∧ True)) ∧ (((x : Int) < n → False) → 0 = errE n sz ev)))))) ∧
((0 < (sz.len : Int) → False) → (∃ (x : Nat), (x ≤ ev.len ∧ ∀ (i : Nat), i < x → ((el ev i).len = 0 → False) ∧ (0 < sz.len → (↑(el ev i).len : Int) = nAt sz i)) ∧ (0 = (x : Int) ∧ True) ∧ True) ∧ ∀ (x : Nat), (x ≤ ev.len
∧ ∀ (i : Nat), i < x → ((el ev i).len = 0 → False) ∧ (0 < sz.len → (↑(el ev i).len : Int) = nAt sz i)) → ev.len - x < LIM ∧ ((x : Int) < (ev.len : Int) → 0 ≤ (x : Int) ∧ (x : Int) < (ev.len : Int) ∧ (((↑(el ev x).len :
Int) = 0 → False) → (0 < (sz.len : Int) → 0 ≤ (x : Int) ∧ (x : Int) < (sz.len : Int) ∧ 0 ≤ (x : Int) ∧ (x : Int) < (ev.len : Int) ∧ ((nAt sz x = (↑(el ev x).len : Int) → False) → 2 = errE n sz ev) ∧ (((nAt sz x = (↑(el
ev x).len : Int) → False) → False) → fits64 ((x : Int) + 1) ∧ ∃ (y : Nat), (y ≤ ev.len ∧ ∀ (i : Nat), i < y → ((el ev i).len = 0 → False) ∧ (0 < sz.len → (↑(el ev i).len : Int) = nAt sz i)) ∧ ev.len - y < ev.len - x ∧
((x : Int) + 1 = (y : Int) ∧ True) ∧ True)) ∧ ((0 < (sz.len : Int) → False) → fits64 ((x : Int) + 1) ∧ ∃ (y : Nat), (y ≤ ev.len ∧ ∀ (i : Nat), i < y → ((el ev i).len = 0 → False) ∧ (0 < sz.len → (↑(el ev i).len : Int) =
nAt sz i)) ∧ ev.len - y < ev.len - x ∧ ((x : Int) + 1 = (y : Int) ∧ True) ∧ True)) ∧ ((↑(el ev x).len : Int) = 0 → 2 = errE n sz ev)) ∧ (((x : Int) < (ev.len : Int) → False) → (∃ (x : Nat), (x ≤ ev.len ∧ (outP n (flatL
ev x) → False)) ∧ (0 = (x : Int) ∧ True) ∧ True) ∧ ∀ (x : Nat), x ≤ ev.len ∧ (outP n (flatL ev x) → False) → ev.len - x < LIM ∧ ((x : Int) < (ev.len : Int) → (∃ (x_1 : Nat), (x_1 ≤ (el ev x).len ∧ ∀ (i : Nat), i < x_1 →
0 ≤ nAt (el ev x) i ∧ nAt (el ev x) i < n) ∧ (0 = (x_1 : Int) ∧ True) ∧ True) ∧ ∀ (x_1 : Nat), (x_1 ≤ (el ev x).len ∧ ∀ (i : Nat), i < x_1 → 0 ≤ nAt (el ev x) i ∧ nAt (el ev x) i < n) → (el ev x).len - x_1 < LIM ∧ 0 ≤ (x
: Int) ∧ (x : Int) < (ev.len : Int) ∧ ((x_1 : Int) < (↑(el ev x).len : Int) → 0 ≤ (x : Int) ∧ (x : Int) < (ev.len : Int) ∧ 0 ≤ (x_1 : Int) ∧ (x_1 : Int) < (↑(el ev x).len : Int) ∧ ((nAt (el ev x) x_1 < 0 → False) → 0 ≤
(x : Int) ∧ (x : Int) < (ev.len : Int) ∧ 0 ≤ (x_1 : Int) ∧ (x_1 : Int) < (↑(el ev x).len : Int) ∧ (n ≤ nAt (el ev x) x_1 → 6 = errE n sz ev) ∧ ((n ≤ nAt (el ev x) x_1 → False) → fits64 ((x_1 : Int) + 1) ∧ ∃ (y : Nat), (y
≤ (el ev x).len ∧ ∀ (i : Nat), i < y → 0 ≤ nAt (el ev x) i ∧ nAt (el ev x) i < n) ∧ (el ev x).len - y < (el ev x).len - x_1 ∧ ((x_1 : Int) + 1 = (y : Int) ∧ True) ∧ True)) ∧ (nAt (el ev x) x_1 < 0 → 6 = errE n sz ev)) ∧
(((x_1 : Int) < (↑(el ev x).len : Int) → False) → fits64 ((x : Int) + 1) ∧ ∃ (y : Nat), (y ≤ ev.len ∧ (outP n (flatL ev y) → False)) ∧ ev.len - y < ev.len - x ∧ ((x : Int) + 1 = (y : Int) ∧ True) ∧ True)) ∧ (((x : Int) <
(ev.len : Int) → False) → (∃ (x : Nat), (x ≤ n.toNat ∧ ∀ (v : Nat), v < x → cntF (flatL ev ev.len) (v : Int) ≤ 1) ∧ (0 = (x : Int) ∧ True) ∧ True) ∧ ∀ (x : Nat), (x ≤ n.toNat ∧ ∀ (v : Nat), v < x → cntF (flatL ev ev.len)
(v : Int) ≤ 1) → n.toNat - x < LIM ∧ ((x : Int) < n → smE ev ∧ (1 < cntF (flatL ev ev.len) (x : Int) → 5 = errE n sz ev) ∧ ((1 < cntF (flatL ev ev.len) (x : Int) → False) → fits64 ((x : Int) + 1) ∧ ∃ (y : Nat), (y ≤
n.toNat ∧ ∀ (v : Nat), v < y → cntF (flatL ev ev.len) (v : Int) ≤ 1) ∧ n.toNat - y < n.toNat - x ∧ ((x : Int) + 1 = (y : Int) ∧ True) ∧ True)) ∧ (((x : Int) < n → False) → (∃ (x : Nat), (x ≤ n.toNat ∧ ∀ (v : Nat), v < x
→ cntF (flatL ev ev.len) (v : Int) = 0 → False) ∧ (0 = (x : Int) ∧ True) ∧ True) ∧ ∀ (x : Nat), (x ≤ n.toNat ∧ ∀ (v : Nat), v < x → cntF (flatL ev ev.len) (v : Int) = 0 → False) → n.toNat - x < LIM ∧ ((x : Int) < n → smE
ev ∧ (cntF (flatL ev ev.len) (x : Int) = 0 → 2 = errE n sz ev) ∧ ((cntF (flatL ev ev.len) (x : Int) = 0 → False) → fits64 ((x : Int) + 1) ∧ ∃ (y : Nat), (y ≤ n.toNat ∧ ∀ (v : Nat), v < y → cntF (flatL ev ev.len) (v :
Int) = 0 → False) ∧ n.toNat - y < n.toNat - x ∧ ((x : Int) + 1 = (y : Int) ∧ True) ∧ True)) ∧ (((x : Int) < n → False) → 0 = errE n sz ev)))))) := by intros; kernel_rfl
theorem vc23 : ∀ (n : Int) (sz s : D), symFun (ctx cm4 emAnn) 4 (40 : FuncId) [V.int IntKind.i64 n, V.dat (27 : TypeId) sz, V.dat (22 : TypeId) s] (V.tup [V.int IntKind.i64 (chk n sz s).fst, V.int IntKind.i64 (chk n sz
s).snd]) = (((n < 1 → False) → ((64 < n → False) → (0 < (sz.len : Int) → sz.len ≤ 16777216 ∧ ((okS n sz → False) → 0 = (chk n sz s).fst ∧ 90 = (chk n sz s).snd ∧ True) ∧ (((okS n sz → False) → False) → (64 < (s.len :
Int) → 0 = (chk n sz s).fst ∧ 7 = (chk n sz s).snd ∧ True) ∧ ((64 < (s.len : Int) → False) → (∃ (x : Nat), (x ≤ s.len ∧ scanK n sz s (s.len - x) x = scanK n sz s s.len 0) ∧ (0 = (x : Int) ∧ True) ∧ True) ∧ ∀ (x : Nat), x
≤ s.len ∧ scanK n sz s (s.len - x) x = scanK n sz s s.len 0 → s.len - x < LIM ∧ ((x : Int) < (s.len : Int) → 0 ≤ (x : Int) ∧ (x : Int) < (s.len : Int) ∧ ((1 ≤ n ∧ n ≤ 64) ∧ smE (el s x) ∧ sz.len ≤ 1000) ∧ ((errE n sz (el
s x) = 0 → False) → (x : Int) = (chk n sz s).fst ∧ errE n sz (el s x) = (chk n sz s).snd ∧ True) ∧ (((errE n sz (el s x) = 0 → False) → False) → fits64 ((x : Int) + 1) ∧ ∃ (y : Nat), (y ≤ s.len ∧ scanK n sz s (s.len - y)
y = scanK n sz s s.len 0) ∧ s.len - y < s.len - x ∧ ((x : Int) + 1 = (y : Int) ∧ True) ∧ True)) ∧ (((x : Int) < (s.len : Int) → False) → 0 = (chk n sz s).fst ∧ 0 = (chk n sz s).snd ∧ True)))) ∧ ((0 < (sz.len : Int) →
False) → (64 < (s.len : Int) → 0 = (chk n sz s).fst ∧ 7 = (chk n sz s).snd ∧ True) ∧ ((64 < (s.len : Int) → False) → (∃ (x : Nat), (x ≤ s.len ∧ scanK n sz s (s.len - x) x = scanK n sz s s.len 0) ∧ (0 = (x : Int) ∧ True)
∧ True) ∧ ∀ (x : Nat), x ≤ s.len ∧ scanK n sz s (s.len - x) x = scanK n sz s s.len 0 → s.len - x < LIM ∧ ((x : Int) < (s.len : Int) → 0 ≤ (x : Int) ∧ (x : Int) < (s.len : Int) ∧ ((1 ≤ n ∧ n ≤ 64) ∧ smE (el s x) ∧ sz.len
≤ 1000) ∧ ((errE n sz (el s x) = 0 → False) → (x : Int) = (chk n sz s).fst ∧ errE n sz (el s x) = (chk n sz s).snd ∧ True) ∧ (((errE n sz (el s x) = 0 → False) → False) → fits64 ((x : Int) + 1) ∧ ∃ (y : Nat), (y ≤ s.len
∧ scanK n sz s (s.len - y) y = scanK n sz s s.len 0) ∧ s.len - y < s.len - x ∧ ((x : Int) + 1 = (y : Int) ∧ True) ∧ True)) ∧ (((x : Int) < (s.len : Int) → False) → 0 = (chk n sz s).fst ∧ 0 = (chk n sz s).snd ∧ True)))) ∧
(64 < n → 0 = (chk n sz s).fst ∧ 90 = (chk n sz s).snd ∧ True)) ∧ (n < 1 → 0 = (chk n sz s).fst ∧ 90 = (chk n sz s).snd ∧ True)) := by intros; kernel_rfl
theorem s44 (n : Int) (sz ev : D) (h1 : 1 ≤ n) (h2 : n ≤ 64) (he : smE ev) (hz : sz.len ≤ 1000) : symFun (ctx cm3 emAnn) 3 65 [.int .i64 n, .dat 27 sz, .dat 26 ev] (.int .i64 (errE n sz ev)) := by
 rw [vc44]
 have hl := he.out.1
 refine ⟨fun h0 => ⟨fun hn => errE_2 (.inr ⟨by omega, fun h' => hn (by have := h'.out.1; omega)⟩), fun hn => ?_⟩, fun h0 => ?_⟩
 all_goals
  have hs : 0 < sz.len → sz.len = ev.len := by first | (intro _; have hn := Classical.not_not.1 hn; omega) | (intro h; exact absurd (show (0 : Int) < (sz.len : Int) by omega) h0)
  clear h0
  refine And.intro ⟨0, ⟨Nat.zero_le _, fun i hi => absurd hi (Nat.not_lt_zero _)⟩, ⟨rfl, trivial⟩, trivial⟩ (fun x hx => ⟨lim_of (by omega), fun hlt => ⟨by omega, by omega, fun h3 => ⟨fun h4 => ⟨by omega, by have := hs (by omega); omega, by omega, by omega, fun h5 => errE_2 (.inr ⟨by omega, fun h' => h5 (h'.out.2 x (by omega)).symm⟩), fun h5 => ⟨⟨by omega, by omega⟩, x + 1, ⟨by omega, fun i hi => ?_⟩, by omega, ⟨by omega, trivial⟩, trivial⟩⟩, fun h4 => ⟨⟨by omega, by omega⟩, x + 1, ⟨by omega, fun i hi => ?_⟩, by omega, ⟨by omega, trivial⟩, trivial⟩⟩, fun h3 => errE_2 (.inl ⟨x, by omega, by omega⟩)⟩, fun hge => ?_⟩)
  ·have h5 := Classical.not_not.1 h5
   rcases Nat.lt_or_ge i x with h' | h'
   ·exact hx.2 i h'
   ·rw [show i = x by omega]; exact ⟨fun h => h3 (by omega), fun _ => h5.symm⟩
  ·rcases Nat.lt_or_ge i x with h' | h'
   ·exact hx.2 i h'
   ·rw [show i = x by omega]; exact ⟨fun h => h3 (by omega), fun h => absurd (show (0 : Int) < (sz.len : Int) by omega) h4⟩
  ·have hge := not_of hge
   have em : ¬ emptyP ev := fun ⟨i, hi, h0⟩ => (hx.2 i (by omega)).1 h0
   have eg := errE_g (n := n) em fun h => ⟨(hs h).symm, fun i hi => (hx.2 i (by omega)).2 h⟩
   rw [eg]
   clear eg em hx hge hs
   refine And.intro ⟨0, ⟨Nat.zero_le _, fun ⟨a, ha, _⟩ => (by cases ha)⟩, ⟨rfl, trivial⟩, trivial⟩ (fun x hx => ⟨lim_of (by omega), fun hlt => ?_, fun hge => ?_⟩)
   ·have hle := he.out.2 x (by omega)
    have six : ∀ j, j < (el ev x).len → ¬ (0 ≤ nAt (el ev x) j ∧ nAt (el ev x) j < n) → 6 = errG n (flatL ev ev.len) := fun j hj hn => (errG_6 ⟨_, by
     have hm : nthD (el ev x).asList j ∈ flatL ev (x + 1) := List.mem_append.2 (.inr (nthD_mem hj))
     exact flat_sub ev (by omega) _ hm, hn⟩).symm
    refine And.intro ⟨0, ⟨Nat.zero_le _, fun i hi => absurd hi (Nat.not_lt_zero _)⟩, ⟨rfl, trivial⟩, trivial⟩ (fun y hy => ⟨lim_of (by omega), by omega, by omega, fun hlt2 => ⟨by omega, by omega, by omega, by omega, fun h3 => ⟨by omega, by omega, by omega, by omega, fun h4 => six y (by omega) (by omega), fun h4 => ⟨⟨by omega, by omega⟩, y + 1, ⟨by omega, fun i hi => ?_⟩, by omega, ⟨by omega, trivial⟩, trivial⟩⟩, fun h3 => six y (by omega) (by omega)⟩, fun hge => ⟨⟨by omega, by omega⟩, x + 1, ⟨by omega, fun hO => ?_⟩, by omega, ⟨by omega, trivial⟩, trivial⟩⟩)
    ·rcases Nat.lt_or_ge i y with h' | h'
     ·exact hy.2 i h'
     ·have h3 := not_of h3; have h4 := not_of h4
      rw [show i = y by omega]; omega
    ·have hge := not_of hge
     obtain ⟨a, ha, hn⟩ := hO
     rcases List.mem_append.1 ha with ha | ha
     ·exact hx.2 ⟨a, ha, hn⟩
     ·obtain ⟨i, hi, rfl⟩ := mem_nthD ha
      exact hn (hy.2 i (by have : (el ev x).len = (el ev x).asList.length := rfl; omega))
   ·have hge := not_of hge
    have ho : ¬ outP n (flatL ev ev.len) := by rw [show ev.len = x by omega]; exact hx.2
    clear hx hge
    refine And.intro ⟨0, ⟨Nat.zero_le _, fun i hi => absurd hi (Nat.not_lt_zero _)⟩, ⟨rfl, trivial⟩, trivial⟩ (fun x hx => ⟨lim_of (by omega), fun hlt => ⟨he, fun h3 => (errG_5 ho (x := x) ⟨by omega, by omega⟩ h3).symm, fun h3 => ⟨⟨by omega, by omega⟩, x + 1, ⟨by omega, fun v hv => ?_⟩, by omega, ⟨by omega, trivial⟩, trivial⟩⟩, fun hge => ?_⟩)
    ·rcases Nat.lt_or_ge v x with h' | h'
     ·exact hx.2 v h'
     ·have h3 := not_of h3
      rw [show v = x by omega]; omega
    ·have hge := not_of hge
     have h1' : ∀ v : Nat, (v : Int) < n → cntF (flatL ev ev.len) v ≤ 1 := fun v hv => hx.2 v (by omega)
     clear hx hge
     refine And.intro ⟨0, ⟨Nat.zero_le _, fun i hi => absurd hi (Nat.not_lt_zero _)⟩, ⟨rfl, trivial⟩, trivial⟩ (fun x hx => ⟨lim_of (by omega), fun hlt => ⟨he, fun h3 => (errG_2 ho h1' (x := x) ⟨by omega, by omega⟩ h3).symm, fun h3 => ⟨⟨by omega, by omega⟩, x + 1, ⟨by omega, fun v hv => ?_⟩, by omega, ⟨by omega, trivial⟩, trivial⟩⟩, fun hge => ?_⟩)
     ·rcases Nat.lt_or_ge v x with h' | h'
      ·exact hx.2 v h'
      ·rw [show v = x by omega]; exact h3
     ·have hge := not_of hge
      exact (errG_0 ho h1' fun v hv => hx.2 v (by omega)).symm
theorem s23 (n : Int) (sz s : D) (hz : sz.len ≤ 1000) (hs : bigP s) : symFun (ctx cm4 emAnn) 4 40 [.int .i64 n, .dat 27 sz, .dat 22 s] (.tup [.int .i64 (chk n sz s).1, .int .i64 (chk n sz s).2]) := by
 rw [vc23]
 have bad : (¬ (1 ≤ n ∧ n ≤ 64) ∨ (0 < sz.len ∧ ¬ fitP n sz)) → 0 = (chk n sz s).1 ∧ 90 = (chk n sz s).2 ∧ True := fun h => by rw [chk_90 h]; exact ⟨rfl, rfl, trivial⟩
 refine ⟨fun h1 => ⟨fun h2 => ?_, fun h2 => bad (.inl (by omega))⟩, fun h1 => bad (.inl (by omega))⟩
 have h1 := not_of h1
 have h2 := not_of h2
 have h1 : 1 ≤ n := by omega
 have h2 : n ≤ 64 := by omega
 refine ⟨fun h0 => ⟨by omega, fun hf => bad (.inr ⟨by omega, fun h => hf ⟨h1, h2, h⟩⟩), fun hf => ?_⟩, fun h0 => ?_⟩
 all_goals
  have hfit : 0 < sz.len → fitP n sz := by first | (intro _; exact (Classical.not_not.1 hf).fit) | (intro h; exact absurd (show (0 : Int) < (sz.len : Int) by omega) h0)
  refine ⟨fun h3 => by rw [chk_7 ⟨h1, h2⟩ hfit (by omega)]; exact ⟨rfl, rfl, trivial⟩, fun h3 => ?_⟩
  have h3 := not_of h3
  rw [chk_s ⟨h1, h2⟩ hfit (by omega)]
  refine And.intro ⟨0, ⟨Nat.zero_le _, rfl⟩, ⟨rfl, trivial⟩, trivial⟩ (fun x hx => ⟨lim_of (by omega), fun hlt => ?_, fun hge => ?_⟩)
  ·have st := scan_step (n := n) (sz := sz) (s := s) (x := x) (by omega)
   rw [hx.2] at st
   refine ⟨by omega, by omega, ⟨⟨h1, h2⟩, hs.out.2 x (by omega), hz⟩, fun hn => by rw [st, if_pos hn]; exact ⟨rfl, rfl, trivial⟩, fun hn => ⟨⟨by omega, by omega⟩, x + 1, ⟨by omega, ?_⟩, by omega, ⟨by omega, trivial⟩, trivial⟩⟩
   rw [st, if_neg hn]
  ·have hge := not_of hge
   have st := scan_end (n := n) (sz := sz) (s := s) (x := x) (by omega)
   rw [hx.2] at st
   rw [st]; exact ⟨rfl, rfl, trivial⟩
theorem isNil_len0 {t : D} (h : t.isNil) : t.len = 0 := by
 cases t with
 | nil => rfl
 | _ => exact h.elim
theorem cp_e1 {t : D} (h : t.len = 0) (r : List D) : D.list (List.take t.len r) = cpT t := by
 rw [h, List.take_zero]
 unfold cpT
 rw [List.eq_nil_of_length_eq_zero (show t.asList.length = 0 from h)]
theorem cp_e2 (t d : D) : D.list (List.take t.len (List.drop (0 + 0) (List.take t.len (List.take 0 ([] : List D) ++ t.asList) ++ List.take 1 [d]))) = cpT t := by
 unfold cpT
 show D.list (List.take t.asList.length (List.take t.asList.length t.asList ++ [d])) = _
 rw [List.take_of_length_le (Nat.le_refl _), List.take_left]
theorem cpEL_len (e : D) (n : Nat) : (cpEL e n).length = n := by unfold cpEL; rw [List.length_map, List.length_range]
theorem cpSL_len (e : D) (n : Nat) : (cpSL e n).length = n := by unfold cpSL; rw [List.length_map, List.length_range]
theorem cpEL_succ (e : D) (n : Nat) : List.take n (cpEL e n) ++ [cpT (el e n)] = cpEL e (n + 1) := by
 rw [List.take_of_length_le (by rw [cpEL_len]; exact Nat.le_refl _)]
 unfold cpEL
 rw [List.range_succ, List.map_append]; rfl
theorem cpSL_succ (e : D) (n : Nat) : List.take n (cpSL e n) ++ [cpE (el e n)] = cpSL e (n + 1) := by
 rw [List.take_of_length_le (by rw [cpSL_len]; exact Nat.le_refl _)]
 unfold cpSL
 rw [List.range_succ, List.map_append]; rfl
theorem cpE_list {e : D} (h : 0 < e.len) : D.list (List.take e.len (cpEL e e.len)) = cpE e := by
 rw [List.take_of_length_le (by rw [cpEL_len]; exact Nat.le_refl _)]
 unfold cpE
 cases hc : cpEL e e.len with
 | nil => have := cpEL_len e e.len; rw [hc] at this; exact absurd this (by show ¬ 0 = e.len; omega)
 | cons a l => rfl
theorem cpE_nil {e : D} (h : e.len = 0) : cpE e = .nil := by unfold cpE; rw [h]; rfl
theorem cpS_list {e : D} (h : 0 < e.len) : D.list (List.take e.len (cpSL e e.len)) = cpS e := by
 rw [List.take_of_length_le (by rw [cpSL_len]; exact Nat.le_refl _)]
 unfold cpS
 cases hc : cpSL e e.len with
 | nil => have := cpSL_len e e.len; rw [hc] at this; exact absurd this (by show ¬ 0 = e.len; omega)
 | cons a l => rfl
theorem cpS_nil {e : D} (h : e.len = 0) : cpS e = .nil := by unfold cpS; rw [h]; rfl
theorem vc21 : ∀ (s : D), symFun (ctx cc0 emAnn) 4 (7 : FuncId) [V.dat (22 : TypeId) s] (V.dat (22 : TypeId) (cpS s)) = (((∃ (x : Nat), x = 0 ∧ ((0 : Int) = 0 ∧ True ∧ True) ∧ True) ∨ ∃ (x : Nat), (0 < x ∧ x ≤ s.len) ∧
(0 = (x : Int) ∧ False ∧ True) ∧ False ∧ True) ∧ (∀ (x : Nat), x = 0 → s.len - x < LIM ∧ (0 < (s.len : Int) → (0 : Int) ≤ 0 ∧ 0 < (s.len : Int) ∧ ((∃ (x : Nat), x = 0 ∧ ((0 : Int) = 0 ∧ True ∧ True) ∧ True) ∨ ∃ (x :
Nat), (0 < x ∧ x ≤ (el s 0).len) ∧ (0 = (x : Int) ∧ False ∧ True) ∧ False ∧ True) ∧ (∀ (x_1 : Nat), x_1 = 0 → (el s 0).len - x_1 < LIM ∧ (0 < (↑(el s 0).len : Int) → (0 : Int) ≤ 0 ∧ 0 < (↑(el s 0).len : Int) ∧ ((el (el s
0) 0).isNil → 0 + 1 ≤ [D.int (-9)].length ∧ (1 : Nat) ≤ 16777216 ∧ (0 : Int) ≤ 0 ∧ 0 ≤ (↑(el (el s 0) 0).len : Int) ∧ ((↑(1 : Nat) : Int) - (↑(el (el s 0) 0).len : Int)).NonNeg ∧ 0 + 0 + (el (el s 0) 0).len ≤ (List.take
1 [D.int (-9)]).length ∧ 0 + 1 ≤ [D.list (List.take (el (el s 0) 0).len (List.drop (0 + 0) (List.take 1 [D.int (-9)])))].length ∧ (1 : Nat) ≤ 16777216 ∧ fits64 (0 + 1) ∧ ((∃ (y : Nat), y = 0 ∧ (el s 0).len - y < (el s
0).len - x_1 ∧ ((0 : Int) + 1 = 0 ∧ False ∧ True) ∧ True) ∨ ∃ (y : Nat), (0 < y ∧ y ≤ (el s 0).len) ∧ (el s 0).len - y < (el s 0).len - x_1 ∧ (0 + 1 = (y : Int) ∧ ((0 : Nat) = 0 ∧ 1 = y ∧ True) ∧ True) ∧ List.take 1
[D.list (List.take (el (el s 0) 0).len (List.drop (0 + 0) (List.take 1 [D.int (-9)])))] = cpEL (el s 0) y ∧ True)) ∧ (((el (el s 0) 0).isNil → False) → ((el (el s 0) 0).len = 0 → 0 + 1 ≤ [D.int (-9)].length ∧ 0 + 0 ≤ ([]
: List D).length ∧ (0 : Nat) + 1 ≤ 16777216 ∧ (0 : Int) ≤ 0 ∧ 0 ≤ (↑(el (el s 0) 0).len : Int) ∧ ((↑(0 + 1) : Int) - (↑(el (el s 0) 0).len : Int)).NonNeg ∧ 0 + 0 + (el (el s 0) 0).len ≤ (List.take 0 ([] : List D) ++
List.take 1 [D.int (-9)]).length ∧ 0 + 1 ≤ [D.list (List.take (el (el s 0) 0).len (List.drop (0 + 0) (List.take 0 ([] : List D) ++ List.take 1 [D.int (-9)])))].length ∧ (1 : Nat) ≤ 16777216 ∧ fits64 (0 + 1) ∧ ((∃ (y :
Nat), y = 0 ∧ (el s 0).len - y < (el s 0).len - x_1 ∧ ((0 : Int) + 1 = 0 ∧ False ∧ True) ∧ True) ∨ ∃ (y : Nat), (0 < y ∧ y ≤ (el s 0).len) ∧ (el s 0).len - y < (el s 0).len - x_1 ∧ (0 + 1 = (y : Int) ∧ ((0 : Nat) = 0 ∧ 1
= y ∧ True) ∧ True) ∧ List.take 1 [D.list (List.take (el (el s 0) 0).len (List.drop (0 + 0) (List.take 0 ([] : List D) ++ List.take 1 [D.int (-9)])))] = cpEL (el s 0) y ∧ True)) ∧ (0 < (el (el s 0) 0).len → 0 + 0 ≤ ([] :
List D).length ∧ 0 + (el (el s 0) 0).len ≤ 16777216 ∧ (0 + (el (el s 0) 0).len ≤ 0 → 0 + 0 + (el (el s 0) 0).len ≤ ([] : List D).length ∧ 0 + 1 ≤ [D.int (-9)].length ∧ 0 + (el (el s 0) 0).len ≤ (List.take (0 + 0) ([] :
List D) ++ (el (el s 0) 0).asList ++ List.drop (0 + 0 + (el (el s 0) 0).len) []).length ∧ (el (el s 0) 0).len + 1 ≤ 16777216 ∧ ((el (el s 0) 0).len + 1 ≤ 0 → 0 + (el (el s 0) 0).len + 1 ≤ (List.take (0 + 0) ([] : List D)
++ (el (el s 0) 0).asList ++ List.drop (0 + 0 + (el (el s 0) 0).len) []).length ∧ (0 : Int) ≤ 0 ∧ 0 ≤ (↑(el (el s 0) 0).len : Int) ∧ ((↑(0 : Nat) : Int) - (↑(el (el s 0) 0).len : Int)).NonNeg ∧ 0 + 0 + (el (el s 0)
0).len ≤ (List.take (0 + (el (el s 0) 0).len) (List.take (0 + 0) ([] : List D) ++ (el (el s 0) 0).asList ++ List.drop (0 + 0 + (el (el s 0) 0).len) []) ++ List.take 1 [D.int (-9)] ++ List.drop (0 + (el (el s 0) 0).len +
1) (List.take (0 + 0) ([] : List D) ++ (el (el s 0) 0).asList ++ List.drop (0 + 0 + (el (el s 0) 0).len) [])).length ∧ 0 + 1 ≤ [D.list (List.take (el (el s 0) 0).len (List.drop (0 + 0) (List.take (0 + (el (el s 0)
0).len) (List.take (0 + 0) ([] : List D) ++ (el (el s 0) 0).asList ++ List.drop (0 + 0 + (el (el s 0) 0).len) []) ++ List.take 1 [D.int (-9)] ++ List.drop (0 + (el (el s 0) 0).len + 1) (List.take (0 + 0) ([] : List D) ++
(el (el s 0) 0).asList ++ List.drop (0 + 0 + (el (el s 0) 0).len) []))))].length ∧ (1 : Nat) ≤ 16777216 ∧ fits64 (0 + 1) ∧ ((∃ (y : Nat), y = 0 ∧ (el s 0).len - y < (el s 0).len - x_1 ∧ ((0 : Int) + 1 = 0 ∧ False ∧ True)
∧ True) ∨ ∃ (y : Nat), (0 < y ∧ y ≤ (el s 0).len) ∧ (el s 0).len - y < (el s 0).len - x_1 ∧ (0 + 1 = (y : Int) ∧ ((0 : Nat) = 0 ∧ 1 = y ∧ True) ∧ True) ∧ List.take 1 [D.list (List.take (el (el s 0) 0).len (List.drop (0 +
0) (List.take (0 + (el (el s 0) 0).len) (List.take (0 + 0) ([] : List D) ++ (el (el s 0) 0).asList ++ List.drop (0 + 0 + (el (el s 0) 0).len) []) ++ List.take 1 [D.int (-9)] ++ List.drop (0 + (el (el s 0) 0).len + 1)
(List.take (0 + 0) ([] : List D) ++ (el (el s 0) 0).asList ++ List.drop (0 + 0 + (el (el s 0) 0).len) []))))] = cpEL (el s 0) y ∧ True)) ∧ (0 < (el (el s 0) 0).len + 1 → (0 : Int) ≤ 0 ∧ 0 ≤ (↑(el (el s 0) 0).len : Int) ∧
((↑((el (el s 0) 0).len + 1) : Int) - (↑(el (el s 0) 0).len : Int)).NonNeg ∧ 0 + 0 + (el (el s 0) 0).len ≤ (List.take (el (el s 0) 0).len (List.take (0 + 0) ([] : List D) ++ (el (el s 0) 0).asList ++ List.drop (0 + 0 +
(el (el s 0) 0).len) []) ++ List.take 1 [D.int (-9)]).length ∧ 0 + 1 ≤ [D.list (List.take (el (el s 0) 0).len (List.drop (0 + 0) (List.take (el (el s 0) 0).len (List.take (0 + 0) ([] : List D) ++ (el (el s 0) 0).asList
++ List.drop (0 + 0 + (el (el s 0) 0).len) []) ++ List.take 1 [D.int (-9)])))].length ∧ (1 : Nat) ≤ 16777216 ∧ fits64 (0 + 1) ∧ ((∃ (y : Nat), y = 0 ∧ (el s 0).len - y < (el s 0).len - x_1 ∧ ((0 : Int) + 1 = 0 ∧ False ∧
True) ∧ True) ∨ ∃ (y : Nat), (0 < y ∧ y ≤ (el s 0).len) ∧ (el s 0).len - y < (el s 0).len - x_1 ∧ (0 + 1 = (y : Int) ∧ ((0 : Nat) = 0 ∧ 1 = y ∧ True) ∧ True) ∧ List.take 1 [D.list (List.take (el (el s 0) 0).len
(List.drop (0 + 0) (List.take (el (el s 0) 0).len (List.take (0 + 0) ([] : List D) ++ (el (el s 0) 0).asList ++ List.drop (0 + 0 + (el (el s 0) 0).len) []) ++ List.take 1 [D.int (-9)])))] = cpEL (el s 0) y ∧ True))) ∧ (0
< 0 + (el (el s 0) 0).len → 0 + 1 ≤ [D.int (-9)].length ∧ 0 + (el (el s 0) 0).len ≤ (List.take 0 ([] : List D) ++ (el (el s 0) 0).asList).length ∧ (el (el s 0) 0).len + 1 ≤ 16777216 ∧ (0 : Int) ≤ 0 ∧ 0 ≤ (↑(el (el s 0)
0).len : Int) ∧ ((↑((el (el s 0) 0).len + 1) : Int) - (↑(el (el s 0) 0).len : Int)).NonNeg ∧ 0 + 0 + (el (el s 0) 0).len ≤ (List.take (el (el s 0) 0).len (List.take 0 ([] : List D) ++ (el (el s 0) 0).asList) ++ List.take
1 [D.int (-9)]).length ∧ 0 + 1 ≤ [D.list (List.take (el (el s 0) 0).len (List.drop (0 + 0) (List.take (el (el s 0) 0).len (List.take 0 ([] : List D) ++ (el (el s 0) 0).asList) ++ List.take 1 [D.int (-9)])))].length ∧ (1
: Nat) ≤ 16777216 ∧ fits64 (0 + 1) ∧ ((∃ (y : Nat), y = 0 ∧ (el s 0).len - y < (el s 0).len - x_1 ∧ ((0 : Int) + 1 = 0 ∧ False ∧ True) ∧ True) ∨ ∃ (y : Nat), (0 < y ∧ y ≤ (el s 0).len) ∧ (el s 0).len - y < (el s 0).len -
x_1 ∧ (0 + 1 = (y : Int) ∧ ((0 : Nat) = 0 ∧ 1 = y ∧ True) ∧ True) ∧ List.take 1 [D.list (List.take (el (el s 0) 0).len (List.drop (0 + 0) (List.take (el (el s 0) 0).len (List.take 0 ([] : List D) ++ (el (el s 0)
0).asList) ++ List.take 1 [D.int (-9)])))] = cpEL (el s 0) y ∧ True))))) ∧ ((0 < (↑(el s 0).len : Int) → False) → 0 + 1 ≤ [D.nil].length ∧ (1 : Nat) ≤ 16777216 ∧ fits64 (0 + 1) ∧ ((∃ (y : Nat), y = 0 ∧ s.len - y < s.len
- x ∧ ((0 : Int) + 1 = 0 ∧ False ∧ True) ∧ True) ∨ ∃ (y : Nat), (0 < y ∧ y ≤ s.len) ∧ s.len - y < s.len - x ∧ (0 + 1 = (y : Int) ∧ ((0 : Nat) = 0 ∧ 1 = y ∧ True) ∧ True) ∧ List.take 1 [D.nil] = cpSL s y ∧ True))) ∧ ∀
(x_1 : Nat), 0 < x_1 ∧ x_1 ≤ (el s 0).len → (el s 0).len - x_1 < LIM ∧ ((x_1 : Int) < (↑(el s 0).len : Int) → 0 ≤ (x_1 : Int) ∧ (x_1 : Int) < (↑(el s 0).len : Int) ∧ ((el (el s 0) x_1).isNil → 0 + 1 ≤ [D.int (-9)].length
∧ (1 : Nat) ≤ 16777216 ∧ (0 : Int) ≤ 0 ∧ 0 ≤ (↑(el (el s 0) x_1).len : Int) ∧ ((↑(1 : Nat) : Int) - (↑(el (el s 0) x_1).len : Int)).NonNeg ∧ 0 + 0 + (el (el s 0) x_1).len ≤ (List.take 1 [D.int (-9)]).length ∧ 0 + 1 ≤
[D.list (List.take (el (el s 0) x_1).len (List.drop (0 + 0) (List.take 1 [D.int (-9)])))].length ∧ 0 + x_1 ≤ (cpEL (el s 0) x_1).length ∧ x_1 + 1 ≤ 16777216 ∧ fits64 ((x_1 : Int) + 1) ∧ ((∃ (y : Nat), y = 0 ∧ (el s
0).len - y < (el s 0).len - x_1 ∧ ((x_1 : Int) + 1 = 0 ∧ False ∧ True) ∧ True) ∨ ∃ (y : Nat), (0 < y ∧ y ≤ (el s 0).len) ∧ (el s 0).len - y < (el s 0).len - x_1 ∧ ((x_1 : Int) + 1 = (y : Int) ∧ ((0 : Nat) = 0 ∧ x_1 + 1 =
y ∧ True) ∧ True) ∧ List.take x_1 (cpEL (el s 0) x_1) ++ List.take 1 [D.list (List.take (el (el s 0) x_1).len (List.drop (0 + 0) (List.take 1 [D.int (-9)])))] = cpEL (el s 0) y ∧ True)) ∧ (((el (el s 0) x_1).isNil →
False) → ((el (el s 0) x_1).len = 0 → 0 + 1 ≤ [D.int (-9)].length ∧ 0 + 0 ≤ ([] : List D).length ∧ (0 : Nat) + 1 ≤ 16777216 ∧ (0 : Int) ≤ 0 ∧ 0 ≤ (↑(el (el s 0) x_1).len : Int) ∧ ((↑(0 + 1) : Int) - (↑(el (el s 0)
x_1).len : Int)).NonNeg ∧ 0 + 0 + (el (el s 0) x_1).len ≤ (List.take 0 ([] : List D) ++ List.take 1 [D.int (-9)]).length ∧ 0 + 1 ≤ [D.list (List.take (el (el s 0) x_1).len (List.drop (0 + 0) (List.take 0 ([] : List D) ++
List.take 1 [D.int (-9)])))].length ∧ 0 + x_1 ≤ (cpEL (el s 0) x_1).length ∧ x_1 + 1 ≤ 16777216 ∧ fits64 ((x_1 : Int) + 1) ∧ ((∃ (y : Nat), y = 0 ∧ (el s 0).len - y < (el s 0).len - x_1 ∧ ((x_1 : Int) + 1 = 0 ∧ False ∧
True) ∧ True) ∨ ∃ (y : Nat), (0 < y ∧ y ≤ (el s 0).len) ∧ (el s 0).len - y < (el s 0).len - x_1 ∧ ((x_1 : Int) + 1 = (y : Int) ∧ ((0 : Nat) = 0 ∧ x_1 + 1 = y ∧ True) ∧ True) ∧ List.take x_1 (cpEL (el s 0) x_1) ++
List.take 1 [D.list (List.take (el (el s 0) x_1).len (List.drop (0 + 0) (List.take 0 ([] : List D) ++ List.take 1 [D.int (-9)])))] = cpEL (el s 0) y ∧ True)) ∧ (0 < (el (el s 0) x_1).len → 0 + 0 ≤ ([] : List D).length ∧
0 + (el (el s 0) x_1).len ≤ 16777216 ∧ (0 + (el (el s 0) x_1).len ≤ 0 → 0 + 0 + (el (el s 0) x_1).len ≤ ([] : List D).length ∧ 0 + 1 ≤ [D.int (-9)].length ∧ 0 + (el (el s 0) x_1).len ≤ (List.take (0 + 0) ([] : List D) ++
(el (el s 0) x_1).asList ++ List.drop (0 + 0 + (el (el s 0) x_1).len) []).length ∧ (el (el s 0) x_1).len + 1 ≤ 16777216 ∧ ((el (el s 0) x_1).len + 1 ≤ 0 → 0 + (el (el s 0) x_1).len + 1 ≤ (List.take (0 + 0) ([] : List D)
++ (el (el s 0) x_1).asList ++ List.drop (0 + 0 + (el (el s 0) x_1).len) []).length ∧ (0 : Int) ≤ 0 ∧ 0 ≤ (↑(el (el s 0) x_1).len : Int) ∧ ((↑(0 : Nat) : Int) - (↑(el (el s 0) x_1).len : Int)).NonNeg ∧ 0 + 0 + (el (el s
0) x_1).len ≤ (List.take (0 + (el (el s 0) x_1).len) (List.take (0 + 0) ([] : List D) ++ (el (el s 0) x_1).asList ++ List.drop (0 + 0 + (el (el s 0) x_1).len) []) ++ List.take 1 [D.int (-9)] ++ List.drop (0 + (el (el s
0) x_1).len + 1) (List.take (0 + 0) ([] : List D) ++ (el (el s 0) x_1).asList ++ List.drop (0 + 0 + (el (el s 0) x_1).len) [])).length ∧ 0 + 1 ≤ [D.list (List.take (el (el s 0) x_1).len (List.drop (0 + 0) (List.take (0 +
(el (el s 0) x_1).len) (List.take (0 + 0) ([] : List D) ++ (el (el s 0) x_1).asList ++ List.drop (0 + 0 + (el (el s 0) x_1).len) []) ++ List.take 1 [D.int (-9)] ++ List.drop (0 + (el (el s 0) x_1).len + 1) (List.take (0
+ 0) ([] : List D) ++ (el (el s 0) x_1).asList ++ List.drop (0 + 0 + (el (el s 0) x_1).len) []))))].length ∧ 0 + x_1 ≤ (cpEL (el s 0) x_1).length ∧ x_1 + 1 ≤ 16777216 ∧ fits64 ((x_1 : Int) + 1) ∧ ((∃ (y : Nat), y = 0 ∧
(el s 0).len - y < (el s 0).len - x_1 ∧ ((x_1 : Int) + 1 = 0 ∧ False ∧ True) ∧ True) ∨ ∃ (y : Nat), (0 < y ∧ y ≤ (el s 0).len) ∧ (el s 0).len - y < (el s 0).len - x_1 ∧ ((x_1 : Int) + 1 = (y : Int) ∧ ((0 : Nat) = 0 ∧ x_1
+ 1 = y ∧ True) ∧ True) ∧ List.take x_1 (cpEL (el s 0) x_1) ++ List.take 1 [D.list (List.take (el (el s 0) x_1).len (List.drop (0 + 0) (List.take (0 + (el (el s 0) x_1).len) (List.take (0 + 0) ([] : List D) ++ (el (el s
0) x_1).asList ++ List.drop (0 + 0 + (el (el s 0) x_1).len) []) ++ List.take 1 [D.int (-9)] ++ List.drop (0 + (el (el s 0) x_1).len + 1) (List.take (0 + 0) ([] : List D) ++ (el (el s 0) x_1).asList ++ List.drop (0 + 0 +
(el (el s 0) x_1).len) []))))] = cpEL (el s 0) y ∧ True)) ∧ (0 < (el (el s 0) x_1).len + 1 → (0 : Int) ≤ 0 ∧ 0 ≤ (↑(el (el s 0) x_1).len : Int) ∧ ((↑((el (el s 0) x_1).len + 1) : Int) - (↑(el (el s 0) x_1).len :
Int)).NonNeg ∧ 0 + 0 + (el (el s 0) x_1).len ≤ (List.take (el (el s 0) x_1).len (List.take (0 + 0) ([] : List D) ++ (el (el s 0) x_1).asList ++ List.drop (0 + 0 + (el (el s 0) x_1).len) []) ++ List.take 1 [D.int
(-9)]).length ∧ 0 + 1 ≤ [D.list (List.take (el (el s 0) x_1).len (List.drop (0 + 0) (List.take (el (el s 0) x_1).len (List.take (0 + 0) ([] : List D) ++ (el (el s 0) x_1).asList ++ List.drop (0 + 0 + (el (el s 0)
x_1).len) []) ++ List.take 1 [D.int (-9)])))].length ∧ 0 + x_1 ≤ (cpEL (el s 0) x_1).length ∧ x_1 + 1 ≤ 16777216 ∧ fits64 ((x_1 : Int) + 1) ∧ ((∃ (y : Nat), y = 0 ∧ (el s 0).len - y < (el s 0).len - x_1 ∧ ((x_1 : Int) +
1 = 0 ∧ False ∧ True) ∧ True) ∨ ∃ (y : Nat), (0 < y ∧ y ≤ (el s 0).len) ∧ (el s 0).len - y < (el s 0).len - x_1 ∧ ((x_1 : Int) + 1 = (y : Int) ∧ ((0 : Nat) = 0 ∧ x_1 + 1 = y ∧ True) ∧ True) ∧ List.take x_1 (cpEL (el s 0)
x_1) ++ List.take 1 [D.list (List.take (el (el s 0) x_1).len (List.drop (0 + 0) (List.take (el (el s 0) x_1).len (List.take (0 + 0) ([] : List D) ++ (el (el s 0) x_1).asList ++ List.drop (0 + 0 + (el (el s 0) x_1).len)
[]) ++ List.take 1 [D.int (-9)])))] = cpEL (el s 0) y ∧ True))) ∧ (0 < 0 + (el (el s 0) x_1).len → 0 + 1 ≤ [D.int (-9)].length ∧ 0 + (el (el s 0) x_1).len ≤ (List.take 0 ([] : List D) ++ (el (el s 0) x_1).asList).length
∧ (el (el s 0) x_1).len + 1 ≤ 16777216 ∧ (0 : Int) ≤ 0 ∧ 0 ≤ (↑(el (el s 0) x_1).len : Int) ∧ ((↑((el (el s 0) x_1).len + 1) : Int) - (↑(el (el s 0) x_1).len : Int)).NonNeg ∧ 0 + 0 + (el (el s 0) x_1).len ≤ (List.take
(el (el s 0) x_1).len (List.take 0 ([] : List D) ++ (el (el s 0) x_1).asList) ++ List.take 1 [D.int (-9)]).length ∧ 0 + 1 ≤ [D.list (List.take (el (el s 0) x_1).len (List.drop (0 + 0) (List.take (el (el s 0) x_1).len
(List.take 0 ([] : List D) ++ (el (el s 0) x_1).asList) ++ List.take 1 [D.int (-9)])))].length ∧ 0 + x_1 ≤ (cpEL (el s 0) x_1).length ∧ x_1 + 1 ≤ 16777216 ∧ fits64 ((x_1 : Int) + 1) ∧ ((∃ (y : Nat), y = 0 ∧ (el s 0).len
- y < (el s 0).len - x_1 ∧ ((x_1 : Int) + 1 = 0 ∧ False ∧ True) ∧ True) ∨ ∃ (y : Nat), (0 < y ∧ y ≤ (el s 0).len) ∧ (el s 0).len - y < (el s 0).len - x_1 ∧ ((x_1 : Int) + 1 = (y : Int) ∧ ((0 : Nat) = 0 ∧ x_1 + 1 = y ∧
True) ∧ True) ∧ List.take x_1 (cpEL (el s 0) x_1) ++ List.take 1 [D.list (List.take (el (el s 0) x_1).len (List.drop (0 + 0) (List.take (el (el s 0) x_1).len (List.take 0 ([] : List D) ++ (el (el s 0) x_1).asList) ++
List.take 1 [D.int (-9)])))] = cpEL (el s 0) y ∧ True))))) ∧ (((x_1 : Int) < (↑(el s 0).len : Int) → False) → 0 + x_1 ≤ (cpEL (el s 0) x_1).length ∧ 0 + 1 ≤ [D.list (List.take x_1 (cpEL (el s 0) x_1))].length ∧ (1 : Nat)
≤ 16777216 ∧ fits64 (0 + 1) ∧ ((∃ (y : Nat), y = 0 ∧ s.len - y < s.len - x ∧ ((0 : Int) + 1 = 0 ∧ False ∧ True) ∧ True) ∨ ∃ (y : Nat), (0 < y ∧ y ≤ s.len) ∧ s.len - y < s.len - x ∧ (0 + 1 = (y : Int) ∧ ((0 : Nat) = 0 ∧ 1
= y ∧ True) ∧ True) ∧ List.take 1 [D.list (List.take x_1 (cpEL (el s 0) x_1))] = cpSL s y ∧ True))) ∧ ((0 < (s.len : Int) → False) → D.nil = cpS s)) ∧ ∀ (x : Nat), 0 < x ∧ x ≤ s.len → s.len - x < LIM ∧ ((x : Int) <
(s.len : Int) → 0 ≤ (x : Int) ∧ (x : Int) < (s.len : Int) ∧ ((∃ (x : Nat), x = 0 ∧ ((0 : Int) = 0 ∧ True ∧ True) ∧ True) ∨ ∃ (x_1 : Nat), (0 < x_1 ∧ x_1 ≤ (el s x).len) ∧ (0 = (x_1 : Int) ∧ False ∧ True) ∧ False ∧ True)
∧ (∀ (x_1 : Nat), x_1 = 0 → (el s x).len - x_1 < LIM ∧ (0 < (↑(el s x).len : Int) → (0 : Int) ≤ 0 ∧ 0 < (↑(el s x).len : Int) ∧ ((el (el s x) 0).isNil → 0 + 1 ≤ [D.int (-9)].length ∧ (1 : Nat) ≤ 16777216 ∧ (0 : Int) ≤ 0
∧ 0 ≤ (↑(el (el s x) 0).len : Int) ∧ ((↑(1 : Nat) : Int) - (↑(el (el s x) 0).len : Int)).NonNeg ∧ 0 + 0 + (el (el s x) 0).len ≤ (List.take 1 [D.int (-9)]).length ∧ 0 + 1 ≤ [D.list (List.take (el (el s x) 0).len
(List.drop (0 + 0) (List.take 1 [D.int (-9)])))].length ∧ (1 : Nat) ≤ 16777216 ∧ fits64 (0 + 1) ∧ ((∃ (y : Nat), y = 0 ∧ (el s x).len - y < (el s x).len - x_1 ∧ ((0 : Int) + 1 = 0 ∧ False ∧ True) ∧ True) ∨ ∃ (y : Nat),
(0 < y ∧ y ≤ (el s x).len) ∧ (el s x).len - y < (el s x).len - x_1 ∧ (0 + 1 = (y : Int) ∧ ((0 : Nat) = 0 ∧ 1 = y ∧ True) ∧ True) ∧ List.take 1 [D.list (List.take (el (el s x) 0).len (List.drop (0 + 0) (List.take 1 [D.int
(-9)])))] = cpEL (el s x) y ∧ True)) ∧ (((el (el s x) 0).isNil → False) → ((el (el s x) 0).len = 0 → 0 + 1 ≤ [D.int (-9)].length ∧ 0 + 0 ≤ ([] : List D).length ∧ (0 : Nat) + 1 ≤ 16777216 ∧ (0 : Int) ≤ 0 ∧ 0 ≤ (↑(el (el s
x) 0).len : Int) ∧ ((↑(0 + 1) : Int) - (↑(el (el s x) 0).len : Int)).NonNeg ∧ 0 + 0 + (el (el s x) 0).len ≤ (List.take 0 ([] : List D) ++ List.take 1 [D.int (-9)]).length ∧ 0 + 1 ≤ [D.list (List.take (el (el s x) 0).len
(List.drop (0 + 0) (List.take 0 ([] : List D) ++ List.take 1 [D.int (-9)])))].length ∧ (1 : Nat) ≤ 16777216 ∧ fits64 (0 + 1) ∧ ((∃ (y : Nat), y = 0 ∧ (el s x).len - y < (el s x).len - x_1 ∧ ((0 : Int) + 1 = 0 ∧ False ∧
True) ∧ True) ∨ ∃ (y : Nat), (0 < y ∧ y ≤ (el s x).len) ∧ (el s x).len - y < (el s x).len - x_1 ∧ (0 + 1 = (y : Int) ∧ ((0 : Nat) = 0 ∧ 1 = y ∧ True) ∧ True) ∧ List.take 1 [D.list (List.take (el (el s x) 0).len
(List.drop (0 + 0) (List.take 0 ([] : List D) ++ List.take 1 [D.int (-9)])))] = cpEL (el s x) y ∧ True)) ∧ (0 < (el (el s x) 0).len → 0 + 0 ≤ ([] : List D).length ∧ 0 + (el (el s x) 0).len ≤ 16777216 ∧ (0 + (el (el s x)
0).len ≤ 0 → 0 + 0 + (el (el s x) 0).len ≤ ([] : List D).length ∧ 0 + 1 ≤ [D.int (-9)].length ∧ 0 + (el (el s x) 0).len ≤ (List.take (0 + 0) ([] : List D) ++ (el (el s x) 0).asList ++ List.drop (0 + 0 + (el (el s x)
0).len) []).length ∧ (el (el s x) 0).len + 1 ≤ 16777216 ∧ ((el (el s x) 0).len + 1 ≤ 0 → 0 + (el (el s x) 0).len + 1 ≤ (List.take (0 + 0) ([] : List D) ++ (el (el s x) 0).asList ++ List.drop (0 + 0 + (el (el s x) 0).len)
[]).length ∧ (0 : Int) ≤ 0 ∧ 0 ≤ (↑(el (el s x) 0).len : Int) ∧ ((↑(0 : Nat) : Int) - (↑(el (el s x) 0).len : Int)).NonNeg ∧ 0 + 0 + (el (el s x) 0).len ≤ (List.take (0 + (el (el s x) 0).len) (List.take (0 + 0) ([] :
List D) ++ (el (el s x) 0).asList ++ List.drop (0 + 0 + (el (el s x) 0).len) []) ++ List.take 1 [D.int (-9)] ++ List.drop (0 + (el (el s x) 0).len + 1) (List.take (0 + 0) ([] : List D) ++ (el (el s x) 0).asList ++
List.drop (0 + 0 + (el (el s x) 0).len) [])).length ∧ 0 + 1 ≤ [D.list (List.take (el (el s x) 0).len (List.drop (0 + 0) (List.take (0 + (el (el s x) 0).len) (List.take (0 + 0) ([] : List D) ++ (el (el s x) 0).asList ++
List.drop (0 + 0 + (el (el s x) 0).len) []) ++ List.take 1 [D.int (-9)] ++ List.drop (0 + (el (el s x) 0).len + 1) (List.take (0 + 0) ([] : List D) ++ (el (el s x) 0).asList ++ List.drop (0 + 0 + (el (el s x) 0).len)
[]))))].length ∧ (1 : Nat) ≤ 16777216 ∧ fits64 (0 + 1) ∧ ((∃ (y : Nat), y = 0 ∧ (el s x).len - y < (el s x).len - x_1 ∧ ((0 : Int) + 1 = 0 ∧ False ∧ True) ∧ True) ∨ ∃ (y : Nat), (0 < y ∧ y ≤ (el s x).len) ∧ (el s x).len
- y < (el s x).len - x_1 ∧ (0 + 1 = (y : Int) ∧ ((0 : Nat) = 0 ∧ 1 = y ∧ True) ∧ True) ∧ List.take 1 [D.list (List.take (el (el s x) 0).len (List.drop (0 + 0) (List.take (0 + (el (el s x) 0).len) (List.take (0 + 0) ([] :
List D) ++ (el (el s x) 0).asList ++ List.drop (0 + 0 + (el (el s x) 0).len) []) ++ List.take 1 [D.int (-9)] ++ List.drop (0 + (el (el s x) 0).len + 1) (List.take (0 + 0) ([] : List D) ++ (el (el s x) 0).asList ++
List.drop (0 + 0 + (el (el s x) 0).len) []))))] = cpEL (el s x) y ∧ True)) ∧ (0 < (el (el s x) 0).len + 1 → (0 : Int) ≤ 0 ∧ 0 ≤ (↑(el (el s x) 0).len : Int) ∧ ((↑((el (el s x) 0).len + 1) : Int) - (↑(el (el s x) 0).len :
Int)).NonNeg ∧ 0 + 0 + (el (el s x) 0).len ≤ (List.take (el (el s x) 0).len (List.take (0 + 0) ([] : List D) ++ (el (el s x) 0).asList ++ List.drop (0 + 0 + (el (el s x) 0).len) []) ++ List.take 1 [D.int (-9)]).length ∧
0 + 1 ≤ [D.list (List.take (el (el s x) 0).len (List.drop (0 + 0) (List.take (el (el s x) 0).len (List.take (0 + 0) ([] : List D) ++ (el (el s x) 0).asList ++ List.drop (0 + 0 + (el (el s x) 0).len) []) ++ List.take 1
[D.int (-9)])))].length ∧ (1 : Nat) ≤ 16777216 ∧ fits64 (0 + 1) ∧ ((∃ (y : Nat), y = 0 ∧ (el s x).len - y < (el s x).len - x_1 ∧ ((0 : Int) + 1 = 0 ∧ False ∧ True) ∧ True) ∨ ∃ (y : Nat), (0 < y ∧ y ≤ (el s x).len) ∧ (el
s x).len - y < (el s x).len - x_1 ∧ (0 + 1 = (y : Int) ∧ ((0 : Nat) = 0 ∧ 1 = y ∧ True) ∧ True) ∧ List.take 1 [D.list (List.take (el (el s x) 0).len (List.drop (0 + 0) (List.take (el (el s x) 0).len (List.take (0 + 0)
([] : List D) ++ (el (el s x) 0).asList ++ List.drop (0 + 0 + (el (el s x) 0).len) []) ++ List.take 1 [D.int (-9)])))] = cpEL (el s x) y ∧ True))) ∧ (0 < 0 + (el (el s x) 0).len → 0 + 1 ≤ [D.int (-9)].length ∧ 0 + (el
(el s x) 0).len ≤ (List.take 0 ([] : List D) ++ (el (el s x) 0).asList).length ∧ (el (el s x) 0).len + 1 ≤ 16777216 ∧ (0 : Int) ≤ 0 ∧ 0 ≤ (↑(el (el s x) 0).len : Int) ∧ ((↑((el (el s x) 0).len + 1) : Int) - (↑(el (el s
x) 0).len : Int)).NonNeg ∧ 0 + 0 + (el (el s x) 0).len ≤ (List.take (el (el s x) 0).len (List.take 0 ([] : List D) ++ (el (el s x) 0).asList) ++ List.take 1 [D.int (-9)]).length ∧ 0 + 1 ≤ [D.list (List.take (el (el s x)
0).len (List.drop (0 + 0) (List.take (el (el s x) 0).len (List.take 0 ([] : List D) ++ (el (el s x) 0).asList) ++ List.take 1 [D.int (-9)])))].length ∧ (1 : Nat) ≤ 16777216 ∧ fits64 (0 + 1) ∧ ((∃ (y : Nat), y = 0 ∧ (el s
x).len - y < (el s x).len - x_1 ∧ ((0 : Int) + 1 = 0 ∧ False ∧ True) ∧ True) ∨ ∃ (y : Nat), (0 < y ∧ y ≤ (el s x).len) ∧ (el s x).len - y < (el s x).len - x_1 ∧ (0 + 1 = (y : Int) ∧ ((0 : Nat) = 0 ∧ 1 = y ∧ True) ∧ True)
∧ List.take 1 [D.list (List.take (el (el s x) 0).len (List.drop (0 + 0) (List.take (el (el s x) 0).len (List.take 0 ([] : List D) ++ (el (el s x) 0).asList) ++ List.take 1 [D.int (-9)])))] = cpEL (el s x) y ∧ True))))) ∧
((0 < (↑(el s x).len : Int) → False) → 0 + 1 ≤ [D.nil].length ∧ 0 + x ≤ (cpSL s x).length ∧ x + 1 ≤ 16777216 ∧ fits64 ((x : Int) + 1) ∧ ((∃ (y : Nat), y = 0 ∧ s.len - y < s.len - x ∧ ((x : Int) + 1 = 0 ∧ False ∧ True) ∧
True) ∨ ∃ (y : Nat), (0 < y ∧ y ≤ s.len) ∧ s.len - y < s.len - x ∧ ((x : Int) + 1 = (y : Int) ∧ ((0 : Nat) = 0 ∧ x + 1 = y ∧ True) ∧ True) ∧ List.take x (cpSL s x) ++ List.take 1 [D.nil] = cpSL s y ∧ True))) ∧ ∀ (x_1 :
Nat), 0 < x_1 ∧ x_1 ≤ (el s x).len → (el s x).len - x_1 < LIM ∧ ((x_1 : Int) < (↑(el s x).len : Int) → 0 ≤ (x_1 : Int) ∧ (x_1 : Int) < (↑(el s x).len : Int) ∧ ((el (el s x) x_1).isNil → 0 + 1 ≤ [D.int (-9)].length ∧ (1 :
Nat) ≤ 16777216 ∧ (0 : Int) ≤ 0 ∧ 0 ≤ (↑(el (el s x) x_1).len : Int) ∧ ((↑(1 : Nat) : Int) - (↑(el (el s x) x_1).len : Int)).NonNeg ∧ 0 + 0 + (el (el s x) x_1).len ≤ (List.take 1 [D.int (-9)]).length ∧ 0 + 1 ≤ [D.list
(List.take (el (el s x) x_1).len (List.drop (0 + 0) (List.take 1 [D.int (-9)])))].length ∧ 0 + x_1 ≤ (cpEL (el s x) x_1).length ∧ x_1 + 1 ≤ 16777216 ∧ fits64 ((x_1 : Int) + 1) ∧ ((∃ (y : Nat), y = 0 ∧ (el s x).len - y <
(el s x).len - x_1 ∧ ((x_1 : Int) + 1 = 0 ∧ False ∧ True) ∧ True) ∨ ∃ (y : Nat), (0 < y ∧ y ≤ (el s x).len) ∧ (el s x).len - y < (el s x).len - x_1 ∧ ((x_1 : Int) + 1 = (y : Int) ∧ ((0 : Nat) = 0 ∧ x_1 + 1 = y ∧ True) ∧
True) ∧ List.take x_1 (cpEL (el s x) x_1) ++ List.take 1 [D.list (List.take (el (el s x) x_1).len (List.drop (0 + 0) (List.take 1 [D.int (-9)])))] = cpEL (el s x) y ∧ True)) ∧ (((el (el s x) x_1).isNil → False) → ((el
(el s x) x_1).len = 0 → 0 + 1 ≤ [D.int (-9)].length ∧ 0 + 0 ≤ ([] : List D).length ∧ (0 : Nat) + 1 ≤ 16777216 ∧ (0 : Int) ≤ 0 ∧ 0 ≤ (↑(el (el s x) x_1).len : Int) ∧ ((↑(0 + 1) : Int) - (↑(el (el s x) x_1).len :
Int)).NonNeg ∧ 0 + 0 + (el (el s x) x_1).len ≤ (List.take 0 ([] : List D) ++ List.take 1 [D.int (-9)]).length ∧ 0 + 1 ≤ [D.list (List.take (el (el s x) x_1).len (List.drop (0 + 0) (List.take 0 ([] : List D) ++ List.take
1 [D.int (-9)])))].length ∧ 0 + x_1 ≤ (cpEL (el s x) x_1).length ∧ x_1 + 1 ≤ 16777216 ∧ fits64 ((x_1 : Int) + 1) ∧ ((∃ (y : Nat), y = 0 ∧ (el s x).len - y < (el s x).len - x_1 ∧ ((x_1 : Int) + 1 = 0 ∧ False ∧ True) ∧
True) ∨ ∃ (y : Nat), (0 < y ∧ y ≤ (el s x).len) ∧ (el s x).len - y < (el s x).len - x_1 ∧ ((x_1 : Int) + 1 = (y : Int) ∧ ((0 : Nat) = 0 ∧ x_1 + 1 = y ∧ True) ∧ True) ∧ List.take x_1 (cpEL (el s x) x_1) ++ List.take 1
[D.list (List.take (el (el s x) x_1).len (List.drop (0 + 0) (List.take 0 ([] : List D) ++ List.take 1 [D.int (-9)])))] = cpEL (el s x) y ∧ True)) ∧ (0 < (el (el s x) x_1).len → 0 + 0 ≤ ([] : List D).length ∧ 0 + (el (el
s x) x_1).len ≤ 16777216 ∧ (0 + (el (el s x) x_1).len ≤ 0 → 0 + 0 + (el (el s x) x_1).len ≤ ([] : List D).length ∧ 0 + 1 ≤ [D.int (-9)].length ∧ 0 + (el (el s x) x_1).len ≤ (List.take (0 + 0) ([] : List D) ++ (el (el s
x) x_1).asList ++ List.drop (0 + 0 + (el (el s x) x_1).len) []).length ∧ (el (el s x) x_1).len + 1 ≤ 16777216 ∧ ((el (el s x) x_1).len + 1 ≤ 0 → 0 + (el (el s x) x_1).len + 1 ≤ (List.take (0 + 0) ([] : List D) ++ (el (el
s x) x_1).asList ++ List.drop (0 + 0 + (el (el s x) x_1).len) []).length ∧ (0 : Int) ≤ 0 ∧ 0 ≤ (↑(el (el s x) x_1).len : Int) ∧ ((↑(0 : Nat) : Int) - (↑(el (el s x) x_1).len : Int)).NonNeg ∧ 0 + 0 + (el (el s x) x_1).len
≤ (List.take (0 + (el (el s x) x_1).len) (List.take (0 + 0) ([] : List D) ++ (el (el s x) x_1).asList ++ List.drop (0 + 0 + (el (el s x) x_1).len) []) ++ List.take 1 [D.int (-9)] ++ List.drop (0 + (el (el s x) x_1).len +
1) (List.take (0 + 0) ([] : List D) ++ (el (el s x) x_1).asList ++ List.drop (0 + 0 + (el (el s x) x_1).len) [])).length ∧ 0 + 1 ≤ [D.list (List.take (el (el s x) x_1).len (List.drop (0 + 0) (List.take (0 + (el (el s x)
x_1).len) (List.take (0 + 0) ([] : List D) ++ (el (el s x) x_1).asList ++ List.drop (0 + 0 + (el (el s x) x_1).len) []) ++ List.take 1 [D.int (-9)] ++ List.drop (0 + (el (el s x) x_1).len + 1) (List.take (0 + 0) ([] :
List D) ++ (el (el s x) x_1).asList ++ List.drop (0 + 0 + (el (el s x) x_1).len) []))))].length ∧ 0 + x_1 ≤ (cpEL (el s x) x_1).length ∧ x_1 + 1 ≤ 16777216 ∧ fits64 ((x_1 : Int) + 1) ∧ ((∃ (y : Nat), y = 0 ∧ (el s x).len
- y < (el s x).len - x_1 ∧ ((x_1 : Int) + 1 = 0 ∧ False ∧ True) ∧ True) ∨ ∃ (y : Nat), (0 < y ∧ y ≤ (el s x).len) ∧ (el s x).len - y < (el s x).len - x_1 ∧ ((x_1 : Int) + 1 = (y : Int) ∧ ((0 : Nat) = 0 ∧ x_1 + 1 = y ∧
True) ∧ True) ∧ List.take x_1 (cpEL (el s x) x_1) ++ List.take 1 [D.list (List.take (el (el s x) x_1).len (List.drop (0 + 0) (List.take (0 + (el (el s x) x_1).len) (List.take (0 + 0) ([] : List D) ++ (el (el s x)
x_1).asList ++ List.drop (0 + 0 + (el (el s x) x_1).len) []) ++ List.take 1 [D.int (-9)] ++ List.drop (0 + (el (el s x) x_1).len + 1) (List.take (0 + 0) ([] : List D) ++ (el (el s x) x_1).asList ++ List.drop (0 + 0 + (el
(el s x) x_1).len) []))))] = cpEL (el s x) y ∧ True)) ∧ (0 < (el (el s x) x_1).len + 1 → (0 : Int) ≤ 0 ∧ 0 ≤ (↑(el (el s x) x_1).len : Int) ∧ ((↑((el (el s x) x_1).len + 1) : Int) - (↑(el (el s x) x_1).len : Int)).NonNeg
∧ 0 + 0 + (el (el s x) x_1).len ≤ (List.take (el (el s x) x_1).len (List.take (0 + 0) ([] : List D) ++ (el (el s x) x_1).asList ++ List.drop (0 + 0 + (el (el s x) x_1).len) []) ++ List.take 1 [D.int (-9)]).length ∧ 0 + 1
≤ [D.list (List.take (el (el s x) x_1).len (List.drop (0 + 0) (List.take (el (el s x) x_1).len (List.take (0 + 0) ([] : List D) ++ (el (el s x) x_1).asList ++ List.drop (0 + 0 + (el (el s x) x_1).len) []) ++ List.take 1
[D.int (-9)])))].length ∧ 0 + x_1 ≤ (cpEL (el s x) x_1).length ∧ x_1 + 1 ≤ 16777216 ∧ fits64 ((x_1 : Int) + 1) ∧ ((∃ (y : Nat), y = 0 ∧ (el s x).len - y < (el s x).len - x_1 ∧ ((x_1 : Int) + 1 = 0 ∧ False ∧ True) ∧ True)
∨ ∃ (y : Nat), (0 < y ∧ y ≤ (el s x).len) ∧ (el s x).len - y < (el s x).len - x_1 ∧ ((x_1 : Int) + 1 = (y : Int) ∧ ((0 : Nat) = 0 ∧ x_1 + 1 = y ∧ True) ∧ True) ∧ List.take x_1 (cpEL (el s x) x_1) ++ List.take 1 [D.list
(List.take (el (el s x) x_1).len (List.drop (0 + 0) (List.take (el (el s x) x_1).len (List.take (0 + 0) ([] : List D) ++ (el (el s x) x_1).asList ++ List.drop (0 + 0 + (el (el s x) x_1).len) []) ++ List.take 1 [D.int
(-9)])))] = cpEL (el s x) y ∧ True))) ∧ (0 < 0 + (el (el s x) x_1).len → 0 + 1 ≤ [D.int (-9)].length ∧ 0 + (el (el s x) x_1).len ≤ (List.take 0 ([] : List D) ++ (el (el s x) x_1).asList).length ∧ (el (el s x) x_1).len +
1 ≤ 16777216 ∧ (0 : Int) ≤ 0 ∧ 0 ≤ (↑(el (el s x) x_1).len : Int) ∧ ((↑((el (el s x) x_1).len + 1) : Int) - (↑(el (el s x) x_1).len : Int)).NonNeg ∧ 0 + 0 + (el (el s x) x_1).len ≤ (List.take (el (el s x) x_1).len
(List.take 0 ([] : List D) ++ (el (el s x) x_1).asList) ++ List.take 1 [D.int (-9)]).length ∧ 0 + 1 ≤ [D.list (List.take (el (el s x) x_1).len (List.drop (0 + 0) (List.take (el (el s x) x_1).len (List.take 0 ([] : List
D) ++ (el (el s x) x_1).asList) ++ List.take 1 [D.int (-9)])))].length ∧ 0 + x_1 ≤ (cpEL (el s x) x_1).length ∧ x_1 + 1 ≤ 16777216 ∧ fits64 ((x_1 : Int) + 1) ∧ ((∃ (y : Nat), y = 0 ∧ (el s x).len - y < (el s x).len - x_1
∧ ((x_1 : Int) + 1 = 0 ∧ False ∧ True) ∧ True) ∨ ∃ (y : Nat), (0 < y ∧ y ≤ (el s x).len) ∧ (el s x).len - y < (el s x).len - x_1 ∧ ((x_1 : Int) + 1 = (y : Int) ∧ ((0 : Nat) = 0 ∧ x_1 + 1 = y ∧ True) ∧ True) ∧ List.take
x_1 (cpEL (el s x) x_1) ++ List.take 1 [D.list (List.take (el (el s x) x_1).len (List.drop (0 + 0) (List.take (el (el s x) x_1).len (List.take 0 ([] : List D) ++ (el (el s x) x_1).asList) ++ List.take 1 [D.int (-9)])))]
= cpEL (el s x) y ∧ True))))) ∧ (((x_1 : Int) < (↑(el s x).len : Int) → False) → 0 + x_1 ≤ (cpEL (el s x) x_1).length ∧ 0 + 1 ≤ [D.list (List.take x_1 (cpEL (el s x) x_1))].length ∧ 0 + x ≤ (cpSL s x).length ∧ x + 1 ≤
16777216 ∧ fits64 ((x : Int) + 1) ∧ ((∃ (y : Nat), y = 0 ∧ s.len - y < s.len - x ∧ ((x : Int) + 1 = 0 ∧ False ∧ True) ∧ True) ∨ ∃ (y : Nat), (0 < y ∧ y ≤ s.len) ∧ s.len - y < s.len - x ∧ ((x : Int) + 1 = (y : Int) ∧ ((0
: Nat) = 0 ∧ x + 1 = y ∧ True) ∧ True) ∧ List.take x (cpSL s x) ++ List.take 1 [D.list (List.take x_1 (cpEL (el s x) x_1))] = cpSL s y ∧ True))) ∧ (((x : Int) < (s.len : Int) → False) → 0 + x ≤ (cpSL s x).length ∧ D.list
(List.take x (cpSL s x)) = cpS s)) := by intros; kernel_rfl
theorem s21 (s : D) (hs : bigP s) : symFun (ctx cc0 emAnn) 4 7 [.dat 22 s] (.dat 22 (cpS s)) := by
 rw [vc21]
 have hl := hs.out.1
 have he := hs.out.2
 have t0 : ∀ i, i < s.len → (el s i).len ≤ 100 := fun i hi => (he i hi).out.1
 have t1 : ∀ i j, i < s.len → j < (el s i).len → (el (el s i) j).len ≤ 1000 := fun i j hi hj => (he i hi).out.2 j hj
 have sc : ∀ {x : Nat}, x < s.len → 0 < (el s x).len → True := fun _ _ => trivial
 refine ⟨Or.inl ⟨0, rfl, ⟨rfl, trivial, trivial⟩, trivial⟩, fun x hx => ⟨lim_of (by omega), fun hlt => ?_, fun hge => ?_⟩, fun x hx => ⟨lim_of (by omega), fun hlt => ?_, fun hge => ?_⟩⟩
 ·have k0 := t0 0 (by omega)
  refine ⟨by omega, by omega, Or.inl ⟨0, rfl, ⟨rfl, trivial, trivial⟩, trivial⟩, fun y hy => ⟨lim_of (by omega), fun hlt2 => ?_, fun hge => ?_⟩, fun y hy => ⟨lim_of (by omega), fun hlt2 => ?_, fun hge => ?_⟩⟩
  ·have k1 := t1 0 0 (by omega) (by omega)
   have e1 := @cp_e1 (el (el s 0) 0)
   have la : (el (el s 0) 0).asList.length = (el (el s 0) 0).len := rfl
   have e2 := cp_e2 (el (el s 0) 0) (.int (-9))
   repeat' (first | apply And.intro | intro _)
   all_goals first | exact trivial | exact Nat.le_refl _ | omega | exact nn_of (by omega) | (exfalso; omega) | (simp only [List.length_append, List.length_take, List.length_drop, List.length_cons, List.length_nil, la]; omega) | (rename_i hnil; have := isNil_len0 hnil; first | omega | exact nn_of (by omega) | (simp only [List.length_append, List.length_take, List.length_drop, List.length_cons, List.length_nil, la]; omega) | (exact Or.inr ⟨1, ⟨by omega, by omega⟩, by omega, ⟨by omega, ⟨rfl, rfl, trivial⟩, trivial⟩, (by rw [e1 (by omega)]; rfl), trivial⟩)) | (exact Or.inr ⟨1, ⟨by omega, by omega⟩, by omega, ⟨by omega, ⟨rfl, rfl, trivial⟩, trivial⟩, (by rw [e1 (by omega)]; rfl), trivial⟩) | (exact Or.inr ⟨1, ⟨by omega, by omega⟩, by omega, ⟨by omega, ⟨rfl, rfl, trivial⟩, trivial⟩, (by rw [e2]; rfl), trivial⟩) | fail
  ·have hge := not_of hge
   refine ⟨Nat.le_refl _, by omega, ⟨by omega, by omega⟩, Or.inr ⟨1, ⟨by omega, by omega⟩, by omega, ⟨by omega, ⟨rfl, rfl, trivial⟩, trivial⟩, ?_, trivial⟩⟩
   show [D.nil] = [cpE (el s 0)]
   rw [cpE_nil (by omega)]
  ·have k1 := t1 0 y (by omega) (by omega)
   have e1 := @cp_e1 (el (el s 0) y)
   have la : (el (el s 0) y).asList.length = (el (el s 0) y).len := rfl
   have e2 := cp_e2 (el (el s 0) y) (.int (-9))
   have cl := cpEL_len (el s 0) y
   repeat' (first | apply And.intro | intro _)
   all_goals first | exact trivial | exact Nat.le_refl _ | omega | exact nn_of (by omega) | (exfalso; omega) | (simp only [List.length_append, List.length_take, List.length_drop, List.length_cons, List.length_nil, la]; omega) | (rename_i hnil; have := isNil_len0 hnil; first | omega | exact nn_of (by omega) | (simp only [List.length_append, List.length_take, List.length_drop, List.length_cons, List.length_nil, la]; omega) | (exact Or.inr ⟨y + 1, ⟨by omega, by omega⟩, by omega, ⟨by omega, ⟨rfl, rfl, trivial⟩, trivial⟩, (by rw [e1 (by omega)]; exact cpEL_succ _ _), trivial⟩)) | (exact Or.inr ⟨y + 1, ⟨by omega, by omega⟩, by omega, ⟨by omega, ⟨rfl, rfl, trivial⟩, trivial⟩, (by rw [e1 (by omega)]; exact cpEL_succ _ _), trivial⟩) | (exact Or.inr ⟨y + 1, ⟨by omega, by omega⟩, by omega, ⟨by omega, ⟨rfl, rfl, trivial⟩, trivial⟩, (by rw [e2]; exact cpEL_succ _ _), trivial⟩) | fail
  ·have hge := not_of hge
   have hy' : y = (el s 0).len := by omega
   subst hy'
   have cl := cpEL_len (el s 0) (el s 0).len
   refine ⟨by omega, Nat.le_refl _, by omega, ⟨by omega, by omega⟩, Or.inr ⟨1, ⟨by omega, by omega⟩, by omega, ⟨by omega, ⟨rfl, rfl, trivial⟩, trivial⟩, ?_, trivial⟩⟩
   show [D.list (List.take (el s 0).len (cpEL (el s 0) (el s 0).len))] = [cpE (el s 0)]
   rw [cpE_list (by omega)]
 ·have hge := not_of hge
  exact (cpS_nil (by omega)).symm
 ·have k0 := t0 x (by omega)
  have sl := cpSL_len s x
  refine ⟨by omega, by omega, Or.inl ⟨0, rfl, ⟨rfl, trivial, trivial⟩, trivial⟩, fun y hy => ⟨lim_of (by omega), fun hlt2 => ?_, fun hge => ?_⟩, fun y hy => ⟨lim_of (by omega), fun hlt2 => ?_, fun hge => ?_⟩⟩
  ·have k1 := t1 x 0 (by omega) (by omega)
   have e1 := @cp_e1 (el (el s x) 0)
   have la : (el (el s x) 0).asList.length = (el (el s x) 0).len := rfl
   have e2 := cp_e2 (el (el s x) 0) (.int (-9))
   repeat' (first | apply And.intro | intro _)
   all_goals first | exact trivial | exact Nat.le_refl _ | omega | exact nn_of (by omega) | (exfalso; omega) | (simp only [List.length_append, List.length_take, List.length_drop, List.length_cons, List.length_nil, la]; omega) | (rename_i hnil; have := isNil_len0 hnil; first | omega | exact nn_of (by omega) | (simp only [List.length_append, List.length_take, List.length_drop, List.length_cons, List.length_nil, la]; omega) | (exact Or.inr ⟨1, ⟨by omega, by omega⟩, by omega, ⟨by omega, ⟨rfl, rfl, trivial⟩, trivial⟩, (by rw [e1 (by omega)]; rfl), trivial⟩)) | (exact Or.inr ⟨1, ⟨by omega, by omega⟩, by omega, ⟨by omega, ⟨rfl, rfl, trivial⟩, trivial⟩, (by rw [e1 (by omega)]; rfl), trivial⟩) | (exact Or.inr ⟨1, ⟨by omega, by omega⟩, by omega, ⟨by omega, ⟨rfl, rfl, trivial⟩, trivial⟩, (by rw [e2]; rfl), trivial⟩) | fail
  ·have hge := not_of hge
   refine ⟨Nat.le_refl _, by omega, by omega, ⟨by omega, by omega⟩, Or.inr ⟨x + 1, ⟨by omega, by omega⟩, by omega, ⟨by omega, ⟨rfl, rfl, trivial⟩, trivial⟩, ?_, trivial⟩⟩
   show List.take x (cpSL s x) ++ [D.nil] = _
   rw [← cpSL_succ, cpE_nil (by omega)]
  ·have k1 := t1 x y (by omega) (by omega)
   have e1 := @cp_e1 (el (el s x) y)
   have la : (el (el s x) y).asList.length = (el (el s x) y).len := rfl
   have e2 := cp_e2 (el (el s x) y) (.int (-9))
   have cl := cpEL_len (el s x) y
   repeat' (first | apply And.intro | intro _)
   all_goals first | exact trivial | exact Nat.le_refl _ | omega | exact nn_of (by omega) | (exfalso; omega) | (simp only [List.length_append, List.length_take, List.length_drop, List.length_cons, List.length_nil, la]; omega) | (rename_i hnil; have := isNil_len0 hnil; first | omega | exact nn_of (by omega) | (simp only [List.length_append, List.length_take, List.length_drop, List.length_cons, List.length_nil, la]; omega) | (exact Or.inr ⟨y + 1, ⟨by omega, by omega⟩, by omega, ⟨by omega, ⟨rfl, rfl, trivial⟩, trivial⟩, (by rw [e1 (by omega)]; exact cpEL_succ _ _), trivial⟩)) | (exact Or.inr ⟨y + 1, ⟨by omega, by omega⟩, by omega, ⟨by omega, ⟨rfl, rfl, trivial⟩, trivial⟩, (by rw [e1 (by omega)]; exact cpEL_succ _ _), trivial⟩) | (exact Or.inr ⟨y + 1, ⟨by omega, by omega⟩, by omega, ⟨by omega, ⟨rfl, rfl, trivial⟩, trivial⟩, (by rw [e2]; exact cpEL_succ _ _), trivial⟩) | fail
  ·have hge := not_of hge
   have hy' : y = (el s x).len := by omega
   subst hy'
   have cl := cpEL_len (el s x) (el s x).len
   refine ⟨by omega, Nat.le_refl _, by omega, by omega, ⟨by omega, by omega⟩, Or.inr ⟨x + 1, ⟨by omega, by omega⟩, by omega, ⟨by omega, ⟨rfl, rfl, trivial⟩, trivial⟩, ?_, trivial⟩⟩
   show List.take x (cpSL s x) ++ [D.list (List.take (el s x).len (cpEL (el s x) (el s x).len))] = _
   rw [← cpSL_succ, cpE_list (by omega)]
 ·have hge := not_of hge
  have e : x = s.len := by omega
  subst e
  exact ⟨by have := cpSL_len s s.len; omega, cpS_list (by omega)⟩
theorem el_map {α : Type} (f : Nat → D) (n i : Nat) (hi : i < n) : nthD ((List.range n).map f) i = f i := by
 unfold nthD
 rw [List.getElem?_map, List.getElem?_range hi]; rfl
theorem cpE_len (e : D) : (cpE e).len = e.len := by unfold cpE; rw [listD_len, cpEL_len]
theorem cpS_len (s : D) : (cpS s).len = s.len := by unfold cpS; rw [listD_len, cpSL_len]
theorem cpE_el {e : D} {i : Nat} (hi : i < e.len) : el (cpE e) i = cpT (el e i) := by
 unfold el cpE
 rw [listD_list]
 exact el_map (α := D) (fun i => cpT (el e i)) _ _ hi
theorem cpS_el {s : D} {i : Nat} (hi : i < s.len) : el (cpS s) i = cpE (el s i) := by
 unfold el cpS
 rw [listD_list]
 exact el_map (α := D) (fun i => cpE (el s i)) _ _ hi
theorem cpE_flat (e : D) : ∀ n, n ≤ e.len → flatL (cpE e) n = flatL e n
 | 0, _ => rfl
 | n + 1, hn => by
  show flatL (cpE e) n ++ (el (cpE e) n).asList = flatL e n ++ (el e n).asList
  rw [cpE_flat e n (by omega), cpE_el (by omega)]; rfl
theorem cpE_err (n : Int) (sz e : D) : errE n sz (cpE e) = errE n sz e := by
 have h1 : emptyP (cpE e) ↔ emptyP e := ⟨fun ⟨i, hi, h⟩ => ⟨i, by rw [cpE_len] at hi; exact hi, by rw [cpE_len] at hi; rw [cpE_el hi] at h; exact h⟩, fun ⟨i, hi, h⟩ => ⟨i, by rw [cpE_len]; exact hi, by rw [cpE_el hi]; exact h⟩⟩
 have h2 : sameSz (cpE e) sz ↔ sameSz e sz := ⟨fun h => ⟨by rw [← cpE_len]; exact h.out.1, fun i hi => by have := h.out.2 i (by rw [cpE_len]; exact hi); rw [cpE_el hi] at this; exact this⟩, fun h => ⟨by rw [cpE_len]; exact h.out.1, fun i hi => by rw [cpE_len] at hi; rw [cpE_el hi]; exact h.out.2 i hi⟩⟩
 unfold errE
 rw [cpE_len, cpE_flat e e.len (Nat.le_refl _)]
 by_cases h : emptyP e ∨ (0 < sz.len ∧ ¬ sameSz e sz)
 ·rw [if_pos h, if_pos (h.imp h1.2 fun k => ⟨k.1, fun k' => k.2 (h2.1 k')⟩)]
 ·rw [if_neg h, if_neg fun h' => h (h'.imp h1.1 fun k => ⟨k.1, fun k' => k.2 (h2.2 k')⟩)]
theorem cpS_scan (n : Int) (sz s : D) : ∀ f i, i + f ≤ s.len → scanK n sz (cpS s) f i = scanK n sz s f i
 | 0, _, _ => rfl
 | f + 1, i, h => by
  unfold scanK
  rw [cpS_el (by omega), cpE_err, cpS_scan n sz s f (i + 1) (by omega)]
theorem cpS_chk (n : Int) (sz s : D) : chk n sz (cpS s) = chk n sz s := by
 unfold chk
 rw [cpS_len, cpS_scan n sz s s.len 0 (by omega)]
theorem cpS_big {s : D} (h : bigP s) : bigP (cpS s) := ⟨by rw [cpS_len]; exact h.out.1, fun i hi => by
 rw [cpS_len] at hi
 rw [cpS_el hi]
 have := (h.out.2 i hi).out
 exact ⟨by rw [cpE_len]; exact this.1, fun j hj => by rw [cpE_len] at hj; rw [cpE_el hj]; exact this.2 j hj⟩⟩
theorem cpS_same (s : D) : eqS3 (cpS s) s := ⟨cpS_len s, fun i hi => by
 rw [cpS_len] at hi
 rw [cpS_el hi]
 exact ⟨cpE_len _, fun j hj => by rw [cpE_len] at hj; rw [cpE_el hj]; exact ⟨rfl, fun _ _ => rfl⟩⟩⟩
theorem tot_at (ev : D) {j n : Nat} (h : j < n) : (el ev j).len ≤ totE ev n := by
 have := tot_mono' ev (show j + 1 ≤ n by omega)
 have e : totE ev (j + 1) = totE ev j + (el ev j).len := rfl
 omega
theorem totS_at (s : D) {i n : Nat} (h : i < n) : totE (el s i) (el s i).len ≤ totS s n := by
 have := totS_mono' s (show i + 1 ≤ n by omega)
 have e : totS s (i + 1) = totS s i + totE (el s i) (el s i).len := rfl
 omega
theorem few_big {s : D} {m : Int} (hm : m ≤ 1000) (h : fewP s m) : bigP s := ⟨by have := h.out.1; omega, fun i hi => ⟨by have := h.out.2.1 i hi; omega, fun j hj => by
 have h1 := tot_at (el s i) hj
 have h2 := totS_at s hi
 have := h.out.2.2
 omega⟩⟩
end Go.Ev
