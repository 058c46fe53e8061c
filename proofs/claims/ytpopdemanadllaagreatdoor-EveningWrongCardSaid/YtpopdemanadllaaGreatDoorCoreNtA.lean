/-
  Part of the engine that the claim is proved with: it states nothing of the document by itself.
-/
import Derived.Test.YtpopdemanadllaaGreatDoorCoreNtDefs
open Go.Proofs
namespace Go.Ev
set_option maxRecDepth 100000
set_option maxHeartbeats 4000000
theorem not_of {p : Prop} (h : p → False) : ¬ p := h
theorem lim_of {n : Nat} (h : n ≤ 100000) : n < LIM := by unfold LIM; omega
theorem vc13 : ∀ (n : Int) (l : D), symFun (ctx cc0 ebAnn) 3 (34 : FuncId) [V.int IntKind.i64 n, V.dat (25 : TypeId) l] (V.prop (fitP n l)) = ((∃ (x : Nat), (x ≤ l.len ∧ (∀ (i : Nat), i < x → 1 ≤ nAt l i) ∧ 0 ≤ sumZ l x
∧ sumZ l x ≤ n) ∧ (0 = (x : Int) ∧ n = n - sumZ l x ∧ True) ∧ True) ∧ ∀ (x : Nat), x ≤ l.len ∧ (∀ (i : Nat), i < x → 1 ≤ nAt l i) ∧ 0 ≤ sumZ l x ∧ sumZ l x ≤ n → l.len - x < LIM ∧ ((x : Int) < (l.len : Int) → 0 ≤ (x :
Int) ∧ (x : Int) < (l.len : Int) ∧ ((nAt l x < 1 → False) → (n - sumZ l x < nAt l x → (false = true ↔ fitP n l)) ∧ ((n - sumZ l x < nAt l x → False) → fits64 (n - sumZ l x - nAt l x) ∧ fits64 ((x : Int) + 1) ∧ ∃ (y :
Nat), (y ≤ l.len ∧ (∀ (i : Nat), i < y → 1 ≤ nAt l i) ∧ 0 ≤ sumZ l y ∧ sumZ l y ≤ n) ∧ l.len - y < l.len - x ∧ ((x : Int) + 1 = (y : Int) ∧ n - sumZ l x - nAt l x = n - sumZ l y ∧ True) ∧ True)) ∧ (nAt l x < 1 → (false =
true ↔ fitP n l))) ∧ (((x : Int) < (l.len : Int) → False) → (n - sumZ l x = 0 ↔ fitP n l))) := by intros; kernel_rfl
theorem sum_rest {l : D} {m : Nat} (h : ∀ i, i < m → 1 ≤ nAt l i) (x : Nat) : ∀ k, x + k ≤ m → sumZ l x + k ≤ sumZ l (x + k)
 | 0, _ => Int.le_of_eq (by simp)
 | k + 1, hk => by
  have := sum_rest h x k (by omega)
  have := h (x + k) (by omega)
  show sumZ l x + ((k + 1 : Nat) : Int) ≤ sumZ l (x + k) + nAt l (x + k)
  omega
theorem fit_le {n : Int} {l : D} (h : fitP n l) {x : Nat} (hx : x < l.len) : sumZ l x + nAt l x ≤ n := by
 have h1 := sum_rest h.out.1 (x + 1) (l.len - (x + 1)) (by omega)
 rw [show x + 1 + (l.len - (x + 1)) = l.len by omega, h.out.2] at h1
 have h2 : sumZ l (x + 1) = sumZ l x + nAt l x := rfl
 omega
theorem s13 (n : Int) (l : D) (h1 : 1 ≤ n) (h2 : n ≤ 64) (hl : l.len ≤ 16777216) : symFun (ctx cc0 ebAnn) 3 34 [.int .i64 n, .dat 25 l] (.prop (fitP n l)) := by
 rw [vc13]
 have no : ∀ {p : Prop}, ¬ p → (false = true ↔ p) := fun h => iff_of_false (fun h => (by cases h)) h
 refine And.intro ⟨0, ⟨Nat.zero_le _, fun i hi => absurd hi (Nat.not_lt_zero _), Int.le_refl _, by show (0 : Int) ≤ n; omega⟩, ⟨rfl, by show n = n - 0; omega, trivial⟩, trivial⟩ (fun x hx => ⟨by unfold LIM; omega, fun hlt => ⟨by omega, by omega, fun hs => ⟨fun hb => no fun hf => ?_, fun hb => ?_⟩, fun hs => no fun hf => ?_⟩, fun hge => ?_⟩)
 ·have := fit_le hf (x := x) (by omega); omega
 ·have hs := not_of hs; have hb := not_of hb
  have e : sumZ l (x + 1) = sumZ l x + nAt l x := rfl
  refine ⟨⟨by omega, by omega⟩, ⟨by omega, by omega⟩, x + 1, ⟨by omega, fun i hi => ?_, by omega, by omega⟩, by omega, ⟨by omega, by omega, trivial⟩, trivial⟩
  rcases Nat.lt_or_ge i x with h' | h'
  ·exact hx.2.1 i h'
  ·rw [show i = x by omega]; omega
 ·have := hf.out.1 x (by omega); omega
 ·have hge := not_of hge
  have e : x = l.len := by omega
  subst e
  exact ⟨fun h => ⟨hx.2.1, by omega⟩, fun h => by have := h.out.2; omega⟩
section
variable {n e : Int} {l : D}
end
theorem vc32 : ∀ (n : Int) (d : D), symFun (ctx cc0 (gAnn n)) 5 (36 : FuncId) [V.int IntKind.i64 n, V.dat (25 : TypeId) d] (V.int IntKind.i64 (errG n d.asList)) = ((∃ (x : Nat), (x ≤ d.len ∧ ∀ (i : Nat), i < x → 0 ≤ nAt
d i ∧ nAt d i < n) ∧ (0 = (x : Int) ∧ True) ∧ True) ∧ ∀ (x : Nat), (x ≤ d.len ∧ ∀ (i : Nat), i < x → 0 ≤ nAt d i ∧ nAt d i < n) → d.len - x < LIM ∧ ((x : Int) < (d.len : Int) → 0 ≤ (x : Int) ∧ (x : Int) < (d.len : Int) ∧
((nAt d x < 0 → False) → (n ≤ nAt d x → (0 ≤ (x : Int) → 6 = errG n d.asList) ∧ ((0 ≤ (x : Int) → False) → 0 ≤ n ∧ n ≤ n ∧ n ≤ 16777216 ∧ 1 * n.toNat ≤ 281474976710656 ∧ (∃ (x : Nat × List D), (x.fst ≤ d.len ∧
x.snd.length = n.toNat ∧ (∀ (v : Nat), (v : Int) < n → ((nthD x.snd v).asProp ↔ 0 < cntF (List.take x.fst d.asList) (v : Int))) ∧ ∀ (v : Nat), (v : Int) < n → cntF (List.take x.fst d.asList) (v : Int) ≤ 1) ∧ (0 = (x.fst
: Int) ∧ True) ∧ List.replicate n.toNat (D.bool (false = true)) = x.snd ∧ True) ∧ ∀ (x : Nat × List D), (x.fst ≤ d.len ∧ x.snd.length = n.toNat ∧ (∀ (v : Nat), (v : Int) < n → ((nthD x.snd v).asProp ↔ 0 < cntF (List.take
x.fst d.asList) (v : Int))) ∧ ∀ (v : Nat), (v : Int) < n → cntF (List.take x.fst d.asList) (v : Int) ≤ 1) → d.len - x.fst < LIM ∧ ((x.fst : Int) < (d.len : Int) → 0 ≤ (x.fst : Int) ∧ (x.fst : Int) < (d.len : Int) ∧ 0 ≤
nAt d x.fst ∧ nAt d x.fst < (n.toNat : Int) ∧ (nAt d x.fst).toNat < x.snd.length ∧ ((nthD x.snd (nAt d x.fst).toNat).asProp → 5 = errG n d.asList) ∧ (((nthD x.snd (nAt d x.fst).toNat).asProp → False) → 0 ≤ nAt d x.fst ∧
nAt d x.fst < (n.toNat : Int) ∧ (nAt d x.fst).toNat < x.snd.length ∧ fits64 ((x.fst : Int) + 1) ∧ ∃ (y : Nat × List D), (y.fst ≤ d.len ∧ y.snd.length = n.toNat ∧ (∀ (v : Nat), (v : Int) < n → ((nthD y.snd v).asProp ↔ 0 <
cntF (List.take y.fst d.asList) (v : Int))) ∧ ∀ (v : Nat), (v : Int) < n → cntF (List.take y.fst d.asList) (v : Int) ≤ 1) ∧ d.len - y.fst < d.len - x.fst ∧ ((x.fst : Int) + 1 = (y.fst : Int) ∧ True) ∧ x.snd.set (nAt d
x.fst).toNat (D.bool (true = true)) = y.snd ∧ True)) ∧ (((x.fst : Int) < (d.len : Int) → False) → ((d.len : Int) < n → 2 = errG n d.asList) ∧ (((d.len : Int) < n → False) → 0 = errG n d.asList)))) ∧ ((n ≤ nAt d x →
False) → fits64 ((x : Int) + 1) ∧ ∃ (y : Nat), (y ≤ d.len ∧ ∀ (i : Nat), i < y → 0 ≤ nAt d i ∧ nAt d i < n) ∧ d.len - y < d.len - x ∧ ((x : Int) + 1 = (y : Int) ∧ True) ∧ True)) ∧ (nAt d x < 0 → (0 ≤ (x : Int) → 6 = errG
n d.asList) ∧ ((0 ≤ (x : Int) → False) → 0 ≤ n ∧ n ≤ n ∧ n ≤ 16777216 ∧ 1 * n.toNat ≤ 281474976710656 ∧ (∃ (x : Nat × List D), (x.fst ≤ d.len ∧ x.snd.length = n.toNat ∧ (∀ (v : Nat), (v : Int) < n → ((nthD x.snd
v).asProp ↔ 0 < cntF (List.take x.fst d.asList) (v : Int))) ∧ ∀ (v : Nat), (v : Int) < n → cntF (List.take x.fst d.asList) (v : Int) ≤ 1) ∧ (0 = (x.fst : Int) ∧ True) ∧ List.replicate n.toNat (D.bool (false = true)) =
x.snd ∧ True) ∧ ∀ (x : Nat × List D), (x.fst ≤ d.len ∧ x.snd.length = n.toNat ∧ (∀ (v : Nat), (v : Int) < n → ((nthD x.snd v).asProp ↔ 0 < cntF (List.take x.fst d.asList) (v : Int))) ∧ ∀ (v : Nat), (v : Int) < n → cntF
(List.take x.fst d.asList) (v : Int) ≤ 1) → d.len - x.fst < LIM ∧ ((x.fst : Int) < (d.len : Int) → 0 ≤ (x.fst : Int) ∧ (x.fst : Int) < (d.len : Int) ∧ 0 ≤ nAt d x.fst ∧ nAt d x.fst < (n.toNat : Int) ∧ (nAt d x.fst).toNat
< x.snd.length ∧ ((nthD x.snd (nAt d x.fst).toNat).asProp → 5 = errG n d.asList) ∧ (((nthD x.snd (nAt d x.fst).toNat).asProp → False) → 0 ≤ nAt d x.fst ∧ nAt d x.fst < (n.toNat : Int) ∧ (nAt d x.fst).toNat < x.snd.length
∧ fits64 ((x.fst : Int) + 1) ∧ ∃ (y : Nat × List D), (y.fst ≤ d.len ∧ y.snd.length = n.toNat ∧ (∀ (v : Nat), (v : Int) < n → ((nthD y.snd v).asProp ↔ 0 < cntF (List.take y.fst d.asList) (v : Int))) ∧ ∀ (v : Nat), (v :
Int) < n → cntF (List.take y.fst d.asList) (v : Int) ≤ 1) ∧ d.len - y.fst < d.len - x.fst ∧ ((x.fst : Int) + 1 = (y.fst : Int) ∧ True) ∧ x.snd.set (nAt d x.fst).toNat (D.bool (true = true)) = y.snd ∧ True)) ∧ (((x.fst :
Int) < (d.len : Int) → False) → ((d.len : Int) < n → 2 = errG n d.asList) ∧ (((d.len : Int) < n → False) → 0 = errG n d.asList))))) ∧ (((x : Int) < (d.len : Int) → False) → 0 ≤ n ∧ n ≤ n ∧ n ≤ 16777216 ∧ 1 * n.toNat ≤
281474976710656 ∧ (∃ (x : Nat × List D), (x.fst ≤ d.len ∧ x.snd.length = n.toNat ∧ (∀ (v : Nat), (v : Int) < n → ((nthD x.snd v).asProp ↔ 0 < cntF (List.take x.fst d.asList) (v : Int))) ∧ ∀ (v : Nat), (v : Int) < n →
cntF (List.take x.fst d.asList) (v : Int) ≤ 1) ∧ (0 = (x.fst : Int) ∧ True) ∧ List.replicate n.toNat (D.bool (false = true)) = x.snd ∧ True) ∧ ∀ (x : Nat × List D), (x.fst ≤ d.len ∧ x.snd.length = n.toNat ∧ (∀ (v : Nat),
(v : Int) < n → ((nthD x.snd v).asProp ↔ 0 < cntF (List.take x.fst d.asList) (v : Int))) ∧ ∀ (v : Nat), (v : Int) < n → cntF (List.take x.fst d.asList) (v : Int) ≤ 1) → d.len - x.fst < LIM ∧ ((x.fst : Int) < (d.len :
Int) → 0 ≤ (x.fst : Int) ∧ (x.fst : Int) < (d.len : Int) ∧ 0 ≤ nAt d x.fst ∧ nAt d x.fst < (n.toNat : Int) ∧ (nAt d x.fst).toNat < x.snd.length ∧ ((nthD x.snd (nAt d x.fst).toNat).asProp → 5 = errG n d.asList) ∧ (((nthD
x.snd (nAt d x.fst).toNat).asProp → False) → 0 ≤ nAt d x.fst ∧ nAt d x.fst < (n.toNat : Int) ∧ (nAt d x.fst).toNat < x.snd.length ∧ fits64 ((x.fst : Int) + 1) ∧ ∃ (y : Nat × List D), (y.fst ≤ d.len ∧ y.snd.length =
n.toNat ∧ (∀ (v : Nat), (v : Int) < n → ((nthD y.snd v).asProp ↔ 0 < cntF (List.take y.fst d.asList) (v : Int))) ∧ ∀ (v : Nat), (v : Int) < n → cntF (List.take y.fst d.asList) (v : Int) ≤ 1) ∧ d.len - y.fst < d.len -
x.fst ∧ ((x.fst : Int) + 1 = (y.fst : Int) ∧ True) ∧ x.snd.set (nAt d x.fst).toNat (D.bool (true = true)) = y.snd ∧ True)) ∧ (((x.fst : Int) < (d.len : Int) → False) → ((d.len : Int) < n → 2 = errG n d.asList) ∧ (((d.len
: Int) < n → False) → 0 = errG n d.asList)))) := by intros; kernel_rfl
theorem vc14 : ∀ (n : Int) (sz ev : D), symFun (ctx ck3 ekAnn) 5 (35 : FuncId) [V.int IntKind.i64 n, V.dat (25 : TypeId) sz, V.dat (32 : TypeId) ev] (V.int IntKind.i64 (errE n sz ev)) = ((∃ (x : Nat), (x ≤ ev.len ∧ ∀ (i
: Nat), i < x → (el ev i).len = 0 → False) ∧ (0 = (x : Int) ∧ True) ∧ True) ∧ ∀ (x : Nat), (x ≤ ev.len ∧ ∀ (i : Nat), i < x → (el ev i).len = 0 → False) → ev.len - x < LIM ∧ ((x : Int) < (ev.len : Int) → 0 ≤ (x : Int) ∧
(x : Int) < (ev.len : Int) ∧ ((↑(el ev x).len : Int) = 0 → (((ev.len : Int) = (sz.len : Int) → False) → ((((0 ≤ (x : Int) → False) → False) → False) → (0 < (sz.len : Int) → 2 = errE n sz ev) ∧ ((0 < (sz.len : Int) →
False) → smE ev ∧ ((1 ≤ n ∧ n ≤ 64) ∧ (listD (flatL ev ev.len)).len ≤ 1000000) ∧ errG n (listD (flatL ev ev.len)).asList = errE n sz ev)) ∧ (((0 ≤ (x : Int) → False) → False) → 2 = errE n sz ev)) ∧ ((((ev.len : Int) =
(sz.len : Int) → False) → False) → (∃ (x : Nat), (x ≤ ev.len ∧ ∀ (i : Nat), i < x → (↑(el ev i).len : Int) = nAt sz i) ∧ (0 = (x : Int) ∧ True) ∧ True) ∧ ∀ (x_1 : Nat), (x_1 ≤ ev.len ∧ ∀ (i : Nat), i < x_1 → (↑(el ev
i).len : Int) = nAt sz i) → ev.len - x_1 < LIM ∧ ((x_1 : Int) < (ev.len : Int) → 0 ≤ (x_1 : Int) ∧ (x_1 : Int) < (ev.len : Int) ∧ 0 ≤ (x_1 : Int) ∧ (x_1 : Int) < (sz.len : Int) ∧ (((↑(el ev x_1).len : Int) = nAt sz x_1 →
False) → ((((0 ≤ (x : Int) → False) → False) → False) → (0 < (sz.len : Int) → 2 = errE n sz ev) ∧ ((0 < (sz.len : Int) → False) → smE ev ∧ ((1 ≤ n ∧ n ≤ 64) ∧ (listD (flatL ev ev.len)).len ≤ 1000000) ∧ errG n (listD
(flatL ev ev.len)).asList = errE n sz ev)) ∧ (((0 ≤ (x : Int) → False) → False) → 2 = errE n sz ev)) ∧ ((((↑(el ev x_1).len : Int) = nAt sz x_1 → False) → False) → fits64 ((x_1 : Int) + 1) ∧ ∃ (y : Nat), (y ≤ ev.len ∧ ∀
(i : Nat), i < y → (↑(el ev i).len : Int) = nAt sz i) ∧ ev.len - y < ev.len - x_1 ∧ ((x_1 : Int) + 1 = (y : Int) ∧ True) ∧ True)) ∧ (((x_1 : Int) < (ev.len : Int) → False) → ((((0 ≤ (x : Int) → False) → False) → False) →
(0 < (sz.len : Int) → smE ev ∧ ((1 ≤ n ∧ n ≤ 64) ∧ (listD (flatL ev ev.len)).len ≤ 1000000) ∧ errG n (listD (flatL ev ev.len)).asList = errE n sz ev) ∧ ((0 < (sz.len : Int) → False) → smE ev ∧ ((1 ≤ n ∧ n ≤ 64) ∧ (listD
(flatL ev ev.len)).len ≤ 1000000) ∧ errG n (listD (flatL ev ev.len)).asList = errE n sz ev)) ∧ (((0 ≤ (x : Int) → False) → False) → 2 = errE n sz ev)))) ∧ (((↑(el ev x).len : Int) = 0 → False) → fits64 ((x : Int) + 1) ∧
∃ (y : Nat), (y ≤ ev.len ∧ ∀ (i : Nat), i < y → (el ev i).len = 0 → False) ∧ ev.len - y < ev.len - x ∧ ((x : Int) + 1 = (y : Int) ∧ True) ∧ True)) ∧ (((x : Int) < (ev.len : Int) → False) → (((ev.len : Int) = (sz.len :
Int) → False) → (0 < (sz.len : Int) → 2 = errE n sz ev) ∧ ((0 < (sz.len : Int) → False) → smE ev ∧ ((1 ≤ n ∧ n ≤ 64) ∧ (listD (flatL ev ev.len)).len ≤ 1000000) ∧ errG n (listD (flatL ev ev.len)).asList = errE n sz ev)) ∧
((((ev.len : Int) = (sz.len : Int) → False) → False) → (∃ (x : Nat), (x ≤ ev.len ∧ ∀ (i : Nat), i < x → (↑(el ev i).len : Int) = nAt sz i) ∧ (0 = (x : Int) ∧ True) ∧ True) ∧ ∀ (x : Nat), (x ≤ ev.len ∧ ∀ (i : Nat), i < x
→ (↑(el ev i).len : Int) = nAt sz i) → ev.len - x < LIM ∧ ((x : Int) < (ev.len : Int) → 0 ≤ (x : Int) ∧ (x : Int) < (ev.len : Int) ∧ 0 ≤ (x : Int) ∧ (x : Int) < (sz.len : Int) ∧ (((↑(el ev x).len : Int) = nAt sz x →
False) → (0 < (sz.len : Int) → 2 = errE n sz ev) ∧ ((0 < (sz.len : Int) → False) → smE ev ∧ ((1 ≤ n ∧ n ≤ 64) ∧ (listD (flatL ev ev.len)).len ≤ 1000000) ∧ errG n (listD (flatL ev ev.len)).asList = errE n sz ev)) ∧
((((↑(el ev x).len : Int) = nAt sz x → False) → False) → fits64 ((x : Int) + 1) ∧ ∃ (y : Nat), (y ≤ ev.len ∧ ∀ (i : Nat), i < y → (↑(el ev i).len : Int) = nAt sz i) ∧ ev.len - y < ev.len - x ∧ ((x : Int) + 1 = (y : Int)
∧ True) ∧ True)) ∧ (((x : Int) < (ev.len : Int) → False) → (0 < (sz.len : Int) → smE ev ∧ ((1 ≤ n ∧ n ≤ 64) ∧ (listD (flatL ev ev.len)).len ≤ 1000000) ∧ errG n (listD (flatL ev ev.len)).asList = errE n sz ev) ∧ ((0 <
(sz.len : Int) → False) → smE ev ∧ ((1 ≤ n ∧ n ≤ 64) ∧ (listD (flatL ev ev.len)).len ≤ 1000000) ∧ errG n (listD (flatL ev ev.len)).asList = errE n sz ev))))) := by intros; kernel_rfl
theorem listD_len (l : List D) : (listD l).len = l.length := by cases l <;> rfl
theorem listD_list (l : List D) : (listD l).asList = l := by cases l <;> rfl
theorem nthD_set (l : List D) (i j : Nat) (a : D) (hi : i < l.length) : nthD (l.set i a) j = if i = j then a else nthD l j := by
 unfold nthD
 rw [List.getElem?_set]
 split
 ·rename_i h; subst h; first | rfl | (rw [if_pos hi]; rfl)
 ·rfl
theorem nthD_mem {l : List D} {i : Nat} (hi : i < l.length) : nthD l i ∈ l := by
 unfold nthD
 rw [List.getElem?_eq_getElem hi]
 exact List.getElem_mem hi
theorem mem_nthD {l : List D} {a : D} (h : a ∈ l) : ∃ i, i < l.length ∧ nthD l i = a := by
 obtain ⟨i, hi, e⟩ := List.getElem_of_mem h
 exact ⟨i, hi, by unfold nthD; rw [List.getElem?_eq_getElem hi, e]; rfl⟩
theorem take_succ_nth {l : List D} {i : Nat} (hi : i < l.length) : l.take (i + 1) = l.take i ++ [nthD l i] := by
 rw [List.take_succ_eq_append_getElem hi]
 unfold nthD
 rw [List.getElem?_eq_getElem hi]; rfl
theorem cntF_cons (a : D) (l : List D) (x : Int) : cntF (a :: l) x = cntF l x + (if a.asInt = x then 1 else 0) := rfl
theorem cntF_app (a b : List D) (x : Int) : cntF (a ++ b) x = cntF a x + cntF b x := by
 induction a with
 | nil => show cntF b x = 0 + cntF b x; omega
 | cons c a ih => rw [List.cons_append, cntF_cons, cntF_cons, ih]; omega
theorem cntF_rng (l : List D) (x : Int) : 0 ≤ cntF l x ∧ cntF l x ≤ l.length := by
 induction l with
 | nil => exact ⟨Int.le_refl _, Int.le_refl _⟩
 | cons a l ih => rw [cntF_cons, List.length_cons]; split <;> omega
theorem cntF_succ {l : List D} {i : Nat} (hi : i < l.length) (x : Int) : cntF (l.take (i + 1)) x = cntF (l.take i) x + (if (nthD l i).asInt = x then 1 else 0) := by
 rw [take_succ_nth hi, cntF_app]
 show _ = _
 rw [cntF_cons]
 show cntF (l.take i) x + (0 + _) = _
 omega
theorem cntF_take (l : List D) (i : Nat) (x : Int) : cntF (l.take i) x ≤ cntF l x := by
 have h := cntF_app (l.take i) (l.drop i) x
 rw [List.take_append_drop] at h
 have := (cntF_rng (l.drop i) x).1
 omega
def sumC (l : List D) : Nat → Int
 | 0 => 0
 | n + 1 => sumC l n + cntF l n
theorem sumC_nil : ∀ n, sumC [] n = 0
 | 0 => rfl
 | n + 1 => by show sumC [] n + 0 = 0; rw [sumC_nil n]; rfl
theorem sumC_cons (a : D) (l : List D) : ∀ n : Nat, sumC (a :: l) n = sumC l n + (if 0 ≤ a.asInt ∧ a.asInt < n then 1 else 0)
 | 0 => by
  show (0 : Int) = 0 + _
  rw [if_neg (by omega)]; rfl
 | n + 1 => by
  show sumC (a :: l) n + cntF (a :: l) n = sumC l n + cntF l n + _
  rw [sumC_cons a l n, cntF_cons]
  by_cases h1 : 0 ≤ a.asInt ∧ a.asInt < n
  ·rw [if_pos h1, if_neg (by omega), if_pos (by omega)]; omega
  ·by_cases h2 : a.asInt = n
   ·rw [if_neg h1, if_pos h2, if_pos (by omega)]; omega
   ·rw [if_neg h1, if_neg h2, if_neg (by omega)]; omega
theorem sumC_all {n : Nat} : ∀ {l : List D}, (∀ a, a ∈ l → 0 ≤ a.asInt ∧ a.asInt < n) → sumC l n = l.length
 | [], _ => sumC_nil n
 | a :: l, h => by
  rw [sumC_cons, sumC_all fun b hb => h b (List.mem_cons.2 (.inr hb)), if_pos (h a (List.mem_cons.2 (.inl rfl))), List.length_cons]; omega
theorem sumC_le {l : List D} : ∀ n : Nat, (∀ v : Nat, v < n → cntF l v ≤ 1) → sumC l n ≤ n
 | 0, _ => Int.le_refl _
 | n + 1, h => by
  have := sumC_le n fun v hv => h v (by omega)
  have := h n (by omega)
  show sumC l n + cntF l n ≤ _
  omega
theorem sumC_lt {l : List D} {v : Nat} (hv0 : cntF l v = 0) : ∀ n : Nat, v < n → (∀ v : Nat, v < n → cntF l v ≤ 1) → sumC l n < n
 | 0, hv, _ => by omega
 | n + 1, hv, h => by
  show sumC l n + cntF l n < _
  rcases Nat.lt_or_ge v n with h1 | h1
  ·have := sumC_lt hv0 n h1 fun v hv => h v (by omega)
   have := h n (by omega)
   omega
  ·have e : v = n := by omega
   subst e
   have := sumC_le v fun w hw => h w (by omega)
   omega
theorem sumC_ge {l : List D} : ∀ n : Nat, (∀ v : Nat, v < n → cntF l v ≠ 0) → (n : Int) ≤ sumC l n
 | 0, _ => Int.le_refl _
 | n + 1, h => by
  have := sumC_ge n fun v hv => h v (by omega)
  have := h n (by omega)
  have := (cntF_rng l n).1
  show _ ≤ sumC l n + cntF l n
  omega
section
variable {n : Int} {l : List D}
theorem errG_6 (h : outP n l) : errG n l = 6 := by unfold errG; rw [if_pos h]
theorem errG_5 (h : ¬ outP n l) {x : Int} (hx : 0 ≤ x ∧ x < n) (hc : 1 < cntF l x) : errG n l = 5 := by unfold errG; rw [if_neg h, if_pos ⟨x, hx, hc⟩]
theorem one_of (h : ∀ v : Nat, (v : Int) < n → cntF l v ≤ 1) : ¬ ∃ x : Int, (0 ≤ x ∧ x < n) ∧ 1 < cntF l x := fun ⟨x, hx, hc⟩ => by
 have := h x.toNat (by omega)
 rw [show ((x.toNat : Nat) : Int) = x by omega] at this
 omega
theorem errG_2 (h : ¬ outP n l) (h1 : ∀ v : Nat, (v : Int) < n → cntF l v ≤ 1) {x : Int} (hx : 0 ≤ x ∧ x < n) (hc : cntF l x = 0) : errG n l = 2 := by unfold errG; rw [if_neg h, if_neg (one_of h1), if_pos ⟨x, hx, hc⟩]
theorem errG_0 (h : ¬ outP n l) (h1 : ∀ v : Nat, (v : Int) < n → cntF l v ≤ 1) (h2 : ∀ v : Nat, (v : Int) < n → cntF l v ≠ 0) : errG n l = 0 := by
 unfold errG
 rw [if_neg h, if_neg (one_of h1), if_neg]
 intro ⟨x, hx, hc⟩
 have := h2 x.toNat (by omega)
 rw [show ((x.toNat : Nat) : Int) = x by omega] at this
 exact this hc
theorem in_of (h : ¬ outP n l) : ∀ a, a ∈ l → 0 ≤ a.asInt ∧ a.asInt < n := fun a ha => Classical.byContradiction fun hn => h ⟨a, ha, hn⟩
theorem errG_len (hn : 0 ≤ n) (h : ¬ outP n l) (h1 : ∀ v : Nat, (v : Int) < n → cntF l v ≤ 1) : errG n l = if (l.length : Int) < n then 2 else 0 := by
 have hs := sumC_all (n := n.toNat) (l := l) fun a ha => by have := in_of h a ha; omega
 by_cases hz : ∃ v : Nat, (v : Int) < n ∧ cntF l v = 0
 ·obtain ⟨v, hv, hc⟩ := hz
  have := sumC_lt hc n.toNat (by omega) fun w hw => h1 w (by omega)
  rw [if_pos (by omega)]
  exact errG_2 h h1 (x := v) ⟨by omega, hv⟩ hc
 ·have h2 : ∀ v : Nat, (v : Int) < n → cntF l v ≠ 0 := fun v hv hc => hz ⟨v, hv, hc⟩
  have := sumC_ge n.toNat fun w hw => h2 w (by omega)
  rw [if_neg (by omega)]
  exact errG_0 h h1 h2
end
theorem flat_len (ev : D) : ∀ n, (flatL ev n).length = totE ev n
 | 0 => rfl
 | n + 1 => by show (flatL ev n ++ _).length = totE ev n + _; rw [List.length_append, flat_len ev n]; rfl
theorem tot_le {ev : D} {k : Nat} (h : ∀ i, i < k → (el ev i).len ≤ 1000) : ∀ n, n ≤ k → totE ev n ≤ 1000 * n
 | 0, _ => Nat.le_refl _
 | n + 1, hn => by
  have := tot_le h n (by omega)
  have := h n (by omega)
  show totE ev n + _ ≤ _
  omega
theorem tot_mono (ev : D) (n : Nat) : ∀ k, totE ev n ≤ totE ev (n + k)
 | 0 => Nat.le_refl _
 | k + 1 => Nat.le_trans (tot_mono ev n k) (Nat.le_add_right _ _)
theorem tot_mono' (ev : D) {n m : Nat} (h : n ≤ m) : totE ev n ≤ totE ev m := by have := tot_mono ev n (m - n); rwa [show n + (m - n) = m by omega] at this
theorem no_of {p : Prop} (h : ¬ p) : (false = true ↔ p) := iff_of_false (fun h => (by cases h)) h
theorem s32 (n : Int) (d : D) (h1 : 1 ≤ n) (h2 : n ≤ 64) (hd : d.len ≤ 1000000) : symFun (ctx cc0 (gAnn n)) 5 36 [.int .i64 n, .dat 25 d] (.int .i64 (errG n d.asList)) := by
 rw [vc32]
 have hl : d.len = d.asList.length := rfl
 have six : ∀ x, x < d.len → ¬ (0 ≤ nAt d x ∧ nAt d x < n) → 6 = errG n d.asList := fun x hx hn => (errG_6 ⟨_, nthD_mem (l := d.asList) hx, hn⟩).symm
 have ab : ∀ {p : Prop} (x : Nat), (0 ≤ (x : Int) → False) → p := fun x h => absurd (Int.natCast_nonneg x) h
 refine And.intro ⟨0, ⟨Nat.zero_le _, fun i hi => absurd hi (Nat.not_lt_zero _)⟩, ⟨rfl, trivial⟩, trivial⟩ (fun x hx => ⟨by unfold LIM; omega, fun hlt => ⟨by omega, by omega, fun h3 => ⟨fun h4 => ⟨fun _ => six x (by omega) (by omega), ab x⟩, fun h4 => ⟨⟨by omega, by omega⟩, x + 1, ⟨by omega, fun i hi => ?_⟩, by omega, ⟨by omega, trivial⟩, trivial⟩⟩, fun h3 => ⟨fun _ => six x (by omega) (by omega), ab x⟩⟩, fun hge => ?_⟩)
 ·rcases Nat.lt_or_ge i x with h' | h'
  ·exact hx.2 i h'
  ·have h3 := not_of h3; have h4 := not_of h4
   rw [show i = x by omega]; omega
 ·have hge := not_of hge
  have hin : ¬ outP n d.asList := fun ⟨a, ha, hn⟩ => by
   obtain ⟨i, hi, rfl⟩ := mem_nthD ha
   exact hn (hx.2 i (by omega))
  refine ⟨by omega, Int.le_refl _, by omega, by omega, ?_⟩
  refine And.intro ⟨(0, _), ⟨Nat.zero_le _, List.length_replicate .., fun v hv => ?_, fun v hv => by show (0 : Int) ≤ 1; decide⟩, ⟨rfl, trivial⟩, rfl, trivial⟩ (fun y hy => ?_)
  ·refine iff_of_false ?_ (Int.lt_irrefl 0)
   show ¬ (nthD (List.replicate n.toNat (D.bool (false = true))) v).asProp
   unfold nthD
   rw [List.getElem?_replicate, if_pos (by omega)]
   exact fun h => (by cases h)
  ·obtain ⟨k, r⟩ := y
   dsimp only at hy ⊢
   obtain ⟨hk, hr, hse, hone⟩ := hy
   refine ⟨by unfold LIM; omega, fun hlt => ?_, fun hge => ?_⟩
   ·have hkin := hx.2 k (by omega)
    have ec : ∀ v : Nat, cntF (d.asList.take (k + 1)) v = cntF (d.asList.take k) v + (if nAt d k = v then 1 else 0) := fun v => cntF_succ (l := d.asList) (i := k) (show k < d.len by omega) v
    have hv0 : (((nAt d k).toNat : Nat) : Int) = nAt d k := by omega
    refine ⟨by omega, by omega, hkin.1, by omega, by omega, fun hp => ?_, fun hp => ?_⟩
    ·have c1 := (hse (nAt d k).toNat (by omega)).1 hp
     have c2 := ec (nAt d k).toNat
     rw [if_pos hv0.symm] at c2
     have c3 := cntF_take d.asList (k + 1) ((nAt d k).toNat : Nat)
     exact (errG_5 hin (x := ((nAt d k).toNat : Nat)) ⟨by omega, by omega⟩ (by omega)).symm
    ·have c0 := hone (nAt d k).toNat (by omega)
     refine ⟨hkin.1, by omega, by omega, ⟨by omega, by omega⟩, (k + 1, _), ⟨by omega, by rw [List.length_set]; exact hr, fun v hv => ?_, fun v hv => ?_⟩, by omega, ⟨by omega, trivial⟩, rfl, trivial⟩
     ·dsimp only
      rw [nthD_set _ _ _ _ (by omega), ec v]
      by_cases he : (nAt d k).toNat = v
      ·rw [if_pos he, if_pos (by omega)]
       have := (cntF_rng (d.asList.take k) v).1
       exact iff_of_true (show true = true from rfl) (by omega)
      ·rw [if_neg he, if_neg (by omega), Int.add_zero]
       exact hse v hv
     ·dsimp only
      rw [ec v]
      by_cases he : nAt d k = v
      ·rw [if_pos he]
       have hz : ¬ 0 < cntF (d.asList.take k) ((nAt d k).toNat : Nat) := fun h => hp ((hse (nAt d k).toNat (by omega)).2 h)
       rw [hv0, he] at hz
       omega
      ·rw [if_neg he]
       have := hone v hv
       omega
   ·have hge := not_of hge
    have e : d.asList.take k = d.asList := List.take_of_length_le (by omega)
    rw [e] at hone
    rw [errG_len (by omega) hin hone]
    exact ⟨fun h => by rw [if_pos (by omega)], fun h => by have := not_of h; rw [if_neg (by omega)]⟩
theorem errE_2 {n : Int} {sz ev : D} (h : emptyP ev ∨ (0 < sz.len ∧ ¬ sameSz ev sz)) : 2 = errE n sz ev := by unfold errE; rw [if_pos h]
theorem errE_g {n : Int} {sz ev : D} (h : ¬ emptyP ev) (h1 : 0 < sz.len → sameSz ev sz) : errE n sz ev = errG n (flatL ev ev.len) := by unfold errE; rw [if_neg fun h' => h'.elim h fun h' => h'.2 (h1 h'.1)]
theorem s14 (n : Int) (sz ev : D) (h1 : 1 ≤ n) (h2 : n ≤ 64) (he : smE ev) (hz : sz.len ≤ 1000) : symFun (ctx ck3 ekAnn) 5 35 [.int .i64 n, .dat 25 sz, .dat 32 ev] (.int .i64 (errE n sz ev)) := by
 rw [vc14]
 have hl := he.out.1
 have ab : ∀ {p : Prop} (x : Nat), (((0 ≤ (x : Int) → False) → False) → False) → p := fun x h => absurd (fun h' => h' (Int.natCast_nonneg x)) h
 have go : ¬ emptyP ev → (0 < sz.len → sameSz ev sz) → smE ev ∧ ((1 ≤ n ∧ n ≤ 64) ∧ (listD (flatL ev ev.len)).len ≤ 1000000) ∧ errG n (listD (flatL ev ev.len)).asList = errE n sz ev := fun k1 k2 => ⟨he, ⟨⟨h1, h2⟩, by rw [listD_len, flat_len]; have := tot_le he.out.2 ev.len (Nat.le_refl _); omega⟩, by rw [listD_list, errE_g k1 k2]⟩
 have same0 : ∃ x, (x ≤ ev.len ∧ ∀ i, i < x → ((el ev i).len : Int) = nAt sz i) ∧ (0 = (x : Int) ∧ True) ∧ True := ⟨0, ⟨Nat.zero_le _, fun i hi => absurd hi (Nat.not_lt_zero _)⟩, ⟨rfl, trivial⟩, trivial⟩
 refine And.intro ⟨0, ⟨Nat.zero_le _, fun i hi => absurd hi (Nat.not_lt_zero _)⟩, ⟨rfl, trivial⟩, trivial⟩ (fun x hx => ⟨lim_of (by omega), fun hlt => ⟨by omega, by omega, fun h0 => ?_, fun h0 => ⟨⟨by omega, by omega⟩, x + 1, ⟨by omega, fun i hi => ?_⟩, by omega, ⟨by omega, trivial⟩, trivial⟩⟩, fun hge => ?_⟩)
 ·have em : emptyP ev := ⟨x, by omega, by omega⟩
  refine ⟨fun _ => ⟨ab x, fun _ => errE_2 (.inl em)⟩, fun hs => ?_⟩
  have hs := Classical.not_not.1 hs
  refine And.intro same0 (fun y hy => ⟨lim_of (by omega), fun hlt2 => ⟨by omega, by omega, by omega, by omega, fun hn => ⟨ab x, fun _ => errE_2 (.inl em)⟩, fun hn => ⟨⟨by omega, by omega⟩, y + 1, ⟨by omega, fun i hi => ?_⟩, by omega, ⟨by omega, trivial⟩, trivial⟩⟩, fun hge => ⟨ab x, fun _ => errE_2 (.inl em)⟩⟩)
  rcases Nat.lt_or_ge i y with h' | h'
  ·exact hy.2 i h'
  ·rw [show i = y by omega]; exact Classical.not_not.1 hn
 ·rcases Nat.lt_or_ge i x with h' | h'
  ·exact hx.2 i h'
  ·rw [show i = x by omega]; exact fun h => h0 (by omega)
 ·have hge := not_of hge
  have em : ¬ emptyP ev := fun ⟨i, hi, h0⟩ => hx.2 i (by omega) h0
  refine ⟨fun hs => ⟨fun h0 => errE_2 (.inr ⟨by omega, fun h' => hs (by have := h'.out.1; omega)⟩), fun h0 => go em fun h' => absurd (show (0 : Int) < (sz.len : Int) by omega) h0⟩, fun hs => ?_⟩
  have hs := Classical.not_not.1 hs
  refine And.intro same0 (fun y hy => ⟨lim_of (by omega), fun hlt2 => ⟨by omega, by omega, by omega, by omega, fun hn => ⟨fun h0 => errE_2 (.inr ⟨by omega, fun h' => hn (h'.out.2 y (by omega))⟩), fun h0 => go em fun h' => absurd (show (0 : Int) < (sz.len : Int) by omega) h0⟩, fun hn => ⟨⟨by omega, by omega⟩, y + 1, ⟨by omega, fun i hi => ?_⟩, by omega, ⟨by omega, trivial⟩, trivial⟩⟩, fun hge => ?_⟩)
  ·rcases Nat.lt_or_ge i y with h' | h'
   ·exact hy.2 i h'
   ·rw [show i = y by omega]; exact Classical.not_not.1 hn
  ·have hge := not_of hge
   have sm : sameSz ev sz := ⟨by omega, fun i hi => hy.2 i (by omega)⟩
   exact ⟨fun _ => go em fun _ => sm, fun _ => go em fun _ => sm⟩
theorem scan_step {n : Int} {sz s : D} {x : Nat} (hx : x < s.len) : scanK n sz s (s.len - x) x = if errE n sz (el s x) ≠ 0 then (((x : Nat) : Int), errE n sz (el s x)) else scanK n sz s (s.len - (x + 1)) (x + 1) := by
 rw [show s.len - x = (s.len - (x + 1)) + 1 by omega]; rfl
theorem scan_end {n : Int} {sz s : D} {x : Nat} (hx : ¬ x < s.len) : scanK n sz s (s.len - x) x = (0, 0) := by
 rw [show s.len - x = 0 by omega]; rfl
end Go.Ev
