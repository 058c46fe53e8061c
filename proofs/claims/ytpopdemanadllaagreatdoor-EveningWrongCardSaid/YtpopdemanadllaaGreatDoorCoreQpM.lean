/-
  Part of the engine that the claim is proved with: it states nothing of the document by itself.
-/
import Derived.Test.YtpopdemanadllaaGreatDoorCoreOqA
import Derived.Test.YtpopdemanadllaaGreatDoorCoreQpDefs
open Go.Proofs
namespace Go.Ev
set_option maxRecDepth 100000
set_option maxHeartbeats 4000000
theorem vc21z : ∀ (c : D), symFun (ctx cc0 mzAnn) 4 (22 : FuncId) [V.dat (22 : TypeId) c] (V.tup [V.dat (25 : TypeId) (szD c), V.int IntKind.i64 (nD c)]) = ((0 : Int) ≤ 0 ∧ 0 ≤ min (c.len : Int) 8 ∧ min (c.len : Int) 8 ≤
(c.len : Int) ∧ ((∃ (x : Nat), x = 0 ∧ ((0 : Int) = 0 ∧ True ∧ (0 : Int) = 0 ∧ True) ∧ True) ∨ ∃ (x : Nat), (0 < x ∧ x ≤ kS c) ∧ (0 = (x : Int) ∧ False ∧ 0 = sumF (sub8 c) x ∧ True) ∧ False ∧ True) ∧ (∀ (x : Nat), x = 0
→ (sub8 c).len - x < LIM ∧ (0 < (↑(sub8 c).len : Int) → (0 : Int) ≤ 0 ∧ 0 < (↑(sub8 c).len : Int) ∧ ((6 : Int) = 0 → False) ∧ fits64 (szF (sub8 c) 0) ∧ 0 + 1 ≤ [D.int (szF (sub8 c) 0)].length ∧ (1 : Nat) ≤ 16777216 ∧ ((6
: Int) = 0 → False) ∧ fits64 (szF (sub8 c) 0) ∧ fits64 (0 + (szF (sub8 c) 0)) ∧ fits64 (0 + 1) ∧ ((∃ (y : Nat), y = 0 ∧ (sub8 c).len - y < (sub8 c).len - x ∧ ((0 : Int) + 1 = 0 ∧ False ∧ 0 + (szF (sub8 c) 0) = 0 ∧ True)
∧ True) ∨ ∃ (y : Nat), (0 < y ∧ y ≤ kS c) ∧ (sub8 c).len - y < (sub8 c).len - x ∧ (0 + 1 = (y : Int) ∧ ((0 : Nat) = 0 ∧ 1 = y ∧ True) ∧ 0 + (szF (sub8 c) 0) = sumF (sub8 c) y ∧ True) ∧ List.take 1 [D.int (szF (sub8 c)
0)] = szL (sub8 c) y ∧ True)) ∧ ((0 < (↑(sub8 c).len : Int) → False) → ((0 : Int) = 0 → (0 + 1 ≤ [D.int 1].length ∧ D.list (List.take 1 [D.int 1]) = szD c) ∧ 1 = nD c ∧ True) ∧ (((0 : Int) = 0 → False) → D.nil = szD c ∧
0 = nD c ∧ True))) ∧ ∀ (x : Nat), 0 < x ∧ x ≤ kS c → (sub8 c).len - x < LIM ∧ ((x : Int) < (↑(sub8 c).len : Int) → 0 ≤ (x : Int) ∧ (x : Int) < (↑(sub8 c).len : Int) ∧ ((6 : Int) = 0 → False) ∧ fits64 (szF (sub8 c) x) ∧ 0
+ 1 ≤ [D.int (szF (sub8 c) x)].length ∧ 0 + x ≤ (szL (sub8 c) x).length ∧ x + 1 ≤ 16777216 ∧ ((6 : Int) = 0 → False) ∧ fits64 (szF (sub8 c) x) ∧ fits64 (sumF (sub8 c) x + (szF (sub8 c) x)) ∧ fits64 ((x : Int) + 1) ∧ ((∃
(y : Nat), y = 0 ∧ (sub8 c).len - y < (sub8 c).len - x ∧ ((x : Int) + 1 = 0 ∧ False ∧ sumF (sub8 c) x + (szF (sub8 c) x) = 0 ∧ True) ∧ True) ∨ ∃ (y : Nat), (0 < y ∧ y ≤ kS c) ∧ (sub8 c).len - y < (sub8 c).len - x ∧ ((x :
Int) + 1 = (y : Int) ∧ ((0 : Nat) = 0 ∧ x + 1 = y ∧ True) ∧ sumF (sub8 c) x + (szF (sub8 c) x) = sumF (sub8 c) y ∧ True) ∧ List.take x (szL (sub8 c) x) ++ List.take 1 [D.int (szF (sub8 c) x)] = szL (sub8 c) y ∧ True)) ∧
(((x : Int) < (↑(sub8 c).len : Int) → False) → (sumF (sub8 c) x = 0 → (0 + 1 ≤ [D.int 1].length ∧ D.list (List.take 1 [D.int 1]) = szD c) ∧ 1 = nD c ∧ True) ∧ ((sumF (sub8 c) x = 0 → False) → (0 + x ≤ (szL (sub8 c)
x).length ∧ D.list (List.take x (szL (sub8 c) x)) = szD c) ∧ sumF (sub8 c) x = nD c ∧ True))) := by intros; kernel_rfl
theorem wrapI {n : Int} (h0 : 0 ≤ n) (h1 : n < 128) : IntKind.i64.wrap n = n := by
 obtain ⟨m, rfl⟩ : ∃ m : Nat, n = m := ⟨n.toNat, by omega⟩
 exact wrap_small _ m (by omega)
theorem sub0_len (d : D) {k : Nat} (h : k ≤ d.len) : (d.sub 0 k).len = k := by
 cases d <;> simp [D.sub, D.len, D.asList] at h ⊢ <;> omega
theorem sub0_el (d : D) {k i : Nat} (h : i < k) : el (d.sub 0 k) i = el d i := by
 unfold el nthD
 cases d <;> simp [D.sub, D.asList, List.getElem?_take, h]
theorem sub8_len (c : D) : (sub8 c).len = min c.len 8 := by unfold sub8; rw [sub0_len _ (by omega)]; omega
theorem sub10_len (c : D) : (sub10 c).len = min c.len 10 := by unfold sub10; rw [sub0_len _ (by omega)]; omega
theorem sub20_len (c : D) : (sub20 c).len = min c.len 20 := by unfold sub20; rw [sub0_len _ (by omega)]; omega
theorem sub8_el (c : D) {i : Nat} (h : i < (sub8 c).len) : el (sub8 c) i = el c i := by rw [sub8_len] at h; exact sub0_el c (by omega)
theorem sub10_el (c : D) {i : Nat} (h : i < (sub10 c).len) : el (sub10 c) i = el c i := by rw [sub10_len] at h; exact sub0_el c (by omega)
theorem sub20_el (c : D) {i : Nat} (h : i < (sub20 c).len) : el (sub20 c) i = el c i := by rw [sub20_len] at h; exact sub0_el c (by omega)
theorem sz_rng {c : D} (h : u8L c) {i : Nat} (hi : i < (sub8 c).len) : 1 ≤ szF (sub8 c) i ∧ szF (sub8 c) i ≤ 6 := by
 have h1 := h.out i (by rw [sub8_len] at hi; omega)
 have e : nAt (sub8 c) i = nAt c i := by show (el (sub8 c) i).asInt = _; rw [sub8_el c hi]; rfl
 unfold szF
 rw [e]
 have h2 : (nAt c i).tmod 6 = nAt c i % 6 := Int.tmod_eq_emod_of_nonneg h1.1
 rw [h2, wrapI (by omega) (by omega)]
 omega
theorem szL_len (c : D) (n : Nat) : (szL c n).length = n := by unfold szL; rw [List.length_map, List.length_range]
theorem szL_succ (c : D) (n : Nat) : szL c n ++ [.int (szF c n)] = szL c (n + 1) := by unfold szL; rw [List.range_succ, List.map_append]; rfl
theorem sum_rng {c : D} (h : u8L c) : ∀ n, n ≤ (sub8 c).len → (n : Int) ≤ sumF (sub8 c) n ∧ sumF (sub8 c) n ≤ 6 * n
 | 0, _ => ⟨Int.le_refl _, Int.le_refl _⟩
 | n + 1, hn => by
  have h1 := sum_rng h n (by omega)
  have h2 := sz_rng h (show n < (sub8 c).len by omega)
  have e : sumF (sub8 c) (n + 1) = sumF (sub8 c) n + szF (sub8 c) n := rfl
  omega
theorem s21z (c : D) (h : u8L c) : symFun (ctx cc0 mzAnn) 4 22 [.dat 22 c] (.tup [.dat 25 (szD c), .int .i64 (nD c)]) := by
 rw [vc21z]
 have h8 := sub8_len c
 have hk : kS c = (sub8 c).len := rfl
 have six : ((6 : Int) = 0 → False) := by decide
 refine ⟨by omega, by omega, by omega, .inl ⟨0, rfl, ⟨rfl, trivial, rfl, trivial⟩, trivial⟩, fun x hx => ?_, fun x ⟨hx0, hx⟩ => ?_⟩
 ·subst hx
  refine ⟨lim_of (by omega), fun hlt => ?_, fun hge => ?_⟩
  ·have r := sz_rng h (i := 0) (by omega)
   have e : sumF (sub8 c) 1 = 0 + szF (sub8 c) 0 := rfl
   exact ⟨by omega, hlt, six, ⟨by omega, by omega⟩, Nat.le_refl 1, by omega, six, ⟨by omega, by omega⟩, ⟨by omega, by omega⟩, ⟨by omega, by omega⟩, .inr ⟨1, ⟨by omega, by omega⟩, by omega, ⟨rfl, ⟨rfl, rfl, trivial⟩, e.symm, trivial⟩, rfl, trivial⟩⟩
  ·have hge := not_of hge
   have e : kS c = 0 := by omega
   exact ⟨fun _ => ⟨⟨Nat.le_refl 1, by unfold szD; rw [if_pos e]; rfl⟩, by unfold nD; rw [if_pos e], trivial⟩, fun h => absurd rfl h⟩
 ·refine ⟨lim_of (by omega), fun hlt => ?_, fun hge => ?_⟩
  ·have r := sz_rng h (i := x) (by omega)
   have q := sum_rng h x (by omega)
   have q1 := szL_len (sub8 c) x
   have e : sumF (sub8 c) (x + 1) = sumF (sub8 c) x + szF (sub8 c) x := rfl
   exact ⟨by omega, hlt, six, ⟨by omega, by omega⟩, Nat.le_refl 1, by omega, by omega, six, ⟨by omega, by omega⟩, ⟨by omega, by omega⟩, ⟨by omega, by omega⟩, .inr ⟨x + 1, ⟨by omega, by omega⟩, by omega, ⟨by omega, ⟨rfl, rfl, trivial⟩, e.symm, trivial⟩, by rw [List.take_of_length_le (by omega), ← szL_succ]; rfl, trivial⟩⟩
  ·have hge := not_of hge
   have ex : x = kS c := by omega
   have q := sum_rng h x (by omega)
   have q1 := szL_len (sub8 c) x
   have hne : ¬ kS c = 0 := by omega
   refine ⟨fun h0 => absurd h0 (by omega), fun _ => ⟨⟨by omega, ?_⟩, ?_, trivial⟩⟩
   ·unfold szD; rw [if_neg hne, List.take_of_length_le (by omega), ex]
   ·unfold nD; rw [if_neg hne, ex]
theorem vc6z : ∀ (c w : D), symFun (ctx mz1 mzAnn) 4 (4 : FuncId) [V.dat (22 : TypeId) c, V.dat (23 : TypeId) w] (V.tup [V.dat (24 : TypeId) (madeD c w), V.dat (25 : TypeId) (szD c), V.int IntKind.i64 (nD c)]) = (u8L c ∧
0 ≤ nD c ∧ nD c ≤ nD c ∧ nD c ≤ 16777216 ∧ 8 * (nD c).toNat ≤ 281474976710656 ∧ (∃ (x : Nat × List D), (x.fst ≤ (nD c).toNat ∧ x.snd.length = (nD c).toNat ∧ List.take x.fst x.snd = idL x.fst) ∧ (0 = (x.fst : Int) ∧ True)
∧ List.replicate (nD c).toNat (D.int 0) = x.snd ∧ True) ∧ ∀ (x : Nat × List D), x.fst ≤ (nD c).toNat ∧ x.snd.length = (nD c).toNat ∧ List.take x.fst x.snd = idL x.fst → (nD c).toNat - x.fst < LIM ∧ ((x.fst : Int) < (↑(nD
c).toNat : Int) → 0 ≤ (x.fst : Int) ∧ (x.fst : Int) < (↑(nD c).toNat : Int) ∧ x.fst < x.snd.length ∧ fits64 ((x.fst : Int) + 1) ∧ ∃ (y : Nat × List D), (y.fst ≤ (nD c).toNat ∧ y.snd.length = (nD c).toNat ∧ List.take
y.fst y.snd = idL y.fst) ∧ (nD c).toNat - y.fst < (nD c).toNat - x.fst ∧ ((x.fst : Int) + 1 = (y.fst : Int) ∧ True) ∧ x.snd.set x.fst (D.int (x.fst : Int)) = y.snd ∧ True) ∧ (((x.fst : Int) < (↑(nD c).toNat : Int) →
False) → (0 : Int) ≤ 0 ∧ 0 ≤ min (w.len : Int) 10 ∧ min (w.len : Int) 10 ≤ (w.len : Int) ∧ ((∃ (x_1 : Nat × List D), (x_1.fst = 0 ∧ x_1.snd = ordL (nD c) (sub10 w) 0) ∧ ((0 : Int) = 0 ∧ True ∧ True) ∧ x.snd = x_1.snd ∧
True) ∨ ∃ (x_1 : Nat × List D), (0 < x_1.fst ∧ x_1.fst ≤ (sub10 w).len ∧ x_1.snd = ordL (nD c) (sub10 w) x_1.fst) ∧ (0 = (x_1.fst : Int) ∧ False ∧ True) ∧ False ∧ x.snd = x_1.snd ∧ True) ∧ (∀ (x : Nat × List D), x.fst =
0 ∧ x.snd = ordL (nD c) (sub10 w) 0 → (sub10 w).len - x.fst < LIM ∧ (0 < (↑(sub10 w).len : Int) → (0 : Int) ≤ 0 ∧ 0 < (↑(sub10 w).len : Int) ∧ (0 : Int) ≤ 0 ∧ 0 ≤ min (↑(el (sub10 w) 0).len : Int) 20 ∧ min (↑(el (sub10
w) 0).len : Int) 20 ≤ (↑(el (sub10 w) 0).len : Int) ∧ (∃ (x_1 : Nat × List D), (x_1.fst ≤ (sub20 (el (sub10 w) 0)).len ∧ x_1.snd = stepsL (nD c) x.snd (sub20 (el (sub10 w) 0)) x_1.fst) ∧ (0 = (x_1.fst : Int) ∧ True) ∧
x.snd = x_1.snd ∧ True) ∧ ∀ (x_1 : Nat × List D), x_1.fst ≤ (sub20 (el (sub10 w) 0)).len ∧ x_1.snd = stepsL (nD c) x.snd (sub20 (el (sub10 w) 0)) x_1.fst → (sub20 (el (sub10 w) 0)).len - x_1.fst < LIM ∧ ((x_1.fst : Int)
< (↑(sub20 (el (sub10 w) 0)).len : Int) → 0 ≤ (x_1.fst : Int) ∧ (x_1.fst : Int) < (↑(sub20 (el (sub10 w) 0)).len : Int) ∧ (0 : Int) ≤ 0 ∧ 0 < (↑(2 : Nat) : Int) ∧ (nD c = 0 → False) ∧ (0 : Int) ≤ 1 ∧ 1 < (↑(2 : Nat) :
Int) ∧ (nD c = 0 → False) ∧ 0 ≤ swA (nD c) (el (sub20 (el (sub10 w) 0)) x_1.fst) 1 ∧ swA (nD c) (el (sub20 (el (sub10 w) 0)) x_1.fst) 1 < (↑(nD c).toNat : Int) ∧ (swA (nD c) (el (sub20 (el (sub10 w) 0)) x_1.fst) 1).toNat
< x_1.snd.length ∧ 0 ≤ swA (nD c) (el (sub20 (el (sub10 w) 0)) x_1.fst) 0 ∧ swA (nD c) (el (sub20 (el (sub10 w) 0)) x_1.fst) 0 < (↑(nD c).toNat : Int) ∧ (swA (nD c) (el (sub20 (el (sub10 w) 0)) x_1.fst) 0).toNat <
x_1.snd.length ∧ 0 ≤ swA (nD c) (el (sub20 (el (sub10 w) 0)) x_1.fst) 0 ∧ swA (nD c) (el (sub20 (el (sub10 w) 0)) x_1.fst) 0 < (↑(nD c).toNat : Int) ∧ (swA (nD c) (el (sub20 (el (sub10 w) 0)) x_1.fst) 0).toNat <
x_1.snd.length ∧ 0 ≤ swA (nD c) (el (sub20 (el (sub10 w) 0)) x_1.fst) 1 ∧ swA (nD c) (el (sub20 (el (sub10 w) 0)) x_1.fst) 1 < (↑(nD c).toNat : Int) ∧ (swA (nD c) (el (sub20 (el (sub10 w) 0)) x_1.fst) 1).toNat <
(x_1.snd.set (swA (nD c) (el (sub20 (el (sub10 w) 0)) x_1.fst) 0).toNat (D.int (nthD x_1.snd (swA (nD c) (el (sub20 (el (sub10 w) 0)) x_1.fst) 1).toNat).asInt)).length ∧ fits64 ((x_1.fst : Int) + 1) ∧ ∃ (y : Nat × List
D), (y.fst ≤ (sub20 (el (sub10 w) 0)).len ∧ y.snd = stepsL (nD c) x.snd (sub20 (el (sub10 w) 0)) y.fst) ∧ (sub20 (el (sub10 w) 0)).len - y.fst < (sub20 (el (sub10 w) 0)).len - x_1.fst ∧ ((x_1.fst : Int) + 1 = (y.fst :
Int) ∧ True) ∧ (x_1.snd.set (swA (nD c) (el (sub20 (el (sub10 w) 0)) x_1.fst) 0).toNat (D.int (nthD x_1.snd (swA (nD c) (el (sub20 (el (sub10 w) 0)) x_1.fst) 1).toNat).asInt)).set (swA (nD c) (el (sub20 (el (sub10 w) 0))
x_1.fst) 1).toNat (D.int (nthD x_1.snd (swA (nD c) (el (sub20 (el (sub10 w) 0)) x_1.fst) 0).toNat).asInt) = y.snd ∧ True) ∧ (((x_1.fst : Int) < (↑(sub20 (el (sub10 w) 0)).len : Int) → False) → ((∃ (x : Nat), x = 0 ∧ ((0
: Int) = 0 ∧ True ∧ (0 : Int) = 0 ∧ True) ∧ True) ∨ ∃ (x : Nat), (0 < x ∧ x ≤ (szD c).len) ∧ (0 = (x : Int) ∧ False ∧ 0 = offZ (szD c) x ∧ True) ∧ False ∧ True) ∧ (∀ (x_2 : Nat), x_2 = 0 → (szD c).len - x_2 < LIM ∧ (0 <
(↑(szD c).len : Int) → (0 : Int) ≤ 0 ∧ 0 < (↑(szD c).len : Int) ∧ fits64 (0 + nAt (szD c) 0) ∧ (0 : Int) ≤ 0 ∧ 0 ≤ 0 + nAt (szD c) 0 ∧ ((↑(nD c).toNat : Int) - (0 + nAt (szD c) 0)).NonNeg ∧ 0 + ((0 + nAt (szD c) 0).toNat
- 0) ≤ x_1.snd.length ∧ ((0 + nAt (szD c) 0).toNat - 0 = 0 → 0 + 0 ≤ ([] : List D).length ∧ 0 + 1 ≤ [D.list (List.take 0 ([] : List D))].length ∧ (1 : Nat) ≤ 16777216 ∧ fits64 (0 + nAt (szD c) 0) ∧ fits64 (0 + 1) ∧ ((∃
(y : Nat), y = 0 ∧ (szD c).len - y < (szD c).len - x_2 ∧ ((0 : Int) + 1 = 0 ∧ False ∧ 0 + nAt (szD c) 0 = 0 ∧ True) ∧ True) ∨ ∃ (y : Nat), (0 < y ∧ y ≤ (szD c).len) ∧ (szD c).len - y < (szD c).len - x_2 ∧ (0 + 1 = (y :
Int) ∧ ((0 : Nat) = 0 ∧ 1 = y ∧ True) ∧ 0 + nAt (szD c) 0 = offZ (szD c) y ∧ True) ∧ List.take 1 [D.list (List.take 0 ([] : List D))] = tabL x_1.snd (szD c) y ∧ True)) ∧ (0 < (0 + nAt (szD c) 0).toNat - 0 → 0 + 0 ≤ ([] :
List D).length ∧ 0 + ((0 + nAt (szD c) 0).toNat - 0) ≤ 16777216 ∧ (0 + ((0 + nAt (szD c) 0).toNat - 0) ≤ 0 → 0 + 0 + ((0 + nAt (szD c) 0).toNat - 0) ≤ ([] : List D).length ∧ 0 + ((0 + nAt (szD c) 0).toNat - 0) ≤
(List.take (0 + 0) ([] : List D) ++ List.take ((0 + nAt (szD c) 0).toNat - 0) x_1.snd ++ List.drop (0 + 0 + ((0 + nAt (szD c) 0).toNat - 0)) []).length ∧ 0 + 1 ≤ [D.list (List.take ((0 + nAt (szD c) 0).toNat - 0)
(List.take (0 + 0) ([] : List D) ++ List.take ((0 + nAt (szD c) 0).toNat - 0) x_1.snd ++ List.drop (0 + 0 + ((0 + nAt (szD c) 0).toNat - 0)) []))].length ∧ (1 : Nat) ≤ 16777216 ∧ fits64 (0 + nAt (szD c) 0) ∧ fits64 (0 +
1) ∧ ((∃ (y : Nat), y = 0 ∧ (szD c).len - y < (szD c).len - x_2 ∧ ((0 : Int) + 1 = 0 ∧ False ∧ 0 + nAt (szD c) 0 = 0 ∧ True) ∧ True) ∨ ∃ (y : Nat), (0 < y ∧ y ≤ (szD c).len) ∧ (szD c).len - y < (szD c).len - x_2 ∧ (0 + 1
= (y : Int) ∧ ((0 : Nat) = 0 ∧ 1 = y ∧ True) ∧ 0 + nAt (szD c) 0 = offZ (szD c) y ∧ True) ∧ List.take 1 [D.list (List.take ((0 + nAt (szD c) 0).toNat - 0) (List.take (0 + 0) ([] : List D) ++ List.take ((0 + nAt (szD c)
0).toNat - 0) x_1.snd ++ List.drop (0 + 0 + ((0 + nAt (szD c) 0).toNat - 0)) []))] = tabL x_1.snd (szD c) y ∧ True)) ∧ (0 < 0 + ((0 + nAt (szD c) 0).toNat - 0) → 0 + ((0 + nAt (szD c) 0).toNat - 0) ≤ (List.take 0 ([] :
List D) ++ List.take ((0 + nAt (szD c) 0).toNat - 0) x_1.snd).length ∧ 0 + 1 ≤ [D.list (List.take ((0 + nAt (szD c) 0).toNat - 0) (List.take 0 ([] : List D) ++ List.take ((0 + nAt (szD c) 0).toNat - 0) x_1.snd))].length
∧ (1 : Nat) ≤ 16777216 ∧ fits64 (0 + nAt (szD c) 0) ∧ fits64 (0 + 1) ∧ ((∃ (y : Nat), y = 0 ∧ (szD c).len - y < (szD c).len - x_2 ∧ ((0 : Int) + 1 = 0 ∧ False ∧ 0 + nAt (szD c) 0 = 0 ∧ True) ∧ True) ∨ ∃ (y : Nat), (0 < y
∧ y ≤ (szD c).len) ∧ (szD c).len - y < (szD c).len - x_2 ∧ (0 + 1 = (y : Int) ∧ ((0 : Nat) = 0 ∧ 1 = y ∧ True) ∧ 0 + nAt (szD c) 0 = offZ (szD c) y ∧ True) ∧ List.take 1 [D.list (List.take ((0 + nAt (szD c) 0).toNat - 0)
(List.take 0 ([] : List D) ++ List.take ((0 + nAt (szD c) 0).toNat - 0) x_1.snd))] = tabL x_1.snd (szD c) y ∧ True)))) ∧ ((0 < (↑(szD c).len : Int) → False) → 0 + 1 ≤ ([D.nil] : List D).length ∧ (1 : Nat) ≤ 16777216 ∧
fits64 (0 + 1) ∧ ((∃ (y : Nat × List D), (y.fst = 0 ∧ y.snd = ordL (nD c) (sub10 w) 0) ∧ (sub10 w).len - y.fst < (sub10 w).len - x.fst ∧ ((0 : Int) + 1 = 0 ∧ False ∧ True) ∧ x_1.snd = y.snd ∧ True) ∨ ∃ (y : Nat × List
D), (0 < y.fst ∧ y.fst ≤ (sub10 w).len ∧ y.snd = ordL (nD c) (sub10 w) y.fst) ∧ (sub10 w).len - y.fst < (sub10 w).len - x.fst ∧ (0 + 1 = (y.fst : Int) ∧ ((0 : Nat) = 0 ∧ 1 = y.fst ∧ True) ∧ True) ∧ List.take 1 [D.nil] =
outL (nD c) (szD c) (sub10 w) y.fst ∧ x_1.snd = y.snd ∧ True))) ∧ ∀ (x_2 : Nat), 0 < x_2 ∧ x_2 ≤ (szD c).len → (szD c).len - x_2 < LIM ∧ ((x_2 : Int) < (↑(szD c).len : Int) → 0 ≤ (x_2 : Int) ∧ (x_2 : Int) < (↑(szD c).len
: Int) ∧ fits64 (offZ (szD c) x_2 + nAt (szD c) x_2) ∧ 0 ≤ offZ (szD c) x_2 ∧ offZ (szD c) x_2 ≤ offZ (szD c) x_2 + nAt (szD c) x_2 ∧ ((↑(nD c).toNat : Int) - (offZ (szD c) x_2 + nAt (szD c) x_2)).NonNeg ∧ (offZ (szD c)
x_2).toNat + ((offZ (szD c) x_2 + nAt (szD c) x_2).toNat - (offZ (szD c) x_2).toNat) ≤ x_1.snd.length ∧ ((offZ (szD c) x_2 + nAt (szD c) x_2).toNat - (offZ (szD c) x_2).toNat = 0 → 0 + 0 ≤ ([] : List D).length ∧ 0 + 1 ≤
[D.list (List.take 0 ([] : List D))].length ∧ 0 + x_2 ≤ (tabL x_1.snd (szD c) x_2).length ∧ x_2 + 1 ≤ 16777216 ∧ fits64 (offZ (szD c) x_2 + nAt (szD c) x_2) ∧ fits64 ((x_2 : Int) + 1) ∧ ((∃ (y : Nat), y = 0 ∧ (szD c).len
- y < (szD c).len - x_2 ∧ ((x_2 : Int) + 1 = 0 ∧ False ∧ offZ (szD c) x_2 + nAt (szD c) x_2 = 0 ∧ True) ∧ True) ∨ ∃ (y : Nat), (0 < y ∧ y ≤ (szD c).len) ∧ (szD c).len - y < (szD c).len - x_2 ∧ ((x_2 : Int) + 1 = (y :
Int) ∧ ((0 : Nat) = 0 ∧ x_2 + 1 = y ∧ True) ∧ offZ (szD c) x_2 + nAt (szD c) x_2 = offZ (szD c) y ∧ True) ∧ List.take x_2 (tabL x_1.snd (szD c) x_2) ++ List.take 1 [D.list (List.take 0 ([] : List D))] = tabL x_1.snd (szD
c) y ∧ True)) ∧ (0 < (offZ (szD c) x_2 + nAt (szD c) x_2).toNat - (offZ (szD c) x_2).toNat → 0 + 0 ≤ ([] : List D).length ∧ 0 + ((offZ (szD c) x_2 + nAt (szD c) x_2).toNat - (offZ (szD c) x_2).toNat) ≤ 16777216 ∧ (0 +
((offZ (szD c) x_2 + nAt (szD c) x_2).toNat - (offZ (szD c) x_2).toNat) ≤ 0 → 0 + 0 + ((offZ (szD c) x_2 + nAt (szD c) x_2).toNat - (offZ (szD c) x_2).toNat) ≤ ([] : List D).length ∧ 0 + ((offZ (szD c) x_2 + nAt (szD c)
x_2).toNat - (offZ (szD c) x_2).toNat) ≤ (List.take (0 + 0) ([] : List D) ++ List.take ((offZ (szD c) x_2 + nAt (szD c) x_2).toNat - (offZ (szD c) x_2).toNat) (List.drop (offZ (szD c) x_2).toNat x_1.snd) ++ List.drop (0
+ 0 + ((offZ (szD c) x_2 + nAt (szD c) x_2).toNat - (offZ (szD c) x_2).toNat)) []).length ∧ 0 + 1 ≤ [D.list (List.take ((offZ (szD c) x_2 + nAt (szD c) x_2).toNat - (offZ (szD c) x_2).toNat) (List.take (0 + 0) ([] : List
D) ++ List.take ((offZ (szD c) x_2 + nAt (szD c) x_2).toNat - (offZ (szD c) x_2).toNat) (List.drop (offZ (szD c) x_2).toNat x_1.snd) ++ List.drop (0 + 0 + ((offZ (szD c) x_2 + nAt (szD c) x_2).toNat - (offZ (szD c)
x_2).toNat)) []))].length ∧ 0 + x_2 ≤ (tabL x_1.snd (szD c) x_2).length ∧ x_2 + 1 ≤ 16777216 ∧ fits64 (offZ (szD c) x_2 + nAt (szD c) x_2) ∧ fits64 ((x_2 : Int) + 1) ∧ ((∃ (y : Nat), y = 0 ∧ (szD c).len - y < (szD c).len
- x_2 ∧ ((x_2 : Int) + 1 = 0 ∧ False ∧ offZ (szD c) x_2 + nAt (szD c) x_2 = 0 ∧ True) ∧ True) ∨ ∃ (y : Nat), (0 < y ∧ y ≤ (szD c).len) ∧ (szD c).len - y < (szD c).len - x_2 ∧ ((x_2 : Int) + 1 = (y : Int) ∧ ((0 : Nat) = 0
∧ x_2 + 1 = y ∧ True) ∧ offZ (szD c) x_2 + nAt (szD c) x_2 = offZ (szD c) y ∧ True) ∧ List.take x_2 (tabL x_1.snd (szD c) x_2) ++ List.take 1 [D.list (List.take ((offZ (szD c) x_2 + nAt (szD c) x_2).toNat - (offZ (szD c)
x_2).toNat) (List.take (0 + 0) ([] : List D) ++ List.take ((offZ (szD c) x_2 + nAt (szD c) x_2).toNat - (offZ (szD c) x_2).toNat) (List.drop (offZ (szD c) x_2).toNat x_1.snd) ++ List.drop (0 + 0 + ((offZ (szD c) x_2 +
nAt (szD c) x_2).toNat - (offZ (szD c) x_2).toNat)) []))] = tabL x_1.snd (szD c) y ∧ True)) ∧ (0 < 0 + ((offZ (szD c) x_2 + nAt (szD c) x_2).toNat - (offZ (szD c) x_2).toNat) → 0 + ((offZ (szD c) x_2 + nAt (szD c)
x_2).toNat - (offZ (szD c) x_2).toNat) ≤ (List.take 0 ([] : List D) ++ List.take ((offZ (szD c) x_2 + nAt (szD c) x_2).toNat - (offZ (szD c) x_2).toNat) (List.drop (offZ (szD c) x_2).toNat x_1.snd)).length ∧ 0 + 1 ≤
[D.list (List.take ((offZ (szD c) x_2 + nAt (szD c) x_2).toNat - (offZ (szD c) x_2).toNat) (List.take 0 ([] : List D) ++ List.take ((offZ (szD c) x_2 + nAt (szD c) x_2).toNat - (offZ (szD c) x_2).toNat) (List.drop (offZ
(szD c) x_2).toNat x_1.snd)))].length ∧ 0 + x_2 ≤ (tabL x_1.snd (szD c) x_2).length ∧ x_2 + 1 ≤ 16777216 ∧ fits64 (offZ (szD c) x_2 + nAt (szD c) x_2) ∧ fits64 ((x_2 : Int) + 1) ∧ ((∃ (y : Nat), y = 0 ∧ (szD c).len - y <
(szD c).len - x_2 ∧ ((x_2 : Int) + 1 = 0 ∧ False ∧ offZ (szD c) x_2 + nAt (szD c) x_2 = 0 ∧ True) ∧ True) ∨ ∃ (y : Nat), (0 < y ∧ y ≤ (szD c).len) ∧ (szD c).len - y < (szD c).len - x_2 ∧ ((x_2 : Int) + 1 = (y : Int) ∧
((0 : Nat) = 0 ∧ x_2 + 1 = y ∧ True) ∧ offZ (szD c) x_2 + nAt (szD c) x_2 = offZ (szD c) y ∧ True) ∧ List.take x_2 (tabL x_1.snd (szD c) x_2) ++ List.take 1 [D.list (List.take ((offZ (szD c) x_2 + nAt (szD c) x_2).toNat
- (offZ (szD c) x_2).toNat) (List.take 0 ([] : List D) ++ List.take ((offZ (szD c) x_2 + nAt (szD c) x_2).toNat - (offZ (szD c) x_2).toNat) (List.drop (offZ (szD c) x_2).toNat x_1.snd)))] = tabL x_1.snd (szD c) y ∧
True)))) ∧ (((x_2 : Int) < (↑(szD c).len : Int) → False) → 0 + x_2 ≤ (tabL x_1.snd (szD c) x_2).length ∧ 0 + 1 ≤ [D.list (List.take x_2 (tabL x_1.snd (szD c) x_2))].length ∧ (1 : Nat) ≤ 16777216 ∧ fits64 (0 + 1) ∧ ((∃ (y
: Nat × List D), (y.fst = 0 ∧ y.snd = ordL (nD c) (sub10 w) 0) ∧ (sub10 w).len - y.fst < (sub10 w).len - x.fst ∧ ((0 : Int) + 1 = 0 ∧ False ∧ True) ∧ x_1.snd = y.snd ∧ True) ∨ ∃ (y : Nat × List D), (0 < y.fst ∧ y.fst ≤
(sub10 w).len ∧ y.snd = ordL (nD c) (sub10 w) y.fst) ∧ (sub10 w).len - y.fst < (sub10 w).len - x.fst ∧ (0 + 1 = (y.fst : Int) ∧ ((0 : Nat) = 0 ∧ 1 = y.fst ∧ True) ∧ True) ∧ List.take 1 [D.list (List.take x_2 (tabL
x_1.snd (szD c) x_2))] = outL (nD c) (szD c) (sub10 w) y.fst ∧ x_1.snd = y.snd ∧ True)))) ∧ ((0 < (↑(sub10 w).len : Int) → False) → D.nil = madeD c w ∧ szD c = szD c ∧ nD c = nD c ∧ True)) ∧ ∀ (x : Nat × List D), 0 <
x.fst ∧ x.fst ≤ (sub10 w).len ∧ x.snd = ordL (nD c) (sub10 w) x.fst → (sub10 w).len - x.fst < LIM ∧ ((x.fst : Int) < (↑(sub10 w).len : Int) → 0 ≤ (x.fst : Int) ∧ (x.fst : Int) < (↑(sub10 w).len : Int) ∧ (0 : Int) ≤ 0 ∧ 0
≤ min (↑(el (sub10 w) x.fst).len : Int) 20 ∧ min (↑(el (sub10 w) x.fst).len : Int) 20 ≤ (↑(el (sub10 w) x.fst).len : Int) ∧ (∃ (x_1 : Nat × List D), (x_1.fst ≤ (sub20 (el (sub10 w) x.fst)).len ∧ x_1.snd = stepsL (nD c)
x.snd (sub20 (el (sub10 w) x.fst)) x_1.fst) ∧ (0 = (x_1.fst : Int) ∧ True) ∧ x.snd = x_1.snd ∧ True) ∧ ∀ (x_1 : Nat × List D), x_1.fst ≤ (sub20 (el (sub10 w) x.fst)).len ∧ x_1.snd = stepsL (nD c) x.snd (sub20 (el (sub10
w) x.fst)) x_1.fst → (sub20 (el (sub10 w) x.fst)).len - x_1.fst < LIM ∧ ((x_1.fst : Int) < (↑(sub20 (el (sub10 w) x.fst)).len : Int) → 0 ≤ (x_1.fst : Int) ∧ (x_1.fst : Int) < (↑(sub20 (el (sub10 w) x.fst)).len : Int) ∧
(0 : Int) ≤ 0 ∧ 0 < (↑(2 : Nat) : Int) ∧ (nD c = 0 → False) ∧ (0 : Int) ≤ 1 ∧ 1 < (↑(2 : Nat) : Int) ∧ (nD c = 0 → False) ∧ 0 ≤ swA (nD c) (el (sub20 (el (sub10 w) x.fst)) x_1.fst) 1 ∧ swA (nD c) (el (sub20 (el (sub10 w)
x.fst)) x_1.fst) 1 < (↑(nD c).toNat : Int) ∧ (swA (nD c) (el (sub20 (el (sub10 w) x.fst)) x_1.fst) 1).toNat < x_1.snd.length ∧ 0 ≤ swA (nD c) (el (sub20 (el (sub10 w) x.fst)) x_1.fst) 0 ∧ swA (nD c) (el (sub20 (el (sub10
w) x.fst)) x_1.fst) 0 < (↑(nD c).toNat : Int) ∧ (swA (nD c) (el (sub20 (el (sub10 w) x.fst)) x_1.fst) 0).toNat < x_1.snd.length ∧ 0 ≤ swA (nD c) (el (sub20 (el (sub10 w) x.fst)) x_1.fst) 0 ∧ swA (nD c) (el (sub20 (el
(sub10 w) x.fst)) x_1.fst) 0 < (↑(nD c).toNat : Int) ∧ (swA (nD c) (el (sub20 (el (sub10 w) x.fst)) x_1.fst) 0).toNat < x_1.snd.length ∧ 0 ≤ swA (nD c) (el (sub20 (el (sub10 w) x.fst)) x_1.fst) 1 ∧ swA (nD c) (el (sub20
(el (sub10 w) x.fst)) x_1.fst) 1 < (↑(nD c).toNat : Int) ∧ (swA (nD c) (el (sub20 (el (sub10 w) x.fst)) x_1.fst) 1).toNat < (x_1.snd.set (swA (nD c) (el (sub20 (el (sub10 w) x.fst)) x_1.fst) 0).toNat (D.int (nthD x_1.snd
(swA (nD c) (el (sub20 (el (sub10 w) x.fst)) x_1.fst) 1).toNat).asInt)).length ∧ fits64 ((x_1.fst : Int) + 1) ∧ ∃ (y : Nat × List D), (y.fst ≤ (sub20 (el (sub10 w) x.fst)).len ∧ y.snd = stepsL (nD c) x.snd (sub20 (el
(sub10 w) x.fst)) y.fst) ∧ (sub20 (el (sub10 w) x.fst)).len - y.fst < (sub20 (el (sub10 w) x.fst)).len - x_1.fst ∧ ((x_1.fst : Int) + 1 = (y.fst : Int) ∧ True) ∧ (x_1.snd.set (swA (nD c) (el (sub20 (el (sub10 w) x.fst))
x_1.fst) 0).toNat (D.int (nthD x_1.snd (swA (nD c) (el (sub20 (el (sub10 w) x.fst)) x_1.fst) 1).toNat).asInt)).set (swA (nD c) (el (sub20 (el (sub10 w) x.fst)) x_1.fst) 1).toNat (D.int (nthD x_1.snd (swA (nD c) (el
(sub20 (el (sub10 w) x.fst)) x_1.fst) 0).toNat).asInt) = y.snd ∧ True) ∧ (((x_1.fst : Int) < (↑(sub20 (el (sub10 w) x.fst)).len : Int) → False) → ((∃ (x : Nat), x = 0 ∧ ((0 : Int) = 0 ∧ True ∧ (0 : Int) = 0 ∧ True) ∧
True) ∨ ∃ (x : Nat), (0 < x ∧ x ≤ (szD c).len) ∧ (0 = (x : Int) ∧ False ∧ 0 = offZ (szD c) x ∧ True) ∧ False ∧ True) ∧ (∀ (x_2 : Nat), x_2 = 0 → (szD c).len - x_2 < LIM ∧ (0 < (↑(szD c).len : Int) → (0 : Int) ≤ 0 ∧ 0 <
(↑(szD c).len : Int) ∧ fits64 (0 + nAt (szD c) 0) ∧ (0 : Int) ≤ 0 ∧ 0 ≤ 0 + nAt (szD c) 0 ∧ ((↑(nD c).toNat : Int) - (0 + nAt (szD c) 0)).NonNeg ∧ 0 + ((0 + nAt (szD c) 0).toNat - 0) ≤ x_1.snd.length ∧ ((0 + nAt (szD c)
0).toNat - 0 = 0 → 0 + 0 ≤ ([] : List D).length ∧ 0 + 1 ≤ [D.list (List.take 0 ([] : List D))].length ∧ (1 : Nat) ≤ 16777216 ∧ fits64 (0 + nAt (szD c) 0) ∧ fits64 (0 + 1) ∧ ((∃ (y : Nat), y = 0 ∧ (szD c).len - y < (szD
c).len - x_2 ∧ ((0 : Int) + 1 = 0 ∧ False ∧ 0 + nAt (szD c) 0 = 0 ∧ True) ∧ True) ∨ ∃ (y : Nat), (0 < y ∧ y ≤ (szD c).len) ∧ (szD c).len - y < (szD c).len - x_2 ∧ (0 + 1 = (y : Int) ∧ ((0 : Nat) = 0 ∧ 1 = y ∧ True) ∧ 0 +
nAt (szD c) 0 = offZ (szD c) y ∧ True) ∧ List.take 1 [D.list (List.take 0 ([] : List D))] = tabL x_1.snd (szD c) y ∧ True)) ∧ (0 < (0 + nAt (szD c) 0).toNat - 0 → 0 + 0 ≤ ([] : List D).length ∧ 0 + ((0 + nAt (szD c)
0).toNat - 0) ≤ 16777216 ∧ (0 + ((0 + nAt (szD c) 0).toNat - 0) ≤ 0 → 0 + 0 + ((0 + nAt (szD c) 0).toNat - 0) ≤ ([] : List D).length ∧ 0 + ((0 + nAt (szD c) 0).toNat - 0) ≤ (List.take (0 + 0) ([] : List D) ++ List.take
((0 + nAt (szD c) 0).toNat - 0) x_1.snd ++ List.drop (0 + 0 + ((0 + nAt (szD c) 0).toNat - 0)) []).length ∧ 0 + 1 ≤ [D.list (List.take ((0 + nAt (szD c) 0).toNat - 0) (List.take (0 + 0) ([] : List D) ++ List.take ((0 +
nAt (szD c) 0).toNat - 0) x_1.snd ++ List.drop (0 + 0 + ((0 + nAt (szD c) 0).toNat - 0)) []))].length ∧ (1 : Nat) ≤ 16777216 ∧ fits64 (0 + nAt (szD c) 0) ∧ fits64 (0 + 1) ∧ ((∃ (y : Nat), y = 0 ∧ (szD c).len - y < (szD
c).len - x_2 ∧ ((0 : Int) + 1 = 0 ∧ False ∧ 0 + nAt (szD c) 0 = 0 ∧ True) ∧ True) ∨ ∃ (y : Nat), (0 < y ∧ y ≤ (szD c).len) ∧ (szD c).len - y < (szD c).len - x_2 ∧ (0 + 1 = (y : Int) ∧ ((0 : Nat) = 0 ∧ 1 = y ∧ True) ∧ 0 +
nAt (szD c) 0 = offZ (szD c) y ∧ True) ∧ List.take 1 [D.list (List.take ((0 + nAt (szD c) 0).toNat - 0) (List.take (0 + 0) ([] : List D) ++ List.take ((0 + nAt (szD c) 0).toNat - 0) x_1.snd ++ List.drop (0 + 0 + ((0 +
nAt (szD c) 0).toNat - 0)) []))] = tabL x_1.snd (szD c) y ∧ True)) ∧ (0 < 0 + ((0 + nAt (szD c) 0).toNat - 0) → 0 + ((0 + nAt (szD c) 0).toNat - 0) ≤ (List.take 0 ([] : List D) ++ List.take ((0 + nAt (szD c) 0).toNat -
0) x_1.snd).length ∧ 0 + 1 ≤ [D.list (List.take ((0 + nAt (szD c) 0).toNat - 0) (List.take 0 ([] : List D) ++ List.take ((0 + nAt (szD c) 0).toNat - 0) x_1.snd))].length ∧ (1 : Nat) ≤ 16777216 ∧ fits64 (0 + nAt (szD c)
0) ∧ fits64 (0 + 1) ∧ ((∃ (y : Nat), y = 0 ∧ (szD c).len - y < (szD c).len - x_2 ∧ ((0 : Int) + 1 = 0 ∧ False ∧ 0 + nAt (szD c) 0 = 0 ∧ True) ∧ True) ∨ ∃ (y : Nat), (0 < y ∧ y ≤ (szD c).len) ∧ (szD c).len - y < (szD
c).len - x_2 ∧ (0 + 1 = (y : Int) ∧ ((0 : Nat) = 0 ∧ 1 = y ∧ True) ∧ 0 + nAt (szD c) 0 = offZ (szD c) y ∧ True) ∧ List.take 1 [D.list (List.take ((0 + nAt (szD c) 0).toNat - 0) (List.take 0 ([] : List D) ++ List.take ((0
+ nAt (szD c) 0).toNat - 0) x_1.snd))] = tabL x_1.snd (szD c) y ∧ True)))) ∧ ((0 < (↑(szD c).len : Int) → False) → 0 + 1 ≤ ([D.nil] : List D).length ∧ 0 + x.fst ≤ (outL (nD c) (szD c) (sub10 w) x.fst).length ∧ x.fst + 1
≤ 16777216 ∧ fits64 ((x.fst : Int) + 1) ∧ ((∃ (y : Nat × List D), (y.fst = 0 ∧ y.snd = ordL (nD c) (sub10 w) 0) ∧ (sub10 w).len - y.fst < (sub10 w).len - x.fst ∧ ((x.fst : Int) + 1 = 0 ∧ False ∧ True) ∧ x_1.snd = y.snd ∧
True) ∨ ∃ (y : Nat × List D), (0 < y.fst ∧ y.fst ≤ (sub10 w).len ∧ y.snd = ordL (nD c) (sub10 w) y.fst) ∧ (sub10 w).len - y.fst < (sub10 w).len - x.fst ∧ ((x.fst : Int) + 1 = (y.fst : Int) ∧ ((0 : Nat) = 0 ∧ x.fst + 1 =
y.fst ∧ True) ∧ True) ∧ List.take x.fst (outL (nD c) (szD c) (sub10 w) x.fst) ++ List.take 1 [D.nil] = outL (nD c) (szD c) (sub10 w) y.fst ∧ x_1.snd = y.snd ∧ True))) ∧ ∀ (x_2 : Nat), 0 < x_2 ∧ x_2 ≤ (szD c).len → (szD
c).len - x_2 < LIM ∧ ((x_2 : Int) < (↑(szD c).len : Int) → 0 ≤ (x_2 : Int) ∧ (x_2 : Int) < (↑(szD c).len : Int) ∧ fits64 (offZ (szD c) x_2 + nAt (szD c) x_2) ∧ 0 ≤ offZ (szD c) x_2 ∧ offZ (szD c) x_2 ≤ offZ (szD c) x_2 +
nAt (szD c) x_2 ∧ ((↑(nD c).toNat : Int) - (offZ (szD c) x_2 + nAt (szD c) x_2)).NonNeg ∧ (offZ (szD c) x_2).toNat + ((offZ (szD c) x_2 + nAt (szD c) x_2).toNat - (offZ (szD c) x_2).toNat) ≤ x_1.snd.length ∧ ((offZ (szD
c) x_2 + nAt (szD c) x_2).toNat - (offZ (szD c) x_2).toNat = 0 → 0 + 0 ≤ ([] : List D).length ∧ 0 + 1 ≤ [D.list (List.take 0 ([] : List D))].length ∧ 0 + x_2 ≤ (tabL x_1.snd (szD c) x_2).length ∧ x_2 + 1 ≤ 16777216 ∧
fits64 (offZ (szD c) x_2 + nAt (szD c) x_2) ∧ fits64 ((x_2 : Int) + 1) ∧ ((∃ (y : Nat), y = 0 ∧ (szD c).len - y < (szD c).len - x_2 ∧ ((x_2 : Int) + 1 = 0 ∧ False ∧ offZ (szD c) x_2 + nAt (szD c) x_2 = 0 ∧ True) ∧ True)
∨ ∃ (y : Nat), (0 < y ∧ y ≤ (szD c).len) ∧ (szD c).len - y < (szD c).len - x_2 ∧ ((x_2 : Int) + 1 = (y : Int) ∧ ((0 : Nat) = 0 ∧ x_2 + 1 = y ∧ True) ∧ offZ (szD c) x_2 + nAt (szD c) x_2 = offZ (szD c) y ∧ True) ∧
List.take x_2 (tabL x_1.snd (szD c) x_2) ++ List.take 1 [D.list (List.take 0 ([] : List D))] = tabL x_1.snd (szD c) y ∧ True)) ∧ (0 < (offZ (szD c) x_2 + nAt (szD c) x_2).toNat - (offZ (szD c) x_2).toNat → 0 + 0 ≤ ([] :
List D).length ∧ 0 + ((offZ (szD c) x_2 + nAt (szD c) x_2).toNat - (offZ (szD c) x_2).toNat) ≤ 16777216 ∧ (0 + ((offZ (szD c) x_2 + nAt (szD c) x_2).toNat - (offZ (szD c) x_2).toNat) ≤ 0 → 0 + 0 + ((offZ (szD c) x_2 +
nAt (szD c) x_2).toNat - (offZ (szD c) x_2).toNat) ≤ ([] : List D).length ∧ 0 + ((offZ (szD c) x_2 + nAt (szD c) x_2).toNat - (offZ (szD c) x_2).toNat) ≤ (List.take (0 + 0) ([] : List D) ++ List.take ((offZ (szD c) x_2 +
nAt (szD c) x_2).toNat - (offZ (szD c) x_2).toNat) (List.drop (offZ (szD c) x_2).toNat x_1.snd) ++ List.drop (0 + 0 + ((offZ (szD c) x_2 + nAt (szD c) x_2).toNat - (offZ (szD c) x_2).toNat)) []).length ∧ 0 + 1 ≤ [D.list
(List.take ((offZ (szD c) x_2 + nAt (szD c) x_2).toNat - (offZ (szD c) x_2).toNat) (List.take (0 + 0) ([] : List D) ++ List.take ((offZ (szD c) x_2 + nAt (szD c) x_2).toNat - (offZ (szD c) x_2).toNat) (List.drop (offZ
(szD c) x_2).toNat x_1.snd) ++ List.drop (0 + 0 + ((offZ (szD c) x_2 + nAt (szD c) x_2).toNat - (offZ (szD c) x_2).toNat)) []))].length ∧ 0 + x_2 ≤ (tabL x_1.snd (szD c) x_2).length ∧ x_2 + 1 ≤ 16777216 ∧ fits64 (offZ
(szD c) x_2 + nAt (szD c) x_2) ∧ fits64 ((x_2 : Int) + 1) ∧ ((∃ (y : Nat), y = 0 ∧ (szD c).len - y < (szD c).len - x_2 ∧ ((x_2 : Int) + 1 = 0 ∧ False ∧ offZ (szD c) x_2 + nAt (szD c) x_2 = 0 ∧ True) ∧ True) ∨ ∃ (y :
Nat), (0 < y ∧ y ≤ (szD c).len) ∧ (szD c).len - y < (szD c).len - x_2 ∧ ((x_2 : Int) + 1 = (y : Int) ∧ ((0 : Nat) = 0 ∧ x_2 + 1 = y ∧ True) ∧ offZ (szD c) x_2 + nAt (szD c) x_2 = offZ (szD c) y ∧ True) ∧ List.take x_2
(tabL x_1.snd (szD c) x_2) ++ List.take 1 [D.list (List.take ((offZ (szD c) x_2 + nAt (szD c) x_2).toNat - (offZ (szD c) x_2).toNat) (List.take (0 + 0) ([] : List D) ++ List.take ((offZ (szD c) x_2 + nAt (szD c)
x_2).toNat - (offZ (szD c) x_2).toNat) (List.drop (offZ (szD c) x_2).toNat x_1.snd) ++ List.drop (0 + 0 + ((offZ (szD c) x_2 + nAt (szD c) x_2).toNat - (offZ (szD c) x_2).toNat)) []))] = tabL x_1.snd (szD c) y ∧ True)) ∧
(0 < 0 + ((offZ (szD c) x_2 + nAt (szD c) x_2).toNat - (offZ (szD c) x_2).toNat) → 0 + ((offZ (szD c) x_2 + nAt (szD c) x_2).toNat - (offZ (szD c) x_2).toNat) ≤ (List.take 0 ([] : List D) ++ List.take ((offZ (szD c) x_2
+ nAt (szD c) x_2).toNat - (offZ (szD c) x_2).toNat) (List.drop (offZ (szD c) x_2).toNat x_1.snd)).length ∧ 0 + 1 ≤ [D.list (List.take ((offZ (szD c) x_2 + nAt (szD c) x_2).toNat - (offZ (szD c) x_2).toNat) (List.take 0
([] : List D) ++ List.take ((offZ (szD c) x_2 + nAt (szD c) x_2).toNat - (offZ (szD c) x_2).toNat) (List.drop (offZ (szD c) x_2).toNat x_1.snd)))].length ∧ 0 + x_2 ≤ (tabL x_1.snd (szD c) x_2).length ∧ x_2 + 1 ≤ 16777216
∧ fits64 (offZ (szD c) x_2 + nAt (szD c) x_2) ∧ fits64 ((x_2 : Int) + 1) ∧ ((∃ (y : Nat), y = 0 ∧ (szD c).len - y < (szD c).len - x_2 ∧ ((x_2 : Int) + 1 = 0 ∧ False ∧ offZ (szD c) x_2 + nAt (szD c) x_2 = 0 ∧ True) ∧
True) ∨ ∃ (y : Nat), (0 < y ∧ y ≤ (szD c).len) ∧ (szD c).len - y < (szD c).len - x_2 ∧ ((x_2 : Int) + 1 = (y : Int) ∧ ((0 : Nat) = 0 ∧ x_2 + 1 = y ∧ True) ∧ offZ (szD c) x_2 + nAt (szD c) x_2 = offZ (szD c) y ∧ True) ∧
List.take x_2 (tabL x_1.snd (szD c) x_2) ++ List.take 1 [D.list (List.take ((offZ (szD c) x_2 + nAt (szD c) x_2).toNat - (offZ (szD c) x_2).toNat) (List.take 0 ([] : List D) ++ List.take ((offZ (szD c) x_2 + nAt (szD c)
x_2).toNat - (offZ (szD c) x_2).toNat) (List.drop (offZ (szD c) x_2).toNat x_1.snd)))] = tabL x_1.snd (szD c) y ∧ True)))) ∧ (((x_2 : Int) < (↑(szD c).len : Int) → False) → 0 + x_2 ≤ (tabL x_1.snd (szD c) x_2).length ∧ 0
+ 1 ≤ [D.list (List.take x_2 (tabL x_1.snd (szD c) x_2))].length ∧ 0 + x.fst ≤ (outL (nD c) (szD c) (sub10 w) x.fst).length ∧ x.fst + 1 ≤ 16777216 ∧ fits64 ((x.fst : Int) + 1) ∧ ((∃ (y : Nat × List D), (y.fst = 0 ∧ y.snd
= ordL (nD c) (sub10 w) 0) ∧ (sub10 w).len - y.fst < (sub10 w).len - x.fst ∧ ((x.fst : Int) + 1 = 0 ∧ False ∧ True) ∧ x_1.snd = y.snd ∧ True) ∨ ∃ (y : Nat × List D), (0 < y.fst ∧ y.fst ≤ (sub10 w).len ∧ y.snd = ordL (nD
c) (sub10 w) y.fst) ∧ (sub10 w).len - y.fst < (sub10 w).len - x.fst ∧ ((x.fst : Int) + 1 = (y.fst : Int) ∧ ((0 : Nat) = 0 ∧ x.fst + 1 = y.fst ∧ True) ∧ True) ∧ List.take x.fst (outL (nD c) (szD c) (sub10 w) x.fst) ++
List.take 1 [D.list (List.take x_2 (tabL x_1.snd (szD c) x_2))] = outL (nD c) (szD c) (sub10 w) y.fst ∧ x_1.snd = y.snd ∧ True)))) ∧ (((x.fst : Int) < (↑(sub10 w).len : Int) → False) → (0 + x.fst ≤ (outL (nD c) (szD c)
(sub10 w) x.fst).length ∧ D.list (List.take x.fst (outL (nD c) (szD c) (sub10 w) x.fst)) = madeD c w) ∧ szD c = szD c ∧ nD c = nD c ∧ True))) := by intros; kernel_rfl
theorem nth_map {α : Type} (f : Nat → D) (n i : Nat) (hi : i < n) : nthD ((List.range n).map f) i = f i := by
 unfold nthD
 rw [List.getElem?_map, List.getElem?_range hi]; rfl
theorem nthD_setM (l : List D) (i : Nat) (a : D) (hi : i < l.length) : nthD (l.set i a) i = a := by
 unfold nthD
 rw [List.getElem?_set_self hi]; rfl
structure szP (c : D) : Prop where
 n1 : 1 ≤ nD c ∧ nD c ≤ 48
 l1 : 1 ≤ (szD c).len ∧ (szD c).len ≤ 8
 at1 : ∀ j, j < (szD c).len → 1 ≤ nAt (szD c) j ∧ nAt (szD c) j ≤ 6
 off : ∀ j, j ≤ (szD c).len → 0 ≤ offZ (szD c) j ∧ offZ (szD c) j ≤ nD c
 all : offZ (szD c) (szD c).len = nD c
theorem sz_p {c : D} (h : u8L c) : szP c := by
 have h8 := sub8_len c
 by_cases hk : kS c = 0
 ·have e1 : szD c = .list [.int 1] := by unfold szD; rw [if_pos hk]
  have e2 : nD c = 1 := by unfold nD; rw [if_pos hk]
  rw [show szP c ↔ szP c from Iff.rfl]
  refine ⟨by omega, by rw [e1]; exact ⟨Nat.le_refl 1, by show 1 ≤ 8; omega⟩, fun j hj => ?_, fun j hj => ?_, by rw [e1, e2]; rfl⟩
  ·rw [e1] at hj ⊢
   have : j = 0 := by have : j < 1 := hj; omega
   subst this
   exact ⟨by decide, by decide⟩
  ·rw [e1] at hj; rw [e1, e2]
   have : j ≤ 1 := hj
   rcases (show j = 0 ∨ j = 1 by omega) with rfl | rfl
   ·exact ⟨by decide, by decide⟩
   ·exact ⟨by decide, by decide⟩
 ·have e1 : szD c = .list (szL (sub8 c) (kS c)) := by unfold szD; rw [if_neg hk]
  have e2 : nD c = sumF (sub8 c) (kS c) := by unfold nD; rw [if_neg hk]
  have kk : kS c = (sub8 c).len := rfl
  have el1 : (szD c).len = kS c := by rw [e1]; exact szL_len _ _
  have ea : ∀ j, j < kS c → nAt (szD c) j = szF (sub8 c) j := fun j hj => by
   rw [e1]
   show (nthD (szL (sub8 c) (kS c)) j).asInt = _
   have := nth_map (α := D) (fun i => .int (szF (sub8 c) i)) (kS c) j hj
   show (nthD ((List.range (kS c)).map fun i => .int (szF (sub8 c) i)) j).asInt = _
   rw [this]; rfl
  have eo : ∀ j, j ≤ kS c → offZ (szD c) j = sumF (sub8 c) j := fun j => by
   induction j with
   | zero => exact fun _ => rfl
   | succ j ih =>
    intro hj
    show offZ (szD c) j + nAt (szD c) j = sumF (sub8 c) j + szF (sub8 c) j
    rw [ih (by omega), ea j (by omega)]
  have mono : ∀ k j, j + k ≤ kS c → sumF (sub8 c) j ≤ sumF (sub8 c) (j + k) := fun k => by
   induction k with
   | zero => exact fun j _ => Int.le_refl _
   | succ k ih =>
    intro j hj
    have h1 := ih j (by omega)
    have h2 := sz_rng h (i := j + k) (by omega)
    have e : sumF (sub8 c) (j + (k + 1)) = sumF (sub8 c) (j + k) + szF (sub8 c) (j + k) := rfl
    omega
  have q := sum_rng h (kS c) (by omega)
  refine ⟨by omega, by omega, fun j hj => ?_, fun j hj => ?_, by rw [el1, eo _ (Nat.le_refl _), e2]⟩
  ·rw [ea j (by omega)]; exact sz_rng h (by omega)
  ·rw [eo j (by omega), e2]
   have := sum_rng h j (by omega)
   have := mono (kS c - j) j (by omega)
   rw [show j + (kS c - j) = kS c by omega] at this
   omega
theorem id_len (n : Nat) : (idL n).length = n := by unfold idL; rw [List.length_map, List.length_range]
theorem id_succ (n : Nat) : idL n ++ [.int (n : Nat)] = idL (n + 1) := by unfold idL; rw [List.range_succ, List.map_append]; rfl
theorem steps_len (n : Int) (l : List D) (w : D) : ∀ j, (stepsL n l w j).length = l.length
 | 0 => rfl
 | j + 1 => by unfold stepsL swap1; rw [List.length_set, List.length_set, steps_len n l w j]
theorem ord_len (n : Int) (w : D) : ∀ i, (ordL n w i).length = n.toNat
 | 0 => id_len _
 | i + 1 => by unfold ordL; rw [steps_len, ord_len n w i]
theorem tab_len (o : List D) (sz : D) (z : Nat) : (tabL o sz z).length = z := by unfold tabL; rw [List.length_map, List.length_range]
theorem tab_succ (o : List D) (sz : D) (z : Nat) : tabL o sz z ++ [.list ((o.drop (offZ sz z).toNat).take (nAt sz z).toNat)] = tabL o sz (z + 1) := by unfold tabL; rw [List.range_succ, List.map_append]; rfl
theorem out_len (n : Int) (sz w : D) (x : Nat) : (outL n sz w x).length = x := by unfold outL; rw [List.length_map, List.length_range]
theorem out_succ (n : Int) (sz w : D) (x : Nat) : outL n sz w x ++ [.list (tabL (ordL n w (x + 1)) sz sz.len)] = outL n sz w (x + 1) := by unfold outL; rw [List.range_succ, List.map_append]; rfl
theorem sw_rng {n : Int} (hn : 1 ≤ n ∧ n ≤ 48) {q : D} {j : Nat} (h : 0 ≤ (q.fld j).asInt ∧ (q.fld j).asInt < 256) : 0 ≤ swA n q j ∧ swA n q j < n := by
 unfold swA
 have e : IntKind.i64.wrap ((q.fld j).asInt) = (q.fld j).asInt := by
  obtain ⟨m, hm⟩ : ∃ m : Nat, (q.fld j).asInt = m := ⟨(q.fld j).asInt.toNat, by omega⟩
  rw [hm]; unfold IntKind.wrap; simp [IntKind.signed, IntKind.bits]; omega
 rw [e, Int.tmod_eq_emod_of_nonneg h.1]
 exact ⟨Int.emod_nonneg _ (by omega), Int.emod_lt_of_pos _ (by omega)⟩
theorem take1 (a : D) : List.take 1 [a] = [a] := rfl
theorem tab_1 {o : List D} {Z : D} {k : Nat} (hk : k = (nAt Z 0).toNat) : List.take 1 [D.list (List.take k (List.take 0 ([] : List D) ++ List.take k o))] = tabL o Z 1 := by
 rw [take1, show List.take 0 ([] : List D) ++ List.take k o = List.take k o from rfl, List.take_take, Nat.min_self, hk]
 exact tab_succ o Z 0
theorem tab_z {o : List D} {Z : D} {z k : Nat} (hk : k = (nAt Z z).toNat) : List.take z (tabL o Z z) ++ List.take 1 [D.list (List.take k (List.take 0 ([] : List D) ++ List.take k (List.drop (offZ Z z).toNat o)))] = tabL o Z (z + 1) := by
 rw [take1, show List.take 0 ([] : List D) ++ List.take k (List.drop (offZ Z z).toNat o) = List.take k (List.drop (offZ Z z).toNat o) from rfl, List.take_take, Nat.min_self, hk, List.take_of_length_le (by rw [tab_len]; omega)]
 exact tab_succ o Z z
theorem w_at {w : D} (h : u8W w) {i j : Nat} (hi : i < (sub10 w).len) (hj : j < (sub20 (el (sub10 w) i)).len) :
  (0 ≤ ((el (sub20 (el (sub10 w) i)) j).fld 0).asInt ∧ ((el (sub20 (el (sub10 w) i)) j).fld 0).asInt < 256) ∧ (0 ≤ ((el (sub20 (el (sub10 w) i)) j).fld 1).asInt ∧ ((el (sub20 (el (sub10 w) i)) j).fld 1).asInt < 256) := by
 rw [sub20_el _ hj, sub10_el _ hi]
 have h1 := sub10_len w
 have h2 := sub20_len (el (sub10 w) i)
 rw [sub10_el _ hi] at h2 hj
 exact h.out i j (by omega) (by omega)
theorem s6z (c w : D) (h : u8L c ∧ u8W w) : symFun (ctx mz1 mzAnn) 4 4 [.dat 22 c, .dat 23 w] (.tup [.dat 24 (madeD c w), .dat 25 (szD c), .int .i64 (nD c)]) := by
 rw [vc6z]
 have hz := sz_p h.1
 have hn := hz.n1
 have hl := hz.l1
 have hw := sub10_len w
 have hne : (nD c = 0 → False) := fun e => by omega
 have aN : ((nD c).toNat : Int) = nD c := by omega
 refine ⟨h.1, by omega, Int.le_refl _, by omega, by omega, ⟨(0, List.replicate (nD c).toNat (.int 0)), ⟨Nat.zero_le _, List.length_replicate, rfl⟩, ⟨rfl, trivial⟩, rfl, trivial⟩, fun x ⟨hx, hxl, hxt⟩ => ⟨lim_of (by omega), fun hlt => ?_, fun hge => ?_⟩⟩
 ·refine ⟨by omega, hlt, by omega, ⟨by omega, by omega⟩, (x.1 + 1, x.2.set x.1 (.int (x.1 : Nat))), ⟨by show x.1 + 1 ≤ (nD c).toNat; omega, by show (x.2.set x.1 _).length = _; rw [List.length_set]; exact hxl, ?_⟩, by show (nD c).toNat - (x.1 + 1) < (nD c).toNat - x.1; omega, ⟨by show (x.1 : Int) + 1 = ((x.1 + 1 : Nat) : Int); omega, trivial⟩, rfl, trivial⟩
  show (x.2.set x.1 _).take (x.1 + 1) = idL (x.1 + 1)
  rw [take_succ_nth (by rw [List.length_set]; omega), List.take_set_of_le (Nat.le_refl _), hxt, nthD_setM _ _ _ (by omega), id_succ]
 have hge := not_of hge
 have ex : x.1 = (nD c).toNat := by omega
 have hid : x.2 = ordL (nD c) (sub10 w) 0 := by
  rw [ex, List.take_of_length_le (by omega)] at hxt
  exact hxt
 refine ⟨by omega, by omega, by omega, .inl ⟨(0, x.2), ⟨rfl, hid⟩, ⟨rfl, trivial, trivial⟩, rfl, trivial⟩, fun p ⟨hp, hp2⟩ => ?_, fun p ⟨hp0, hp, hp2⟩ => ?_⟩
 ·have h20 := sub20_len (el (sub10 w) 0)
  have ol := ord_len (nD c) (sub10 w) 0
  refine ⟨lim_of (by omega), fun hlt => ⟨by omega, hlt, by omega, by omega, by omega, ⟨(0, p.2), ⟨Nat.zero_le _, rfl⟩, ⟨rfl, trivial⟩, rfl, trivial⟩, fun y ⟨hy, hy2⟩ => ⟨lim_of (by omega), fun hlt2 => ?_, fun hge2 => ?_⟩⟩, fun hge1 => ?_⟩
  ·have wr := w_at h.2 (i := 0) (j := y.1) (by omega) (by omega)
   have r0 := sw_rng hn wr.1
   have r1 := sw_rng hn wr.2
   have yl : y.2.length = (nD c).toNat := by rw [hy2, steps_len, hp2, ol]
   refine ⟨by omega, hlt2, by omega, by omega, hne, by omega, by omega, hne, r1.1, by omega, by omega, r0.1, by omega, by omega, r0.1, by omega, by omega, r1.1, by omega, by rw [List.length_set]; omega, ⟨by omega, by omega⟩, (y.1 + 1, _), ⟨by show y.1 + 1 ≤ (sub20 (el (sub10 w) 0)).len; omega, rfl⟩, by show (sub20 (el (sub10 w) 0)).len - (y.1 + 1) < (sub20 (el (sub10 w) 0)).len - y.1; omega, ⟨by show (y.1 : Int) + 1 = ((y.1 + 1 : Nat) : Int); omega, trivial⟩, by rw [hy2], trivial⟩
  ·have hge2 := not_of hge2
   have ey : y.1 = (sub20 (el (sub10 w) 0)).len := by omega
   have yl : y.2.length = (nD c).toNat := by rw [hy2, steps_len, hp2, ol]
   have yo : y.2 = ordL (nD c) (sub10 w) 1 := by rw [hy2, ey, hp2]; rfl
   refine ⟨.inl ⟨0, rfl, ⟨rfl, trivial, rfl, trivial⟩, trivial⟩, fun z hz0 => ?_, fun z ⟨hz0, hz1⟩ => ?_⟩
   ·subst hz0
    have a0 := hz.at1 0 (by omega)
    have o1 := hz.off 1 (by omega)
    have e1 : offZ (szD c) 1 = 0 + nAt (szD c) 0 := rfl
    refine ⟨lim_of (by omega), fun hlt3 => ⟨by omega, hlt3, ⟨by omega, by omega⟩, Int.le_refl _, by omega, nn_of (by omega), by omega, fun hk => absurd hk (by omega), fun _ => ⟨Nat.le_refl _, by omega, fun hk => absurd hk (by omega), fun _ => ⟨?_, Nat.le_refl _, by omega, ⟨by omega, by omega⟩, ⟨by omega, by omega⟩, .inr ⟨1, ⟨by omega, by omega⟩, by omega, ⟨rfl, ⟨rfl, rfl, trivial⟩, e1.symm, trivial⟩, tab_1 (by omega), trivial⟩⟩⟩⟩, fun hge3 => absurd (show (0 : Int) < ((szD c).len : Int) by omega) hge3⟩
    rw [List.length_append, List.length_take, List.length_take]; omega
   ·have oz := hz.off z hz1
    refine ⟨lim_of (by omega), fun hlt3 => ?_, fun hge3 => ?_⟩
    ·have a0 := hz.at1 z (by omega)
     have o1 := hz.off (z + 1) (by omega)
     have e1 : offZ (szD c) (z + 1) = offZ (szD c) z + nAt (szD c) z := rfl
     have tl := tab_len y.2 (szD c) z
     refine ⟨by omega, hlt3, ⟨by omega, by omega⟩, by omega, by omega, nn_of (by omega), by omega, fun hk => absurd hk (by omega), fun _ => ⟨Nat.le_refl _, by omega, fun hk => absurd hk (by omega), fun _ => ⟨?_, Nat.le_refl _, by omega, by omega, ⟨by omega, by omega⟩, ⟨by omega, by omega⟩, .inr ⟨z + 1, ⟨by omega, by omega⟩, by omega, ⟨by omega, ⟨rfl, rfl, trivial⟩, e1.symm, trivial⟩, tab_z (by omega), trivial⟩⟩⟩⟩
     rw [List.length_append, List.length_take, List.length_take, List.length_drop]; omega
    ·have hge3 := not_of hge3
     have ez : z = (szD c).len := by omega
     have tl := tab_len y.2 (szD c) z
     refine ⟨by omega, Nat.le_refl _, by omega, ⟨by omega, by omega⟩, .inr ⟨(1, y.2), ⟨Nat.zero_lt_one, by show 1 ≤ (sub10 w).len; omega, yo⟩, by show (sub10 w).len - 1 < (sub10 w).len - p.1; omega, ⟨rfl, ⟨rfl, rfl, trivial⟩, trivial⟩, ?_, rfl, trivial⟩⟩
     rw [take1, List.take_of_length_le (show (tabL y.2 (szD c) z).length ≤ z by omega), ez, yo]
     exact out_succ (nD c) (szD c) (sub10 w) 0
  ·have hge1 := not_of hge1
   have e : (sub10 w).len = 0 := by omega
   exact ⟨by unfold madeD; rw [e]; rfl, rfl, rfl, trivial⟩
 ·have h20 := sub20_len (el (sub10 w) p.1)
  have ol := ord_len (nD c) (sub10 w) p.1
  have oo := out_len (nD c) (szD c) (sub10 w) p.1
  refine ⟨lim_of (by omega), fun hlt => ⟨by omega, hlt, by omega, by omega, by omega, ⟨(0, p.2), ⟨Nat.zero_le _, rfl⟩, ⟨rfl, trivial⟩, rfl, trivial⟩, fun y ⟨hy, hy2⟩ => ⟨lim_of (by omega), fun hlt2 => ?_, fun hge2 => ?_⟩⟩, fun hge1 => ?_⟩
  ·have wr := w_at h.2 (i := p.1) (j := y.1) (by omega) (by omega)
   have r0 := sw_rng hn wr.1
   have r1 := sw_rng hn wr.2
   have yl : y.2.length = (nD c).toNat := by rw [hy2, steps_len, hp2, ol]
   refine ⟨by omega, hlt2, by omega, by omega, hne, by omega, by omega, hne, r1.1, by omega, by omega, r0.1, by omega, by omega, r0.1, by omega, by omega, r1.1, by omega, by rw [List.length_set]; omega, ⟨by omega, by omega⟩, (y.1 + 1, _), ⟨by show y.1 + 1 ≤ (sub20 (el (sub10 w) p.1)).len; omega, rfl⟩, by show (sub20 (el (sub10 w) p.1)).len - (y.1 + 1) < (sub20 (el (sub10 w) p.1)).len - y.1; omega, ⟨by show (y.1 : Int) + 1 = ((y.1 + 1 : Nat) : Int); omega, trivial⟩, by rw [hy2], trivial⟩
  ·have hge2 := not_of hge2
   have ey : y.1 = (sub20 (el (sub10 w) p.1)).len := by omega
   have yl : y.2.length = (nD c).toNat := by rw [hy2, steps_len, hp2, ol]
   have yo : y.2 = ordL (nD c) (sub10 w) (p.1 + 1) := by rw [hy2, ey, hp2]; rfl
   refine ⟨.inl ⟨0, rfl, ⟨rfl, trivial, rfl, trivial⟩, trivial⟩, fun z hz0 => ?_, fun z ⟨hz0, hz1⟩ => ?_⟩
   ·subst hz0
    have a0 := hz.at1 0 (by omega)
    have o1 := hz.off 1 (by omega)
    have e1 : offZ (szD c) 1 = 0 + nAt (szD c) 0 := rfl
    refine ⟨lim_of (by omega), fun hlt3 => ⟨by omega, hlt3, ⟨by omega, by omega⟩, Int.le_refl _, by omega, nn_of (by omega), by omega, fun hk => absurd hk (by omega), fun _ => ⟨Nat.le_refl _, by omega, fun hk => absurd hk (by omega), fun _ => ⟨?_, Nat.le_refl _, by omega, ⟨by omega, by omega⟩, ⟨by omega, by omega⟩, .inr ⟨1, ⟨by omega, by omega⟩, by omega, ⟨rfl, ⟨rfl, rfl, trivial⟩, e1.symm, trivial⟩, tab_1 (by omega), trivial⟩⟩⟩⟩, fun hge3 => absurd (show (0 : Int) < ((szD c).len : Int) by omega) hge3⟩
    rw [List.length_append, List.length_take, List.length_take]; omega
   ·have oz := hz.off z hz1
    refine ⟨lim_of (by omega), fun hlt3 => ?_, fun hge3 => ?_⟩
    ·have a0 := hz.at1 z (by omega)
     have o1 := hz.off (z + 1) (by omega)
     have e1 : offZ (szD c) (z + 1) = offZ (szD c) z + nAt (szD c) z := rfl
     have tl := tab_len y.2 (szD c) z
     refine ⟨by omega, hlt3, ⟨by omega, by omega⟩, by omega, by omega, nn_of (by omega), by omega, fun hk => absurd hk (by omega), fun _ => ⟨Nat.le_refl _, by omega, fun hk => absurd hk (by omega), fun _ => ⟨?_, Nat.le_refl _, by omega, by omega, ⟨by omega, by omega⟩, ⟨by omega, by omega⟩, .inr ⟨z + 1, ⟨by omega, by omega⟩, by omega, ⟨by omega, ⟨rfl, rfl, trivial⟩, e1.symm, trivial⟩, tab_z (by omega), trivial⟩⟩⟩⟩
     rw [List.length_append, List.length_take, List.length_take, List.length_drop]; omega
    ·have hge3 := not_of hge3
     have ez : z = (szD c).len := by omega
     have tl := tab_len y.2 (szD c) z
     refine ⟨by omega, Nat.le_refl _, by omega, by omega, ⟨by omega, by omega⟩, .inr ⟨(p.1 + 1, y.2), ⟨Nat.succ_pos _, by show p.1 + 1 ≤ (sub10 w).len; omega, yo⟩, by show (sub10 w).len - (p.1 + 1) < (sub10 w).len - p.1; omega, ⟨by show (p.1 : Int) + 1 = ((p.1 + 1 : Nat) : Int); omega, ⟨rfl, rfl, trivial⟩, trivial⟩, ?_, rfl, trivial⟩⟩
     rw [List.take_of_length_le (by omega : (tabL y.2 (szD c) z).length ≤ z), ez, yo, List.take_of_length_le (by omega)]
     exact out_succ (nD c) (szD c) (sub10 w) p.1
  ·have hge1 := not_of hge1
   have e : p.1 = (sub10 w).len := by omega
   refine ⟨⟨by omega, ?_⟩, rfl, rfl, trivial⟩
   rw [List.take_of_length_le (by omega), e]
   unfold madeD listD
   cases hc : outL (nD c) (szD c) (sub10 w) (sub10 w).len with
   | nil => rw [e, hc] at oo; simp at oo; omega
   | cons a l => rfl
structure allI (l : List D) : Prop where
 out : ∀ d, d ∈ l → ∃ n : Int, d = .int n
theorem nthD_at {l : List D} {i : Nat} (h : i < l.length) : nthD l i = l[i] := by simp [nthD, List.getElem?_eq_getElem h]
theorem int_nth {l : List D} (h : allI l) {i : Nat} (hi : i < l.length) : (.int (nthD l i).asInt : D) = l[i] := by
 rw [nthD_at hi]
 obtain ⟨n, e⟩ := h.out _ (List.getElem_mem hi)
 rw [e]; rfl
theorem swap_perm {l : List D} (h : allI l) {a b : Nat} (ha : a < l.length) (hb : b < l.length) : (swap1 l a b).Perm l := by
 unfold swap1
 rw [int_nth h ha, int_nth h hb]
 exact List.set_set_perm ha hb
theorem allI_perm {l l' : List D} (h : allI l) (p : l'.Perm l) : allI l' := ⟨fun d hd => h.out d (p.mem_iff.1 hd)⟩
theorem allI_id (n : Nat) : allI (idL n) := ⟨fun d hd => by
 obtain ⟨i, _, rfl⟩ := List.mem_map.1 hd
 exact ⟨_, rfl⟩⟩
theorem steps_perm {n : Int} {l : List D} {w : D} (h : allI l) (hs : ∀ j, j < w.len → (0 ≤ swA n (el w j) 0 ∧ swA n (el w j) 0 < l.length) ∧ (0 ≤ swA n (el w j) 1 ∧ swA n (el w j) 1 < l.length)) : ∀ j, j ≤ w.len → (stepsL n l w j).Perm l
 | 0, _ => .refl _
 | j + 1, hj => by
  have ih := steps_perm h hs j (by omega)
  have q := hs j (by omega)
  have hl := steps_len n l w j
  unfold stepsL
  exact (swap_perm (allI_perm h ih) (by omega) (by omega)).trans ih
theorem ord_perm {c w : D} (hc : u8L c) (hw : u8W w) : ∀ i, i ≤ (sub10 w).len → (ordL (nD c) (sub10 w) i).Perm (idL (nD c).toNat)
 | 0, _ => .refl _
 | i + 1, hi => by
  have hn := (sz_p hc).n1
  have ih := ord_perm hc hw i (by omega)
  have ol := ord_len (nD c) (sub10 w) i
  unfold ordL
  refine (steps_perm (allI_perm (allI_id _) ih) (fun j hj => ?_) _ (Nat.le_refl _)).trans ih
  have wr := w_at hw (i := i) (j := j) (by omega) hj
  have r0 := sw_rng hn wr.1
  have r1 := sw_rng hn wr.2
  exact ⟨⟨r0.1, by omega⟩, r1.1, by omega⟩
theorem flat_tab {o : List D} {sz : D} : ∀ z, (∀ j, j < z → 0 ≤ nAt sz j ∧ 0 ≤ offZ sz j) → ((tabL o sz z).map D.asList).flatten = o.take (offZ sz z).toNat
 | 0, _ => rfl
 | z + 1, h => by
  rw [← tab_succ, List.map_append, List.flatten_append, flat_tab z (fun j hj => h j (by omega))]
  have q := h z (by omega)
  have e : offZ sz (z + 1) = offZ sz z + nAt sz z := rfl
  rw [e, show (offZ sz z + nAt sz z).toNat = (offZ sz z).toNat + (nAt sz z).toNat by omega, List.take_add]
  show _ ++ ((([D.list ((o.drop (offZ sz z).toNat).take (nAt sz z).toNat)]).map D.asList).flatten) = _
  simp [D.asList]
theorem made_len (c w : D) : (madeD c w).len = (sub10 w).len := by
 unfold madeD listD
 have := out_len (nD c) (szD c) (sub10 w) (sub10 w).len
 cases h : outL (nD c) (szD c) (sub10 w) (sub10 w).len with
 | nil => rw [h] at this; exact this
 | cons a l => rw [h] at this; exact this
theorem made_list (c w : D) : (madeD c w).asList = outL (nD c) (szD c) (sub10 w) (sub10 w).len := by
 unfold madeD listD
 cases outL (nD c) (szD c) (sub10 w) (sub10 w).len <;> rfl
theorem made_el {c w : D} {i : Nat} (hi : i < (madeD c w).len) : el (madeD c w) i = .list (tabL (ordL (nD c) (sub10 w) (i + 1)) (szD c) (szD c).len) := by
 rw [made_len] at hi
 unfold el
 rw [made_list]
 exact nth_map (α := D) (fun i => .list (tabL (ordL (nD c) (sub10 w) (i + 1)) (szD c) (szD c).len)) _ _ hi
theorem made_flat {c w : D} (hc : u8L c) (hw : u8W w) {i : Nat} (hi : i < (madeD c w).len) : (((el (madeD c w) i).asList.map D.asList).flatten).Perm (idL (nD c).toNat) := by
 have hz := sz_p hc
 rw [made_el hi]
 show (((tabL (ordL (nD c) (sub10 w) (i + 1)) (szD c) (szD c).len).map D.asList).flatten).Perm _
 rw [flat_tab _ (fun j hj => ⟨by have := hz.at1 j hj; omega, (hz.off j (by omega)).1⟩), hz.all, List.take_of_length_le (by rw [ord_len]; omega)]
 rw [made_len] at hi
 exact ord_perm hc hw (i + 1) (by omega)
theorem made_tab {c w : D} (hc : u8L c) {i j : Nat} (hi : i < (madeD c w).len) (hj : j < (szD c).len) : ((el (el (madeD c w) i) j).len : Int) = nAt (szD c) j := by
 have hz := sz_p hc
 rw [made_el hi]
 have e : el (.list (tabL (ordL (nD c) (sub10 w) (i + 1)) (szD c) (szD c).len)) j = .list (((ordL (nD c) (sub10 w) (i + 1)).drop (offZ (szD c) j).toNat).take (nAt (szD c) j).toNat) := nth_map (α := D) (fun j => .list (((ordL (nD c) (sub10 w) (i + 1)).drop (offZ (szD c) j).toNat).take (nAt (szD c) j).toNat)) _ _ hj
 rw [e]
 show ((((ordL (nD c) (sub10 w) (i + 1)).drop (offZ (szD c) j).toNat).take (nAt (szD c) j).toNat).length : Int) = _
 rw [List.length_take, List.length_drop, ord_len]
 have h1 := hz.at1 j hj
 have h2 := hz.off j (by omega)
 have h3 := hz.off (j + 1) (by omega)
 have e1 : offZ (szD c) (j + 1) = offZ (szD c) j + nAt (szD c) j := rfl
 omega
end Go.Ev
