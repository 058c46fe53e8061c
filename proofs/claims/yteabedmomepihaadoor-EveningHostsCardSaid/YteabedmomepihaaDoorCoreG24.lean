/-
  Part of the engine that the claim is proved with: it states nothing of the document by itself.
-/
import Derived.Test.YteabedmomepihaaDoorCoreHoM

section
open Go.Proofs
namespace Go.Ev
set_option maxRecDepth 100000
set_option maxHeartbeats 4000000
theorem vc6 : ∀ (tb : D) (x : Int), symFun (ctx cc0 hoAnn) (4 : Nat) (6 : FuncId) [V.dat (25 : TypeId) tb, V.int IntKind.i64 x] (V.prop (hasN tb x)) = ((∃ (x_1 : Nat), (x_1 ≤ tb.len ∧ ∀ (i : Nat), i <
x_1 → x = nAt tb i → False) ∧ ((0 : Int) = (↑x_1 : Int) ∧ True) ∧ True) ∧ ∀ (x_1 : Nat), (x_1 ≤ tb.len ∧ ∀ (i : Nat), i < x_1 → x = nAt tb i → False) → tb.len - x_1 < LIM ∧ ((↑x_1 : Int) < (↑tb.len :
Int) → (0 : Int) ≤ (↑x_1 : Int) ∧ (↑x_1 : Int) < (↑tb.len : Int) ∧ (x = nAt tb x_1 → ((0 : Int) ≤ (↑x_1 : Int) ↔ hasN tb x)) ∧ ((x = nAt tb x_1 → False) → ((-9223372036854775808 : Int) ≤ (↑x_1 : Int)
+ (1 : Int) ∧ (↑x_1 : Int) + (1 : Int) < (9223372036854775808 : Int)) ∧ ∃ (y : Nat), (y ≤ tb.len ∧ ∀ (i : Nat), i < y → x = nAt tb i → False) ∧ tb.len - y < tb.len - x_1 ∧ ((↑x_1 : Int) + (1 : Int) =
(↑y : Int) ∧ True) ∧ True)) ∧ (((↑x_1 : Int) < (↑tb.len : Int) → False) → (false = true ↔ hasN tb x))) := by intros; kernel_rfl
theorem vc10 : ∀ (n : Int) (s : D), symFun (ctx ch1 hoAnn) (3 : Nat) (10 : FuncId) [V.int IntKind.i64 n, V.dat (24 : TypeId) s] (V.prop ((chk n D.nil s).snd = (0 : Int))) = (((0 : Nat) ≤ (1000 : Nat)
∧ bigP s) ∧ ((chk n D.nil s).snd = (0 : Int) ↔ (chk n D.nil s).snd = (0 : Int))) := by intros; kernel_rfl
theorem vc5 : ∀ (n : Int) (s : D), symFun (ctx ch2 hoAnn) (4 : Nat) (5 : FuncId) [V.int IntKind.i64 n, V.dat (24 : TypeId) s] (V.dat (28 : TypeId) (D.list (hosD n.toNat s))) = (bigP s ∧ (((chk n D.nil
s).snd = (0 : Int) → False) → D.nil = D.list (hosD n.toNat s)) ∧ ((((chk n D.nil s).snd = (0 : Int) → False) → False) → (0 : Int) ≤ n ∧ n ≤ n ∧ n ≤ (16777216 : Int) ∧ (8 : Nat) * n.toNat ≤
(281474976710656 : Nat) ∧ (0 : Int) ≤ (↑s.len : Int) ∧ (↑s.len : Int) ≤ (↑s.len : Int) ∧ (↑s.len : Int) ≤ (16777216 : Int) ∧ (24 : Nat) * s.len ≤ (281474976710656 : Nat) ∧ (∃ (x : Nat × List D × List
D), (x.fst ≤ s.len ∧ x.snd.fst = tmS n.toNat s x.fst ∧ x.snd.snd = hoL n.toNat s x.fst ++ List.replicate (s.len - x.fst) D.nil) ∧ ((0 : Int) = (↑x.fst : Int) ∧ True) ∧ List.replicate n.toNat (D.int (0
: Int)) = x.snd.fst ∧ (List.replicate s.len D.nil = x.snd.snd ∧ allNil (List.replicate s.len D.nil)) ∧ True) ∧ ∀ (x : Nat × List D × List D), x.fst ≤ s.len ∧ x.snd.fst = tmS n.toNat s x.fst ∧
x.snd.snd = hoL n.toNat s x.fst ++ List.replicate (s.len - x.fst) D.nil → s.len - x.fst < LIM ∧ ((↑x.fst : Int) < (↑s.len : Int) → (0 : Int) ≤ (↑x.fst : Int) ∧ (↑x.fst : Int) < (↑s.len : Int) ∧ (∃
(x_1 : Nat × List D × List D), (x_1.fst ≤ (el s x.fst).len ∧ x_1.snd.fst = tmE x.snd.fst (el s x.fst) x_1.fst ∧ x_1.snd.snd = rwI x.snd.snd x.fst x.snd.fst (el s x.fst) x_1.fst) ∧ ((0 : Int) =
(↑x_1.fst : Int) ∧ True) ∧ x.snd.fst = x_1.snd.fst ∧ x.snd.snd = x_1.snd.snd ∧ True) ∧ ∀ (x_1 : Nat × List D × List D), x_1.fst ≤ (el s x.fst).len ∧ x_1.snd.fst = tmE x.snd.fst (el s x.fst) x_1.fst ∧
x_1.snd.snd = rwI x.snd.snd x.fst x.snd.fst (el s x.fst) x_1.fst → (el s x.fst).len - x_1.fst < LIM ∧ ((↑x_1.fst : Int) < (↑(el s x.fst).len : Int) → (0 : Int) ≤ (↑x_1.fst : Int) ∧ (↑x_1.fst : Int) <
(↑(el s x.fst).len : Int) ∧ (0 : Int) ≤ (0 : Int) ∧ (0 : Int) < (↑(el (el s x.fst) x_1.fst).len : Int) ∧ (0 : Int) ≤ (1 : Int) ∧ (1 : Int) ≤ (↑(el (el s x.fst) x_1.fst).len : Int) ∧ (↑(el (el s x.fst)
x_1.fst).len : Int) ≤ (↑(el (el s x.fst) x_1.fst).len : Int) ∧ (∃ (x_2 : Nat), x_2.le (tlD (el (el s x.fst) x_1.fst)).len ∧ ((0 : Int) = (↑x_2 : Int) ∧ nAt (el (el s x.fst) x_1.fst) (0 : Nat) = pkT
x_1.snd.fst (el (el s x.fst) x_1.fst) x_2 ∧ True) ∧ True) ∧ ∀ (x_2 : Nat), x_2.le (tlD (el (el s x.fst) x_1.fst)).len → (tlD (el (el s x.fst) x_1.fst)).len - x_2 < LIM ∧ ((↑x_2 : Int) < (↑(tlD (el (el
s x.fst) x_1.fst)).len : Int) → (0 : Int) ≤ (↑x_2 : Int) ∧ (↑x_2 : Int) < (↑(tlD (el (el s x.fst) x_1.fst)).len : Int) ∧ (0 : Int) ≤ nAt (tlD (el (el s x.fst) x_1.fst)) x_2 ∧ nAt (tlD (el (el s x.fst)
x_1.fst)) x_2 < (↑n.toNat : Int) ∧ (nAt (tlD (el (el s x.fst) x_1.fst)) x_2).toNat < x_1.snd.fst.length ∧ (0 : Int) ≤ pkT x_1.snd.fst (el (el s x.fst) x_1.fst) x_2 ∧ pkT x_1.snd.fst (el (el s x.fst)
x_1.fst) x_2 < (↑n.toNat : Int) ∧ (pkT x_1.snd.fst (el (el s x.fst) x_1.fst) x_2).toNat < x_1.snd.fst.length ∧ (((nthD x_1.snd.fst (nAt (tlD (el (el s x.fst) x_1.fst)) x_2).toNat).asInt < (nthD
x_1.snd.fst (pkT x_1.snd.fst (el (el s x.fst) x_1.fst) x_2).toNat).asInt → False) → (0 : Int) ≤ nAt (tlD (el (el s x.fst) x_1.fst)) x_2 ∧ nAt (tlD (el (el s x.fst) x_1.fst)) x_2 < (↑n.toNat : Int) ∧
(nAt (tlD (el (el s x.fst) x_1.fst)) x_2).toNat < x_1.snd.fst.length ∧ (0 : Int) ≤ pkT x_1.snd.fst (el (el s x.fst) x_1.fst) x_2 ∧ pkT x_1.snd.fst (el (el s x.fst) x_1.fst) x_2 < (↑n.toNat : Int) ∧
(pkT x_1.snd.fst (el (el s x.fst) x_1.fst) x_2).toNat < x_1.snd.fst.length ∧ ((nthD x_1.snd.fst (nAt (tlD (el (el s x.fst) x_1.fst)) x_2).toNat).asInt = (nthD x_1.snd.fst (pkT x_1.snd.fst (el (el s
x.fst) x_1.fst) x_2).toNat).asInt → (nAt (tlD (el (el s x.fst) x_1.fst)) x_2 < pkT x_1.snd.fst (el (el s x.fst) x_1.fst) x_2 → ((-9223372036854775808 : Int) ≤ (↑x_2 : Int) + (1 : Int) ∧ (↑x_2 : Int) +
(1 : Int) < (9223372036854775808 : Int)) ∧ ∃ (y : Nat), y.le (tlD (el (el s x.fst) x_1.fst)).len ∧ (tlD (el (el s x.fst) x_1.fst)).len - y < (tlD (el (el s x.fst) x_1.fst)).len - x_2 ∧ ((↑x_2 : Int) +
(1 : Int) = (↑y : Int) ∧ nAt (tlD (el (el s x.fst) x_1.fst)) x_2 = pkT x_1.snd.fst (el (el s x.fst) x_1.fst) y ∧ True) ∧ True) ∧ ((nAt (tlD (el (el s x.fst) x_1.fst)) x_2 < pkT x_1.snd.fst (el (el s
x.fst) x_1.fst) x_2 → False) → ((-9223372036854775808 : Int) ≤ (↑x_2 : Int) + (1 : Int) ∧ (↑x_2 : Int) + (1 : Int) < (9223372036854775808 : Int)) ∧ ∃ (y : Nat), y.le (tlD (el (el s x.fst)
x_1.fst)).len ∧ (tlD (el (el s x.fst) x_1.fst)).len - y < (tlD (el (el s x.fst) x_1.fst)).len - x_2 ∧ ((↑x_2 : Int) + (1 : Int) = (↑y : Int) ∧ pkT x_1.snd.fst (el (el s x.fst) x_1.fst) x_2 = pkT
x_1.snd.fst (el (el s x.fst) x_1.fst) y ∧ True) ∧ True)) ∧ (((nthD x_1.snd.fst (nAt (tlD (el (el s x.fst) x_1.fst)) x_2).toNat).asInt = (nthD x_1.snd.fst (pkT x_1.snd.fst (el (el s x.fst) x_1.fst)
x_2).toNat).asInt → False) → ((-9223372036854775808 : Int) ≤ (↑x_2 : Int) + (1 : Int) ∧ (↑x_2 : Int) + (1 : Int) < (9223372036854775808 : Int)) ∧ ∃ (y : Nat), y.le (tlD (el (el s x.fst) x_1.fst)).len
∧ (tlD (el (el s x.fst) x_1.fst)).len - y < (tlD (el (el s x.fst) x_1.fst)).len - x_2 ∧ ((↑x_2 : Int) + (1 : Int) = (↑y : Int) ∧ pkT x_1.snd.fst (el (el s x.fst) x_1.fst) x_2 = pkT x_1.snd.fst (el (el
s x.fst) x_1.fst) y ∧ True) ∧ True)) ∧ ((nthD x_1.snd.fst (nAt (tlD (el (el s x.fst) x_1.fst)) x_2).toNat).asInt < (nthD x_1.snd.fst (pkT x_1.snd.fst (el (el s x.fst) x_1.fst) x_2).toNat).asInt →
((-9223372036854775808 : Int) ≤ (↑x_2 : Int) + (1 : Int) ∧ (↑x_2 : Int) + (1 : Int) < (9223372036854775808 : Int)) ∧ ∃ (y : Nat), y.le (tlD (el (el s x.fst) x_1.fst)).len ∧ (tlD (el (el s x.fst)
x_1.fst)).len - y < (tlD (el (el s x.fst) x_1.fst)).len - x_2 ∧ ((↑x_2 : Int) + (1 : Int) = (↑y : Int) ∧ nAt (tlD (el (el s x.fst) x_1.fst)) x_2 = pkT x_1.snd.fst (el (el s x.fst) x_1.fst) y ∧ True) ∧
True)) ∧ (((↑x_2 : Int) < (↑(tlD (el (el s x.fst) x_1.fst)).len : Int) → False) → (0 : Int) ≤ pkT x_1.snd.fst (el (el s x.fst) x_1.fst) x_2 ∧ pkT x_1.snd.fst (el (el s x.fst) x_1.fst) x_2 < (↑n.toNat
: Int) ∧ (pkT x_1.snd.fst (el (el s x.fst) x_1.fst) x_2).toNat < x_1.snd.fst.length ∧ ((-9223372036854775808 : Int) ≤ (nthD x_1.snd.fst (pkT x_1.snd.fst (el (el s x.fst) x_1.fst) x_2).toNat).asInt +
(1 : Int) ∧ (nthD x_1.snd.fst (pkT x_1.snd.fst (el (el s x.fst) x_1.fst) x_2).toNat).asInt + (1 : Int) < (9223372036854775808 : Int)) ∧ (0 : Int) ≤ pkT x_1.snd.fst (el (el s x.fst) x_1.fst) x_2 ∧ pkT
x_1.snd.fst (el (el s x.fst) x_1.fst) x_2 < (↑n.toNat : Int) ∧ (pkT x_1.snd.fst (el (el s x.fst) x_1.fst) x_2).toNat < x_1.snd.fst.length ∧ (0 : Int) ≤ (↑x.fst : Int) ∧ (↑x.fst : Int) < (↑s.len : Int)
∧ x.fst < x_1.snd.snd.length ∧ (nthD x_1.snd.snd x.fst = D.nil → (0 : Nat) + (1 : Nat) ≤ [D.int (pkT x_1.snd.fst (el (el s x.fst) x_1.fst) x_2)].length ∧ (1 : Nat) ≤ (16777216 : Nat) ∧ (0 : Int) ≤
(↑x.fst : Int) ∧ (↑x.fst : Int) < (↑s.len : Int) ∧ x.fst < x_1.snd.snd.length ∧ True ∧ (0 : Nat) = (0 : Nat) ∧ (1 : Nat) = (List.take (1 : Nat) [D.int (pkT x_1.snd.fst (el (el s x.fst) x_1.fst)
x_2)]).length ∧ True ∧ ((-9223372036854775808 : Int) ≤ (↑x_1.fst : Int) + (1 : Int) ∧ (↑x_1.fst : Int) + (1 : Int) < (9223372036854775808 : Int)) ∧ ∃ (y : Nat × List D × List D), (y.fst ≤ (el s
x.fst).len ∧ y.snd.fst = tmE x.snd.fst (el s x.fst) y.fst ∧ y.snd.snd = rwI x.snd.snd x.fst x.snd.fst (el s x.fst) y.fst) ∧ (el s x.fst).len - y.fst < (el s x.fst).len - x_1.fst ∧ ((↑x_1.fst : Int) +
(1 : Int) = (↑y.fst : Int) ∧ True) ∧ x_1.snd.fst.set (pkT x_1.snd.fst (el (el s x.fst) x_1.fst) x_2).toNat (D.int ((nthD x_1.snd.fst (pkT x_1.snd.fst (el (el s x.fst) x_1.fst) x_2).toNat).asInt + (1 :
Int))) = y.snd.fst ∧ x_1.snd.snd.set x.fst (D.list (List.take (1 : Nat) [D.int (pkT x_1.snd.fst (el (el s x.fst) x_1.fst) x_2)])) = y.snd.snd ∧ True) ∧ (∀ (r : List D), nthD x_1.snd.snd x.fst = D.list
r → x.fst < x_1.snd.snd.length ∧ r.length = (nthD x_1.snd.snd x.fst).len ∧ (∃ (r : List D), nthD x_1.snd.snd x.fst = D.list r) ∧ Nat.le (1 : Nat) (1 : Nat) ∧ (0 : Nat) + (1 : Nat) ≤ [D.int (pkT
x_1.snd.fst (el (el s x.fst) x_1.fst) x_2)].length ∧ (0 : Nat) + r.length ≤ (nthD x_1.snd.snd x.fst).asList.length ∧ r.length + (1 : Nat) ≤ (16777216 : Nat) ∧ (0 : Int) ≤ (↑x.fst : Int) ∧ (↑x.fst :
Int) < (↑s.len : Int) ∧ x.fst < (x_1.snd.snd.set x.fst (D.int (0 : Int))).length ∧ True ∧ (0 : Nat) = (0 : Nat) ∧ r.length + (1 : Nat) = (List.take r.length (nthD x_1.snd.snd x.fst).asList ++
List.take (1 : Nat) [D.int (pkT x_1.snd.fst (el (el s x.fst) x_1.fst) x_2)]).length ∧ True ∧ ((-9223372036854775808 : Int) ≤ (↑x_1.fst : Int) + (1 : Int) ∧ (↑x_1.fst : Int) + (1 : Int) <
(9223372036854775808 : Int)) ∧ ∃ (y : Nat × List D × List D), (y.fst ≤ (el s x.fst).len ∧ y.snd.fst = tmE x.snd.fst (el s x.fst) y.fst ∧ y.snd.snd = rwI x.snd.snd x.fst x.snd.fst (el s x.fst) y.fst) ∧
(el s x.fst).len - y.fst < (el s x.fst).len - x_1.fst ∧ ((↑x_1.fst : Int) + (1 : Int) = (↑y.fst : Int) ∧ True) ∧ x_1.snd.fst.set (pkT x_1.snd.fst (el (el s x.fst) x_1.fst) x_2).toNat (D.int ((nthD
x_1.snd.fst (pkT x_1.snd.fst (el (el s x.fst) x_1.fst) x_2).toNat).asInt + (1 : Int))) = y.snd.fst ∧ (x_1.snd.snd.set x.fst (D.int (0 : Int))).set x.fst (D.list (List.take r.length (nthD x_1.snd.snd
x.fst).asList ++ List.take (1 : Nat) [D.int (pkT x_1.snd.fst (el (el s x.fst) x_1.fst) x_2)])) = y.snd.snd ∧ True) ∧ ∀ (n : Int), nthD x_1.snd.snd x.fst = D.int n → False)) ∧ (((↑x_1.fst : Int) <
(↑(el s x.fst).len : Int) → False) → ((-9223372036854775808 : Int) ≤ (↑x.fst : Int) + (1 : Int) ∧ (↑x.fst : Int) + (1 : Int) < (9223372036854775808 : Int)) ∧ ∃ (y : Nat × List D × List D), (y.fst ≤
s.len ∧ y.snd.fst = tmS n.toNat s y.fst ∧ y.snd.snd = hoL n.toNat s y.fst ++ List.replicate (s.len - y.fst) D.nil) ∧ s.len - y.fst < s.len - x.fst ∧ ((↑x.fst : Int) + (1 : Int) = (↑y.fst : Int) ∧
True) ∧ x_1.snd.fst = y.snd.fst ∧ x_1.snd.snd = y.snd.snd ∧ True)) ∧ (((↑x.fst : Int) < (↑s.len : Int) → False) → (0 : Nat) + s.len ≤ x.snd.snd.length ∧ noHole x.snd.snd ∧ (isSliceT (ctx ch2 hoAnn).P
(25 : TypeId) = true ∧ sizeIs (ctx ch2 hoAnn).P (25 : TypeId) (1 : Nat) = true) ∧ D.list (List.take s.len x.snd.snd) = D.list (hosD n.toNat s)))) := by intros; kernel_rfl
theorem limS {n : Nat} (h : n ≤ 16777216) : n < LIM := by unfold LIM; omega
theorem s6 (tb : D) (x : Int) (h : tb.len ≤ 16777216) : symFun (ctx cc0 hoAnn) 4 6 [.dat 25 tb, .int .i64 x] (.prop (hasN tb x)) := by
 rw [vc6]
 refine ⟨⟨0, ⟨Nat.zero_le _, fun i hi => absurd hi (Nat.not_lt_zero _)⟩, ⟨rfl, trivial⟩, trivial⟩, fun i ⟨hi, hall⟩ => ⟨limS (by omega), fun hlt => ⟨by omega, hlt, fun he => ⟨fun _ => ⟨i, by omega, he.symm⟩, fun _ => by omega⟩, fun hne => ⟨⟨by omega, by omega⟩, i + 1, ⟨by omega, fun k hk e => ?_⟩, by omega, ⟨by omega, trivial⟩, trivial⟩⟩, fun hge => ⟨fun h => (by cases h), fun ⟨⟨k, hk, e⟩⟩ => (hall k (by have := not_of hge; omega) e.symm).elim⟩⟩⟩
 rcases Nat.lt_or_ge k i with h1 | h1
 ·exact hall k h1 e
 ·have : k = i := by omega
  subst this; exact hne e
theorem s10 (n : Int) (s : D) (hs : bigP s) : symFun (ctx ch1 hoAnn) 3 10 [.int .i64 n, .dat 24 s] (.prop ((chk n .nil s).2 = 0)) := by
 rw [vc10]; exact ⟨⟨Nat.zero_le _, hs⟩, Iff.rfl⟩
theorem scan_all {n : Int} {s : D} : ∀ f i, scanK n .nil s f i = (0, 0) → ∀ k, i ≤ k → k < i + f → errE n .nil (el s k) = 0
 | 0, i, _, k, h1, h2 => by omega
 | f + 1, i, h, k, h1, h2 => by
  unfold scanK at h
  by_cases he : errE n .nil (el s i) ≠ 0
  ·rw [if_pos he] at h
   exact absurd (congrArg Prod.snd h) he
  ·rw [if_neg he] at h
   rcases Nat.lt_or_ge i k with h3 | h3
   ·exact scan_all f (i + 1) h k h3 (by omega)
   ·have : k = i := by omega
    subst this; exact Classical.not_not.1 he
theorem good_err {n : Int} {s : D} (h : goodS n s) {i : Nat} (hi : i < s.len) : errE n .nil (el s i) = 0 := by
 have hc := h.chk
 unfold chk at hc
 split at hc
 ·exact absurd (congrArg Prod.snd hc) (by decide)
 ·split at hc
  ·exact absurd (congrArg Prod.snd hc) (by decide)
  ·exact scan_all _ _ hc i (Nat.zero_le _) (by omega)
theorem flat_mem (ev : D) {j : Nat} {a : D} (ha : a ∈ (el ev j).asList) : ∀ m, j < m → a ∈ flatL ev m
 | 0, h => by omega
 | m + 1, h => by
  show a ∈ flatL ev m ++ (el ev m).asList
  rcases Nat.lt_or_ge j m with h1 | h1
  ·exact List.mem_append_left _ (flat_mem ev ha m h1)
  ·have : j = m := by omega
   subst this; exact List.mem_append_right _ ha
structure tabP (n : Int) (tb : D) : Prop where
 pos : 0 < tb.len
 rng : ∀ k, k < tb.len → 0 ≤ nAt tb k ∧ nAt tb k < n
theorem good_tab {n : Int} {s : D} (h : goodS n s) {i j : Nat} (hi : i < s.len) (hj : j < (el s i).len) : tabP n (el (el s i) j) := by
 have he := good_err h hi
 unfold errE at he
 split at he
 ·cases he
 ·rename_i hne
  have h1 : ¬ emptyP (el s i) := fun q => hne (.inl q)
  refine ⟨Nat.pos_of_ne_zero fun h0 => h1 ⟨j, hj, h0⟩, fun k hk => ?_⟩
  unfold errG at he
  split at he
  ·cases he
  ·rename_i ho
   refine Classical.byContradiction fun hc => ho ⟨nthD (el (el s i) j).asList k, flat_mem _ (nthD_mem hk) _ hj, hc⟩
theorem good_pos {n : Int} {s : D} (h : goodS n s) {i : Nat} (hi : i < s.len) : 0 < (el s i).len := by
 refine Nat.pos_of_ne_zero fun h0 => ?_
 have he := good_err h hi
 have hn := h.n1
 unfold errE at he
 split at he
 ·cases he
 ·rw [h0] at he
  unfold errG at he
  split at he
  ·cases he
  ·split at he
   ·cases he
   ·rename_i hc
    rw [if_pos ⟨0, ⟨Int.le_refl _, by omega⟩, rfl⟩] at he
    cases he
theorem tl_len {tb : D} (h : 0 < tb.len) : (tlD tb).len = tb.len - 1 := by
 unfold tlD
 cases tb <;> simp [D.sub, D.len, D.asList] at h ⊢
theorem tl_at {tb : D} {k : Nat} (h : k < tb.len - 1) : nAt (tlD tb) k = nAt tb (k + 1) := by
 unfold tlD nAt nthD
 cases tb <;> simp [D.sub, D.len, D.asList] at h ⊢
 rw [List.getElem?_take, if_pos h, List.getElem?_tail]
theorem less_trans {T : List D} {a b c : Int} (h1 : lessP T a b) (h2 : lessP T b c) : lessP T a c := by
 have := h1.out; have := h2.out
 exact ⟨by omega⟩
theorem less_irr {T : List D} {a : Int} : ¬ lessP T a a := fun h => by have := h.out; omega
theorem pk_yes {T : List D} {tb : D} {x : Nat} (h : lessP T (nAt (tlD tb) x) (pkT T tb x)) : nAt (tlD tb) x = pkT T tb (x + 1) := by
 show _ = pkR T (nAt tb 0) (tlD tb) (x + 1)
 unfold pkR
 rw [if_pos (show lessP T (nAt (tlD tb) x) (pkR T (nAt tb 0) (tlD tb) x) from h)]
theorem pk_no {T : List D} {tb : D} {x : Nat} (h : ¬ lessP T (nAt (tlD tb) x) (pkT T tb x)) : pkT T tb x = pkT T tb (x + 1) := by
 show _ = pkR T (nAt tb 0) (tlD tb) (x + 1)
 rw [pkR, if_neg (show ¬ lessP T (nAt (tlD tb) x) (pkR T (nAt tb 0) (tlD tb) x) from h)]
 rfl
theorem pk_mem {T : List D} {tb : D} : ∀ x, x ≤ tb.len - 1 → ∃ k, k ≤ x ∧ pkT T tb x = nAt tb k
 | 0, _ => ⟨0, Nat.le_refl _, rfl⟩
 | x + 1, h => by
  by_cases hl : lessP T (nAt (tlD tb) x) (pkT T tb x)
  ·exact ⟨x + 1, Nat.le_refl _, by rw [← pk_yes hl, tl_at (by omega)]⟩
  ·obtain ⟨k, h1, h2⟩ := pk_mem (T := T) (tb := tb) x (by omega)
   exact ⟨k, by omega, by rw [← pk_no hl, h2]⟩
theorem pk_min {T : List D} {tb : D} : ∀ x, x ≤ tb.len - 1 → ∀ k, k ≤ x → ¬ lessP T (nAt tb k) (pkT T tb x)
 | 0, _, k, hk => by
  have : k = 0 := by omega
  subst this; exact less_irr
 | x + 1, h, k, hk => by
  by_cases hl : lessP T (nAt (tlD tb) x) (pkT T tb x)
  ·rw [← pk_yes hl]
   rcases Nat.lt_or_ge x k with h1 | h1
   ·have : k = x + 1 := by omega
    subst this; rw [tl_at (by omega)]; exact less_irr
   ·exact fun q => pk_min x (by omega) k h1 (less_trans q hl)
  ·rw [← pk_no hl]
   rcases Nat.lt_or_ge x k with h1 | h1
   ·have : k = x + 1 := by omega
    subst this; rw [← tl_at (by omega)]; exact hl
   ·exact pk_min x (by omega) k h1
theorem host_pk (T : List D) {tb : D} (h : 0 < tb.len) : hostF T tb = pkT T tb (tb.len - 1) := by
 unfold hostF pkT; rw [tl_len h]
theorem pk_rng {n : Int} {T : List D} {tb : D} (h : tabP n tb) {x : Nat} (hx : x ≤ tb.len - 1) : 0 ≤ pkT T tb x ∧ pkT T tb x < n := by
 obtain ⟨k, h1, h2⟩ := pk_mem (T := T) x hx
 have := h.pos
 rw [h2]; exact h.rng k (by omega)
theorem host_rng {n : Int} (T : List D) {tb : D} (h : tabP n tb) : 0 ≤ hostF T tb ∧ hostF T tb < n := by
 rw [host_pk T h.pos]; exact pk_rng h (Nat.le_refl _)
structure bndP (T : List D) (m K : Nat) : Prop where
 len : T.length = m
 rng : ∀ v, v < m → 0 ≤ (nthD T v).asInt ∧ (nthD T v).asInt ≤ K
theorem bump_bnd {T : List D} {m K : Nat} (h : bndP T m K) {a : Int} (h0 : 0 ≤ a) (h1 : a < m) : bndP (bumpL T a) m (K + 1) := by
 have hl := h.len
 refine ⟨by unfold bumpL; rw [List.length_set]; exact h.len, fun v hv => ?_⟩
 unfold bumpL
 rw [nthD_set _ _ _ _ (by omega)]
 by_cases e : a.toNat = v
 ·rw [if_pos e]
  have := h.rng a.toNat (by omega)
  show 0 ≤ (nthD T a.toNat).asInt + 1 ∧ (nthD T a.toNat).asInt + 1 ≤ ((K + 1 : Nat) : Int)
  omega
 ·rw [if_neg e]
  have := h.rng v hv
  omega
theorem tmE_bnd {n : Int} (hn : 0 ≤ n) {T : List D} {ev : D} {K : Nat} (h : bndP T n.toNat K) (hg : ∀ j, j < ev.len → tabP n (el ev j)) : ∀ j, j ≤ ev.len → bndP (tmE T ev j) n.toNat (K + j)
 | 0, _ => h
 | j + 1, hj => by
  have ih := tmE_bnd hn h hg j (by omega)
  have hr := host_rng (tmE T ev j) (hg j (by omega))
  exact bump_bnd ih hr.1 (by omega)
theorem tmS_bnd {n : Int} {s : D} (h : goodS n s) : ∀ i, i ≤ s.len → bndP (tmS n.toNat s i) n.toNat (100 * i)
 | 0, _ => ⟨by unfold tmS zerL; rw [List.length_replicate], fun v hv => by
   unfold tmS zerL nthD
   rw [List.getElem?_replicate, if_pos hv]
   exact ⟨Int.le_refl _, Int.le_refl _⟩⟩
 | i + 1, hi => by
  have ih := tmS_bnd h i (by omega)
  have hb := (h.big.out.2 i (by omega)).out.1
  have := tmE_bnd (n := n) (by have := h.n1; omega) ih (fun j hj => good_tab h (i := i) (by omega) hj) _ (Nat.le_refl _)
  refine ⟨this.len, fun v hv => ?_⟩
  have := this.rng v hv
  show 0 ≤ (nthD (tmE (tmS n.toNat s i) (el s i) (el s i).len) v).asInt ∧ (nthD (tmE (tmS n.toNat s i) (el s i) (el s i).len) v).asInt ≤ _
  omega
theorem rw_len (T : List D) (ev : D) : ∀ j, (rwE T ev j).length = j
 | 0 => rfl
 | j + 1 => by unfold rwE; rw [List.length_append, rw_len T ev j]; rfl
theorem rw_at (T : List D) (ev : D) {j : Nat} : ∀ m, j < m → nthD (rwE T ev m) j = .int (hostF (tmE T ev j) (el ev j))
 | 0, h => by omega
 | m + 1, h => by
  have hl := rw_len T ev m
  unfold rwE nthD
  rcases Nat.lt_or_ge j m with h1 | h1
  ·rw [List.getElem?_append_left (by omega)]; exact rw_at T ev m h1
  ·have : j = m := by omega
   subst this
   rw [List.getElem?_append_right (by omega), hl, Nat.sub_self]; rfl
theorem ho_len (n : Nat) (s : D) (x : Nat) : (hoL n s x).length = x := by unfold hoL; rw [List.length_map, List.length_range]
theorem ho_succ (n : Nat) (s : D) (x : Nat) : hoL n s (x + 1) = hoL n s x ++ [.list (rwE (tmS n s x) (el s x) (el s x).len)] := by
 unfold hoL; rw [List.range_succ, List.map_append]; rfl
theorem ho_at (n : Nat) (s : D) {x i : Nat} (h : i < x) : nthD (hoL n s x) i = .list (rwE (tmS n s i) (el s i) (el s i).len) := nth_map (α := D) (fun i => .list (rwE (tmS n s i) (el s i) (el s i).len)) _ _ h
theorem ho_rest (n : Nat) (s : D) {x : Nat} (h : x < s.len) : nthD (hoL n s x ++ List.replicate (s.len - x) D.nil) x = .nil := by
 unfold nthD
 rw [List.getElem?_append_right (by rw [ho_len]; exact Nat.le_refl _), ho_len, Nat.sub_self, List.getElem?_replicate, if_pos (by omega)]; rfl
theorem ho_next (n : Nat) (s : D) {x : Nat} (h : x < s.len) : (hoL n s x ++ List.replicate (s.len - x) D.nil).set x (.list (rwE (tmS n s x) (el s x) (el s x).len)) = hoL n s (x + 1) ++ List.replicate (s.len - (x + 1)) D.nil := by
 have e : s.len - x = s.len - (x + 1) + 1 := by omega
 rw [List.set_append_right _ _ (by rw [ho_len]; exact Nat.le_refl _), ho_len, Nat.sub_self, e, List.replicate_succ, List.set_cons_zero, ho_succ, List.append_assoc]
 rfl
theorem nodes_noHole {n : Nat} {s : D} {x : Nat} : noHole (hoL n s x) := ⟨fun k h => by
 obtain ⟨i, _, e⟩ := List.mem_map.1 h
 cases e⟩
theorem rwI_len (l : List D) (i : Nat) (T : List D) (ev : D) : ∀ j, (rwI l i T ev j).length = l.length
 | 0 => rfl
 | j + 1 => by unfold rwI; rw [List.length_set]
theorem rwI_at {l : List D} {i : Nat} (T : List D) (ev : D) (hi : i < l.length) (h0 : nthD l i = .nil) : ∀ j, (j = 0 ∧ nthD (rwI l i T ev j) i = .nil) ∨ (0 < j ∧ nthD (rwI l i T ev j) i = .list (rwE T ev j))
 | 0 => .inl ⟨rfl, h0⟩
 | j + 1 => .inr ⟨Nat.succ_pos _, by unfold rwI; rw [nthD_set _ _ _ _ hi, if_pos rfl]⟩
theorem rwI_set {l : List D} {i : Nat} (T : List D) (ev : D) (a : D) : ∀ j, (rwI l i T ev j).set i a = l.set i a
 | 0 => rfl
 | j + 1 => by unfold rwI; rw [List.set_set]
theorem s5 (n : Int) (s : D) (h : goodS n s) : symFun (ctx ch2 hoAnn) 4 5 [.int .i64 n, .dat 24 s] (.dat 28 (.list (hosD n.toNat s))) := by
 rw [vc5]
 have hn := h.n1
 have hb := h.big.out.1
 have hchk : (chk n .nil s).2 = 0 := by rw [h.chk]
 refine ⟨h.big, fun hc => (hc hchk).elim, fun _ => ⟨by omega, Int.le_refl _, by omega, by omega, by omega, Int.le_refl _, by omega, by omega, ⟨(0, zerL n.toNat, List.replicate s.len .nil), ⟨Nat.zero_le _, rfl, by show _ = [] ++ List.replicate (s.len - 0) D.nil; rfl⟩, ⟨rfl, trivial⟩, rfl, ⟨rfl, ⟨fun d hd => List.eq_of_mem_replicate hd⟩⟩, trivial⟩, fun x ⟨hx1, hx2, hx3⟩ => ⟨limS (by omega), fun hlt => ?_, fun hge => ?_⟩⟩⟩
 ·have hi : x.1 < s.len := by omega
  have hsm := (h.big.out.2 x.1 hi).out
  have htab : ∀ j, j < (el s x.1).len → tabP n (el (el s x.1) j) := fun j hj => good_tab h hi hj
  have hT := tmS_bnd h x.1 hx1
  rw [← hx2] at hT
  have hx3l : x.2.2.length = s.len := by rw [hx3, List.length_append, ho_len, List.length_replicate]; omega
  have hnil : nthD x.2.2 x.1 = .nil := by rw [hx3]; exact ho_rest _ _ hi
  refine ⟨by omega, hlt, ⟨(0, x.2.1, x.2.2), ⟨Nat.zero_le _, rfl, rfl⟩, ⟨rfl, trivial⟩, rfl, rfl, trivial⟩, fun y ⟨hy1, hy2, hy3⟩ => ⟨limS (by omega), fun hlt2 => ?_, fun hge2 => ?_⟩⟩
  ·have hj : y.1 < (el s x.1).len := by omega
   have ht := htab y.1 hj
   have htp := ht.pos
   have htl := hsm.2 y.1 hj
   have hbd := tmE_bnd (n := n) (by omega) hT htab y.1 hy1
   rw [← hy2] at hbd
   have hlen := hbd.len
   have tll := tl_len htp
   have hy3l : y.2.2.length = s.len := by rw [hy3, rwI_len, hx3l]
   refine ⟨by omega, hlt2, Int.le_refl _, by omega, by omega, by omega, Int.le_refl _, ⟨0, Nat.zero_le _, ⟨rfl, rfl, trivial⟩, trivial⟩, fun z hz => ⟨limS (by omega), fun hlt3 => ?_, fun hge3 => ?_⟩⟩
   ·have hz1 : z < (el (el s x.1) y.1).len - 1 := by omega
    have q1 := ht.rng (z + 1) (by omega)
    rw [← tl_at hz1] at q1
    have q2 := pk_rng (T := y.2.1) ht (x := z) (by omega)
    refine ⟨by omega, hlt3, q1.1, by omega, by omega, q2.1, by omega, by omega, fun hnl => ⟨q1.1, by omega, by omega, q2.1, by omega, by omega, fun heq => ⟨fun hl => ⟨⟨by omega, by omega⟩, z + 1, by show z + 1 ≤ _; omega, by omega, ⟨by omega, pk_yes ⟨.inr ⟨heq, hl⟩⟩, trivial⟩, trivial⟩, fun hl => ⟨⟨by omega, by omega⟩, z + 1, by show z + 1 ≤ _; omega, by omega, ⟨by omega, pk_no (fun q => by have := q.out; rcases this with q | q; exact hnl q; exact hl q.2), trivial⟩, trivial⟩⟩, fun hne => ⟨⟨by omega, by omega⟩, z + 1, by show z + 1 ≤ _; omega, by omega, ⟨by omega, pk_no (fun q => by have := q.out; rcases this with q | q; exact hnl q; exact hne q.1), trivial⟩, trivial⟩⟩, fun hl => ⟨⟨by omega, by omega⟩, z + 1, by show z + 1 ≤ _; omega, by omega, ⟨by omega, pk_yes ⟨.inl hl⟩, trivial⟩, trivial⟩⟩
   ·have hz : z ≤ (tlD (el (el s x.1) y.1)).len := hz
    have hge3 := not_of hge3
    have ez : z = (el (el s x.1) y.1).len - 1 := by omega
    have q2 := pk_rng (T := y.2.1) ht (x := z) (by omega)
    have q3 := hbd.rng (pkT y.2.1 (el (el s x.1) y.1) z).toNat (by omega)
    have hpk : pkT y.2.1 (el (el s x.1) y.1) z = hostF (tmE x.2.1 (el s x.1) y.1) (el (el s x.1) y.1) := by rw [ez, ← host_pk _ htp, hy2]
    have hbump : y.2.1.set (pkT y.2.1 (el (el s x.1) y.1) z).toNat (D.int ((nthD y.2.1 (pkT y.2.1 (el (el s x.1) y.1) z).toNat).asInt + 1)) = tmE x.2.1 (el s x.1) (y.1 + 1) := by
     show bumpL y.2.1 (pkT y.2.1 (el (el s x.1) y.1) z) = bumpL (tmE x.2.1 (el s x.1) y.1) (hostF (tmE x.2.1 (el s x.1) y.1) (el (el s x.1) y.1))
     rw [hpk, hy2]
    have hat := rwI_at x.2.1 (el s x.1) (l := x.2.2) (i := x.1) (by omega) hnil y.1
    rw [← hy3] at hat
    refine ⟨q2.1, by omega, by omega, ⟨by omega, by omega⟩, q2.1, by omega, by omega, by omega, hlt, by omega, fun hd => ?_, fun r hd => ?_, fun k hd => ?_⟩
    ·rcases hat with ⟨h0, _⟩ | ⟨h0, h1⟩
     ·refine ⟨Nat.le_refl _, by omega, by omega, hlt, by omega, trivial, rfl, rfl, trivial, ⟨by omega, by omega⟩, (y.1 + 1, _, _), ⟨by show y.1 + 1 ≤ _; omega, rfl, rfl⟩, by show _ - (y.1 + 1) < _; omega, ⟨by show (y.1 : Int) + 1 = ((y.1 + 1 : Nat) : Int); omega, trivial⟩, hbump, ?_, trivial⟩
      show y.2.2.set x.1 _ = x.2.2.set x.1 (.list (rwE x.2.1 (el s x.1) (y.1 + 1)))
      have hs := rwI_set (l := x.2.2) (i := x.1) x.2.1 (el s x.1) (.list (rwE x.2.1 (el s x.1) (y.1 + 1))) y.1
      rw [← hy3] at hs
      have hrw : rwE x.2.1 (el s x.1) (y.1 + 1) = [.int (hostF (tmE x.2.1 (el s x.1) y.1) (el (el s x.1) y.1))] := by
       show rwE x.2.1 (el s x.1) y.1 ++ _ = _
       rw [List.eq_nil_of_length_eq_zero ((rw_len x.2.1 (el s x.1) y.1).trans h0)]; rfl
      rw [← hs, hrw, hpk]; rfl
     ·rw [h1] at hd; cases hd
    ·rcases hat with ⟨h0, h1⟩ | ⟨h0, h1⟩
     ·rw [h1] at hd; cases hd
     ·have hd0 := hd
      rw [h1] at hd0; cases hd0
      have hrl := rw_len x.2.1 (el s x.1) y.1
      rw [hd]
      refine ⟨by omega, rfl, ⟨_, rfl⟩, Nat.le_refl _, Nat.le_refl _, by show 0 + (rwE x.2.1 (el s x.1) y.1).length ≤ (rwE x.2.1 (el s x.1) y.1).length; omega, by omega, by omega, hlt, by rw [List.length_set]; omega, trivial, rfl, ?_, trivial, ⟨by omega, by omega⟩, (y.1 + 1, _, _), ⟨by show y.1 + 1 ≤ _; omega, rfl, rfl⟩, by show _ - (y.1 + 1) < _; omega, ⟨by show (y.1 : Int) + 1 = ((y.1 + 1 : Nat) : Int); omega, trivial⟩, hbump, ?_, trivial⟩
      ·show _ = (List.take (rwE x.2.1 (el s x.1) y.1).length (rwE x.2.1 (el s x.1) y.1) ++ _).length
       rw [List.take_length, List.length_append]; rfl
      ·show (y.2.2.set x.1 _).set x.1 (.list (List.take (rwE x.2.1 (el s x.1) y.1).length (rwE x.2.1 (el s x.1) y.1) ++ _)) = x.2.2.set x.1 (.list (rwE x.2.1 (el s x.1) (y.1 + 1)))
       rw [List.set_set, List.take_length, hpk]
       have := rwI_set (l := x.2.2) (i := x.1) x.2.1 (el s x.1) (.list (rwE x.2.1 (el s x.1) (y.1 + 1))) y.1
       rw [← hy3] at this
       rw [← this]; rfl
    ·rcases hat with ⟨h0, h1⟩ | ⟨h0, h1⟩ <;> rw [h1] at hd <;> cases hd
  ·have hge2 := not_of hge2
   have ej : y.1 = (el s x.1).len := by omega
   have hp := good_pos h hi
   refine ⟨⟨by omega, by omega⟩, (x.1 + 1, tmS n.toNat s (x.1 + 1), hoL n.toNat s (x.1 + 1) ++ List.replicate (s.len - (x.1 + 1)) D.nil), ⟨by show x.1 + 1 ≤ _; omega, rfl, rfl⟩, by show _ - (x.1 + 1) < _; omega, ⟨by show (x.1 : Int) + 1 = ((x.1 + 1 : Nat) : Int); omega, trivial⟩, ?_, ?_, trivial⟩
   ·show y.2.1 = tmE (tmS n.toNat s x.1) (el s x.1) (el s x.1).len
    rw [hy2, hx2, ej]
   ·show y.2.2 = hoL n.toNat s (x.1 + 1) ++ List.replicate (s.len - (x.1 + 1)) D.nil
    rw [← ho_next _ _ hi, hy3, ej, ← hx3, ← hx2]
    obtain ⟨k, hk⟩ : ∃ k, (el s x.1).len = k + 1 := ⟨(el s x.1).len - 1, by omega⟩
    rw [hk]; rfl
 ·have hge := not_of hge
  have ex : x.1 = s.len := by omega
  have hl : x.2.2 = hosD n.toNat s := by
   rw [hx3, ex, Nat.sub_self]; show hoL n.toNat s s.len ++ [] = _; rw [List.append_nil]; rfl
  have hll : x.2.2.length = s.len := by rw [hl]; exact ho_len _ _ _
  refine ⟨by omega, by rw [hl]; exact nodes_noHole, ⟨rfl, rfl⟩, ?_⟩
  rw [← hll, List.take_length, hl]
end Go.Ev

end

section
open Go.Proofs
namespace Go.Ev
set_option maxRecDepth 100000
set_option maxHeartbeats 4000000
theorem vc3 : ∀ (c w : D), symFun (ctx ch3 hoAnn) (4 : Nat) (3 : FuncId) [V.dat (22 : TypeId) c, V.dat (23 : TypeId) w] (V.prop True) = ((u8L c ∧ u8W w) ∧ goodS (nD c) (madeD c w) ∧ (((↑(hosD (nD
c).toNat (madeD c w)).length : Int) = (↑(madeD c w).len : Int) → False) → (false = true ↔ True)) ∧ ((((↑(hosD (nD c).toNat (madeD c w)).length : Int) = (↑(madeD c w).len : Int) → False) → False) → (0
: Int) ≤ nD c ∧ nD c ≤ nD c ∧ nD c ≤ (16777216 : Int) ∧ (8 : Nat) * (nD c).toNat ≤ (281474976710656 : Nat) ∧ (∃ (x : Nat × List D), (x.fst ≤ (madeD c w).len ∧ x.snd = tmS (nD c).toNat (madeD c w)
x.fst) ∧ ((0 : Int) = (↑x.fst : Int) ∧ True) ∧ List.replicate (nD c).toNat (D.int (0 : Int)) = x.snd ∧ True) ∧ ∀ (x : Nat × List D), x.fst ≤ (madeD c w).len ∧ x.snd = tmS (nD c).toNat (madeD c w)
x.fst → (madeD c w).len - x.fst < LIM ∧ ((↑x.fst : Int) < (↑(madeD c w).len : Int) → (0 : Int) ≤ (↑x.fst : Int) ∧ (↑x.fst : Int) < (↑(madeD c w).len : Int) ∧ (0 : Int) ≤ (↑x.fst : Int) ∧ (↑x.fst :
Int) < (↑(hosD (nD c).toNat (madeD c w)).length : Int) ∧ (((↑(nthD (hosD (nD c).toNat (madeD c w)) x.fst).len : Int) = (↑(el (madeD c w) x.fst).len : Int) → False) → (false = true ↔ True)) ∧
((((↑(nthD (hosD (nD c).toNat (madeD c w)) x.fst).len : Int) = (↑(el (madeD c w) x.fst).len : Int) → False) → False) → (∃ (x_1 : Nat × List D), (x_1.fst ≤ (el (madeD c w) x.fst).len ∧ x_1.snd = tmE
x.snd (el (madeD c w) x.fst) x_1.fst) ∧ ((0 : Int) = (↑x_1.fst : Int) ∧ True) ∧ x.snd = x_1.snd ∧ True) ∧ ∀ (x_1 : Nat × List D), x_1.fst ≤ (el (madeD c w) x.fst).len ∧ x_1.snd = tmE x.snd (el (madeD
c w) x.fst) x_1.fst → (el (madeD c w) x.fst).len - x_1.fst < LIM ∧ ((↑x_1.fst : Int) < (↑(el (madeD c w) x.fst).len : Int) → (0 : Int) ≤ (↑x_1.fst : Int) ∧ (↑x_1.fst : Int) < (↑(el (madeD c w)
x.fst).len : Int) ∧ (0 : Int) ≤ (↑x.fst : Int) ∧ (↑x.fst : Int) < (↑(hosD (nD c).toNat (madeD c w)).length : Int) ∧ (0 : Int) ≤ (↑x_1.fst : Int) ∧ (↑x_1.fst : Int) < (↑(nthD (hosD (nD c).toNat (madeD
c w)) x.fst).len : Int) ∧ (el (el (madeD c w) x.fst) x_1.fst).len ≤ (16777216 : Nat) ∧ ((hasN (el (el (madeD c w) x.fst) x_1.fst) (nAt (nthD (hosD (nD c).toNat (madeD c w)) x.fst) x_1.fst) → False) →
(false = true ↔ True)) ∧ (((hasN (el (el (madeD c w) x.fst) x_1.fst) (nAt (nthD (hosD (nD c).toNat (madeD c w)) x.fst) x_1.fst) → False) → False) → (∃ (x_2 : Nat), x_2.le (el (el (madeD c w) x.fst)
x_1.fst).len ∧ ((0 : Int) = (↑x_2 : Int) ∧ True) ∧ True) ∧ ∀ (x_2 : Nat), x_2.le (el (el (madeD c w) x.fst) x_1.fst).len → (el (el (madeD c w) x.fst) x_1.fst).len - x_2 < LIM ∧ ((↑x_2 : Int) < (↑(el
(el (madeD c w) x.fst) x_1.fst).len : Int) → (0 : Int) ≤ (↑x_2 : Int) ∧ (↑x_2 : Int) < (↑(el (el (madeD c w) x.fst) x_1.fst).len : Int) ∧ (0 : Int) ≤ nAt (el (el (madeD c w) x.fst) x_1.fst) x_2 ∧ nAt
(el (el (madeD c w) x.fst) x_1.fst) x_2 < (↑(nD c).toNat : Int) ∧ (nAt (el (el (madeD c w) x.fst) x_1.fst) x_2).toNat < x_1.snd.length ∧ (0 : Int) ≤ nAt (nthD (hosD (nD c).toNat (madeD c w)) x.fst)
x_1.fst ∧ nAt (nthD (hosD (nD c).toNat (madeD c w)) x.fst) x_1.fst < (↑(nD c).toNat : Int) ∧ (nAt (nthD (hosD (nD c).toNat (madeD c w)) x.fst) x_1.fst).toNat < x_1.snd.length ∧ (((nthD x_1.snd (nAt
(el (el (madeD c w) x.fst) x_1.fst) x_2).toNat).asInt < (nthD x_1.snd (nAt (nthD (hosD (nD c).toNat (madeD c w)) x.fst) x_1.fst).toNat).asInt → False) → (0 : Int) ≤ nAt (el (el (madeD c w) x.fst)
x_1.fst) x_2 ∧ nAt (el (el (madeD c w) x.fst) x_1.fst) x_2 < (↑(nD c).toNat : Int) ∧ (nAt (el (el (madeD c w) x.fst) x_1.fst) x_2).toNat < x_1.snd.length ∧ (0 : Int) ≤ nAt (nthD (hosD (nD c).toNat
(madeD c w)) x.fst) x_1.fst ∧ nAt (nthD (hosD (nD c).toNat (madeD c w)) x.fst) x_1.fst < (↑(nD c).toNat : Int) ∧ (nAt (nthD (hosD (nD c).toNat (madeD c w)) x.fst) x_1.fst).toNat < x_1.snd.length ∧
((nthD x_1.snd (nAt (el (el (madeD c w) x.fst) x_1.fst) x_2).toNat).asInt = (nthD x_1.snd (nAt (nthD (hosD (nD c).toNat (madeD c w)) x.fst) x_1.fst).toNat).asInt → (nAt (el (el (madeD c w) x.fst)
x_1.fst) x_2 < nAt (nthD (hosD (nD c).toNat (madeD c w)) x.fst) x_1.fst → (false = true ↔ True)) ∧ ((nAt (el (el (madeD c w) x.fst) x_1.fst) x_2 < nAt (nthD (hosD (nD c).toNat (madeD c w)) x.fst)
x_1.fst → False) → ((-9223372036854775808 : Int) ≤ (↑x_2 : Int) + (1 : Int) ∧ (↑x_2 : Int) + (1 : Int) < (9223372036854775808 : Int)) ∧ ∃ (y : Nat), y.le (el (el (madeD c w) x.fst) x_1.fst).len ∧ (el
(el (madeD c w) x.fst) x_1.fst).len - y < (el (el (madeD c w) x.fst) x_1.fst).len - x_2 ∧ ((↑x_2 : Int) + (1 : Int) = (↑y : Int) ∧ True) ∧ True)) ∧ (((nthD x_1.snd (nAt (el (el (madeD c w) x.fst)
x_1.fst) x_2).toNat).asInt = (nthD x_1.snd (nAt (nthD (hosD (nD c).toNat (madeD c w)) x.fst) x_1.fst).toNat).asInt → False) → ((-9223372036854775808 : Int) ≤ (↑x_2 : Int) + (1 : Int) ∧ (↑x_2 : Int) +
(1 : Int) < (9223372036854775808 : Int)) ∧ ∃ (y : Nat), y.le (el (el (madeD c w) x.fst) x_1.fst).len ∧ (el (el (madeD c w) x.fst) x_1.fst).len - y < (el (el (madeD c w) x.fst) x_1.fst).len - x_2 ∧
((↑x_2 : Int) + (1 : Int) = (↑y : Int) ∧ True) ∧ True)) ∧ ((nthD x_1.snd (nAt (el (el (madeD c w) x.fst) x_1.fst) x_2).toNat).asInt < (nthD x_1.snd (nAt (nthD (hosD (nD c).toNat (madeD c w)) x.fst)
x_1.fst).toNat).asInt → (false = true ↔ True))) ∧ (((↑x_2 : Int) < (↑(el (el (madeD c w) x.fst) x_1.fst).len : Int) → False) → (0 : Int) ≤ nAt (nthD (hosD (nD c).toNat (madeD c w)) x.fst) x_1.fst ∧
nAt (nthD (hosD (nD c).toNat (madeD c w)) x.fst) x_1.fst < (↑(nD c).toNat : Int) ∧ (nAt (nthD (hosD (nD c).toNat (madeD c w)) x.fst) x_1.fst).toNat < x_1.snd.length ∧ ((-9223372036854775808 : Int) ≤
(nthD x_1.snd (nAt (nthD (hosD (nD c).toNat (madeD c w)) x.fst) x_1.fst).toNat).asInt + (1 : Int) ∧ (nthD x_1.snd (nAt (nthD (hosD (nD c).toNat (madeD c w)) x.fst) x_1.fst).toNat).asInt + (1 : Int) <
(9223372036854775808 : Int)) ∧ (0 : Int) ≤ nAt (nthD (hosD (nD c).toNat (madeD c w)) x.fst) x_1.fst ∧ nAt (nthD (hosD (nD c).toNat (madeD c w)) x.fst) x_1.fst < (↑(nD c).toNat : Int) ∧ (nAt (nthD
(hosD (nD c).toNat (madeD c w)) x.fst) x_1.fst).toNat < x_1.snd.length ∧ ((-9223372036854775808 : Int) ≤ (↑x_1.fst : Int) + (1 : Int) ∧ (↑x_1.fst : Int) + (1 : Int) < (9223372036854775808 : Int)) ∧ ∃
(y : Nat × List D), (y.fst ≤ (el (madeD c w) x.fst).len ∧ y.snd = tmE x.snd (el (madeD c w) x.fst) y.fst) ∧ (el (madeD c w) x.fst).len - y.fst < (el (madeD c w) x.fst).len - x_1.fst ∧ ((↑x_1.fst :
Int) + (1 : Int) = (↑y.fst : Int) ∧ True) ∧ x_1.snd.set (nAt (nthD (hosD (nD c).toNat (madeD c w)) x.fst) x_1.fst).toNat (D.int ((nthD x_1.snd (nAt (nthD (hosD (nD c).toNat (madeD c w)) x.fst)
x_1.fst).toNat).asInt + (1 : Int))) = y.snd ∧ True))) ∧ (((↑x_1.fst : Int) < (↑(el (madeD c w) x.fst).len : Int) → False) → ((-9223372036854775808 : Int) ≤ (↑x.fst : Int) + (1 : Int) ∧ (↑x.fst : Int)
+ (1 : Int) < (9223372036854775808 : Int)) ∧ ∃ (y : Nat × List D), (y.fst ≤ (madeD c w).len ∧ y.snd = tmS (nD c).toNat (madeD c w) y.fst) ∧ (madeD c w).len - y.fst < (madeD c w).len - x.fst ∧ ((↑x.fst
: Int) + (1 : Int) = (↑y.fst : Int) ∧ True) ∧ x_1.snd = y.snd ∧ True))) ∧ (((↑x.fst : Int) < (↑(madeD c w).len : Int) → False) → (true = true ↔ True)))) := by intros; kernel_rfl
theorem cnt_perm {l l' : List D} (h : l.Perm l') (x : Int) : cntF l x = cntF l' x := by
 induction h with
 | nil => rfl
 | cons a _ ih => rw [cntF_cons, cntF_cons, ih]
 | swap a b l => rw [cntF_cons, cntF_cons, cntF_cons, cntF_cons]; omega
 | trans _ _ h1 h2 => exact h1.trans h2
theorem cnt_id (x : Int) : ∀ m : Nat, cntF (idL m) x = if 0 ≤ x ∧ x < m then 1 else 0
 | 0 => by rw [if_neg (by omega)]; rfl
 | m + 1 => by
  rw [← id_succ, cntF_app, cnt_id x m]
  show _ + (0 + if (m : Int) = x then 1 else 0) = _
  by_cases h1 : (m : Int) = x
  ·rw [if_pos h1, if_neg (by omega), if_pos (by omega)]; rfl
  ·rw [if_neg h1]
   by_cases h2 : 0 ≤ x ∧ x < m
   ·rw [if_pos h2, if_pos (by omega)]; rfl
   ·rw [if_neg h2, if_neg (by omega)]; rfl
theorem flat_map (ev : D) : ∀ n, n ≤ ev.len → flatL ev n = ((ev.asList.take n).map D.asList).flatten
 | 0, _ => rfl
 | n + 1, h => by
  show flatL ev n ++ (el ev n).asList = _
  rw [flat_map ev n (by omega), take_succ_nth (show n < ev.asList.length from h), List.map_append, List.flatten_append]
  show _ = _ ++ ([(nthD ev.asList n).asList].flatten)
  simp [el]
theorem scan_zero {n : Int} {s : D} : ∀ f i, (∀ k, i ≤ k → k < i + f → errE n .nil (el s k) = 0) → scanK n .nil s f i = (0, 0)
 | 0, _, _ => rfl
 | f + 1, i, h => by
  unfold scanK
  rw [if_neg (fun hne => hne (h i (Nat.le_refl _) (by omega)))]
  exact scan_zero f (i + 1) fun k h1 h2 => h k (by omega) (by omega)
theorem made_good {c w : D} (hc : u8L c) (hw : u8W w) : goodS (nD c) (madeD c w) := by
 have hz := sz_p hc
 have hn := hz.n1
 have hml := made_len c w
 have h10 := sub10_len w
 have hevl : ∀ i, i < (madeD c w).len → (el (madeD c w) i).len = (szD c).len := fun i hi => by
  rw [made_el hi]; exact tab_len _ _ _
 have hl1 := hz.l1
 have hev : ∀ i, i < (madeD c w).len → errE (nD c) .nil (el (madeD c w) i) = 0 := fun i hi => by
  have h1 : ¬ emptyP (el (madeD c w) i) := fun ⟨j, hj, h0⟩ => by
   have h2 := made_tab (w := w) hc hi (j := j) (by rw [hevl i hi] at hj; exact hj)
   have h3 := hz.at1 j (by rw [hevl i hi] at hj; exact hj)
   omega
  rw [errE_g (n := nD c) (sz := D.nil) h1 (fun h => absurd h (Nat.lt_irrefl 0))]
  have hp := made_flat hc hw hi
  have hf := flat_map (el (madeD c w) i) _ (Nat.le_refl _)
  rw [show (el (madeD c w) i).asList.take (el (madeD c w) i).len = (el (madeD c w) i).asList from List.take_length] at hf
  rw [← hf] at hp
  refine errG_0 (fun ⟨a, ha, hna⟩ => hna ?_) (fun v hv => ?_) (fun v hv => ?_)
  ·obtain ⟨k, hk, rfl⟩ := List.mem_map.1 (hp.mem_iff.1 ha)
   have hk := List.mem_range.1 hk
   show 0 ≤ (k : Int) ∧ (k : Int) < nD c
   omega
  ·rw [cnt_perm hp, cnt_id]; split <;> omega
  ·rw [cnt_perm hp, cnt_id, if_pos (by omega)]; decide
 refine ⟨⟨by omega, by omega⟩, ⟨⟨by omega, fun i hi => ⟨⟨by rw [hevl i hi]; omega, fun j hj => ?_⟩⟩⟩⟩, ?_⟩
 ·have h2 := made_tab (w := w) hc hi (j := j) (by rw [hevl i hi] at hj; exact hj)
  have h3 := hz.at1 j (by rw [hevl i hi] at hj; exact hj)
  omega
 ·unfold chk
  rw [if_neg (fun h => by rcases h with h | h; exact h ⟨by omega, by omega⟩; exact absurd h.1 (Nat.lt_irrefl 0)), if_neg (by omega)]
  exact scan_zero _ _ fun k _ hk => hev k (by omega)
theorem sl3 (c w : D) (hc : u8L c) (hw : u8W w) : symFun (ctx ch3 hoAnn) 4 3 [.dat 22 c, .dat 23 w] (.prop True) := by
 rw [vc3]
 have h := made_good hc hw
 refine ⟨⟨hc, hw⟩, h, ?_⟩
 generalize madeD c w = s at h ⊢
 generalize nD c = n at h ⊢
 have hn := h.n1
 have hb := h.big.out.1
 have hl : (hosD n.toNat s).length = s.len := ho_len _ _ _
 refine ⟨fun hne => (hne (by omega)).elim, fun _ => ⟨by omega, Int.le_refl _, by omega, by omega, ⟨(0, zerL n.toNat), ⟨Nat.zero_le _, rfl⟩, ⟨rfl, trivial⟩, rfl, trivial⟩, fun x ⟨hx1, hx2⟩ => ⟨limS (by omega), fun hlt => ?_, fun _ => Iff.rfl.trans (by simp)⟩⟩⟩
 have hi : x.1 < s.len := by omega
 have hsm := (h.big.out.2 x.1 hi).out
 have htab : ∀ j, j < (el s x.1).len → tabP n (el (el s x.1) j) := fun j hj => good_tab h hi hj
 have hT := tmS_bnd h x.1 hx1
 have hrow : nthD (hosD n.toNat s) x.1 = .list (rwE x.2 (el s x.1) (el s x.1).len) := by rw [hx2]; exact ho_at _ _ hi
 rw [← hx2] at hT
 have hrl : (nthD (hosD n.toNat s) x.1).len = (el s x.1).len := by rw [hrow]; exact rw_len _ _ _
 refine ⟨by omega, hlt, by omega, by omega, fun hne => (hne (by omega)).elim, fun _ => ⟨⟨(0, x.2), ⟨Nat.zero_le _, rfl⟩, ⟨rfl, trivial⟩, rfl, trivial⟩, fun y ⟨hy1, hy2⟩ => ⟨limS (by omega), fun hlt2 => ?_, fun hge2 => ?_⟩⟩⟩
 ·have hj : y.1 < (el s x.1).len := by omega
  have ht := htab y.1 hj
  have htp := ht.pos
  have htl := hsm.2 y.1 hj
  have hbd := tmE_bnd (n := n) (by omega) hT htab y.1 hy1
  rw [← hy2] at hbd
  have hlen := hbd.len
  have hh : nAt (nthD (hosD n.toNat s) x.1) y.1 = hostF y.2 (el (el s x.1) y.1) := by
   rw [hrow, hy2]
   show (nthD (rwE x.2 (el s x.1) (el s x.1).len) y.1).asInt = _
   rw [rw_at _ _ _ hj]; rfl
  rw [hh]
  have hr := host_rng y.2 ht
  have hbr := hbd.rng (hostF y.2 (el (el s x.1) y.1)).toNat (by omega)
  have hhas : hasN (el (el s x.1) y.1) (hostF y.2 (el (el s x.1) y.1)) := by
   rw [host_pk _ htp]
   obtain ⟨k, h1, h2⟩ := pk_mem (T := y.2) (tb := el (el s x.1) y.1) _ (Nat.le_refl _)
   exact ⟨⟨k, by omega, h2.symm⟩⟩
  have hmin : ∀ k, k < (el (el s x.1) y.1).len → ¬ lessP y.2 (nAt (el (el s x.1) y.1) k) (hostF y.2 (el (el s x.1) y.1)) := fun k hk => by
   rw [host_pk _ htp]; exact pk_min _ (Nat.le_refl _) k (by omega)
  refine ⟨by omega, hlt2, by omega, by omega, by omega, by omega, by omega, fun hno => (hno hhas).elim, fun _ => ⟨⟨0, Nat.zero_le _, ⟨rfl, trivial⟩, trivial⟩, fun z hz => ⟨limS (by omega), fun hlt3 => ?_, fun hge3 => ?_⟩⟩⟩
  ·have hz1 : z < (el (el s x.1) y.1).len := by omega
   have q1 := ht.rng z hz1
   have hm := hmin z hz1
   refine ⟨by omega, hlt3, q1.1, by omega, by omega, hr.1, by omega, by omega, fun hnl => ⟨q1.1, by omega, by omega, hr.1, by omega, by omega, fun heq => ⟨fun hl => (hm ⟨.inr ⟨heq, hl⟩⟩).elim, fun _ => ⟨⟨by omega, by omega⟩, z + 1, by show z + 1 ≤ _; omega, by omega, ⟨by omega, trivial⟩, trivial⟩⟩, fun _ => ⟨⟨by omega, by omega⟩, z + 1, by show z + 1 ≤ _; omega, by omega, ⟨by omega, trivial⟩, trivial⟩⟩, fun hl => (hm ⟨.inl hl⟩).elim⟩
  ·refine ⟨hr.1, by omega, by omega, ⟨by omega, by omega⟩, hr.1, by omega, by omega, ⟨by omega, by omega⟩, (y.1 + 1, tmE x.2 (el s x.1) (y.1 + 1)), ⟨by show y.1 + 1 ≤ _; omega, rfl⟩, by show _ - (y.1 + 1) < _; omega, ⟨by show (y.1 : Int) + 1 = ((y.1 + 1 : Nat) : Int); omega, trivial⟩, ?_, trivial⟩
   show bumpL y.2 (hostF y.2 (el (el s x.1) y.1)) = bumpL (tmE x.2 (el s x.1) y.1) (hostF (tmE x.2 (el s x.1) y.1) (el (el s x.1) y.1))
   rw [hy2]
 ·have hge2 := not_of hge2
  have ej : y.1 = (el s x.1).len := by omega
  refine ⟨⟨by omega, by omega⟩, (x.1 + 1, tmS n.toNat s (x.1 + 1)), ⟨by show x.1 + 1 ≤ _; omega, rfl⟩, by show _ - (x.1 + 1) < _; omega, ⟨by show (x.1 : Int) + 1 = ((x.1 + 1 : Nat) : Int); omega, trivial⟩, ?_, trivial⟩
  show y.2 = tmE (tmS n.toNat s x.1) (el s x.1) (el s x.1).len
  rw [hy2, hx2, ej]
end Go.Ev

end
