/-
  Part of the engine that the claim is proved with: it states nothing of the document by itself.
-/
import Derived.Test.YtidhienppjdimaaGreatDoorCoreG23
open Go.Proofs
namespace Go.Ev
set_option maxRecDepth 100000
set_option maxHeartbeats 4000000
theorem vc72 : ∀ (c : D) (i : Int), symFun (ctx cc1 ccAnn) (3 : Nat) (72 : FuncId) [V.dat (22 : TypeId) c, V.int IntKind.i64 i] (V.int IntKind.i64 (err1 c i.toNat)) = ((0 : Int) ≤ i ∧ i < (↑c.len :
Int) ∧ True ∧ ((formP (cK (el c i.toNat)) (cA (el c i.toNat)) (cL (el c i.toNat)) (cNm (el c i.toNat)).len (cN (el c i.toNat)) → False) → (30 : Int) = err1 c i.toNat) ∧ (((formP (cK (el c i.toNat))
(cA (el c i.toNat)) (cL (el c i.toNat)) (cNm (el c i.toNat)).len (cN (el c i.toNat)) → False) → False) → (0 : Int) ≤ i ∧ i < (↑c.len : Int) ∧ ((cA (el c i.toNat) = [] → False) → (0 : Int) ≤ i ∧ i <
(↑c.len : Int) ∧ True ∧ ((nameP (cA (el c i.toNat)) → False) → (4 : Int) = err1 c i.toNat) ∧ (((nameP (cA (el c i.toNat)) → False) → False) → (∃ (x : Nat), (x ≤ (cNm (el c i.toNat)).len ∧ ∀ (i_1 :
Nat), i_1 < x → nameP (sAt (cNm (el c i.toNat)) i_1)) ∧ ((0 : Int) = (↑x : Int) ∧ True) ∧ True) ∧ ∀ (x : Nat), (x ≤ (cNm (el c i.toNat)).len ∧ ∀ (i_1 : Nat), i_1 < x → nameP (sAt (cNm (el c i.toNat))
i_1)) → (cNm (el c i.toNat)).len - x < LIM ∧ (0 : Int) ≤ i ∧ i < (↑c.len : Int) ∧ ((↑x : Int) < (↑(cNm (el c i.toNat)).len : Int) → (0 : Int) ≤ i ∧ i < (↑c.len : Int) ∧ (0 : Int) ≤ (↑x : Int) ∧ (↑x :
Int) < (↑(cNm (el c i.toNat)).len : Int) ∧ True ∧ ((nameP (sAt (cNm (el c i.toNat)) x) → False) → (4 : Int) = err1 c i.toNat) ∧ (((nameP (sAt (cNm (el c i.toNat)) x) → False) → False) →
((-9223372036854775808 : Int) ≤ (↑x : Int) + (1 : Int) ∧ (↑x : Int) + (1 : Int) < (9223372036854775808 : Int)) ∧ ∃ (y : Nat), (y ≤ (cNm (el c i.toNat)).len ∧ ∀ (i_1 : Nat), i_1 < y → nameP (sAt (cNm
(el c i.toNat)) i_1)) ∧ (cNm (el c i.toNat)).len - y < (cNm (el c i.toNat)).len - x ∧ ((↑x : Int) + (1 : Int) = (↑y : Int) ∧ True) ∧ True)) ∧ (((↑x : Int) < (↑(cNm (el c i.toNat)).len : Int) → False)
→ (∃ (x : Nat), (x ≤ (cNm (el c i.toNat)).len ∧ ∀ (i_1 k : Nat), k < i_1 → i_1 < x → sAt (cNm (el c i.toNat)) k = sAt (cNm (el c i.toNat)) i_1 → False) ∧ ((0 : Int) = (↑x : Int) ∧ True) ∧ True) ∧ ∀ (x
: Nat), (x ≤ (cNm (el c i.toNat)).len ∧ ∀ (i_1 k : Nat), k < i_1 → i_1 < x → sAt (cNm (el c i.toNat)) k = sAt (cNm (el c i.toNat)) i_1 → False) → (cNm (el c i.toNat)).len - x < LIM ∧ (0 : Int) ≤ i ∧ i
< (↑c.len : Int) ∧ ((↑x : Int) < (↑(cNm (el c i.toNat)).len : Int) → (0 : Int) ≤ i ∧ i < (↑c.len : Int) ∧ (0 : Int) ≤ (0 : Int) ∧ (0 : Int) ≤ (↑x : Int) ∧ (↑x : Int) ≤ (↑(cNm (el c i.toNat)).len :
Int) ∧ (0 : Int) ≤ i ∧ i < (↑c.len : Int) ∧ (0 : Int) ≤ (↑x : Int) ∧ (↑x : Int) < (↑(cNm (el c i.toNat)).len : Int) ∧ ((cNm (el c i.toNat)).sub (0 : Nat) x).len ≤ (100 : Nat) ∧ (hasP ((cNm (el c
i.toNat)).sub (0 : Nat) x) (sAt (cNm (el c i.toNat)) x) → (5 : Int) = err1 c i.toNat) ∧ ((hasP ((cNm (el c i.toNat)).sub (0 : Nat) x) (sAt (cNm (el c i.toNat)) x) → False) → ((-9223372036854775808 :
Int) ≤ (↑x : Int) + (1 : Int) ∧ (↑x : Int) + (1 : Int) < (9223372036854775808 : Int)) ∧ ∃ (y : Nat), (y ≤ (cNm (el c i.toNat)).len ∧ ∀ (i_1 k : Nat), k < i_1 → i_1 < y → sAt (cNm (el c i.toNat)) k =
sAt (cNm (el c i.toNat)) i_1 → False) ∧ (cNm (el c i.toNat)).len - y < (cNm (el c i.toNat)).len - x ∧ ((↑x : Int) + (1 : Int) = (↑y : Int) ∧ True) ∧ True)) ∧ (((↑x : Int) < (↑(cNm (el c i.toNat)).len
: Int) → False) → (0 : Int) ≤ i ∧ i < (↑c.len : Int) ∧ (cA (el c i.toNat) = [] → (0 : Int) = err1 c i.toNat) ∧ ((cA (el c i.toNat) = [] → False) → (∃ (x : Nat), (x ≤ i.toNat ∧ ∀ (k : Nat), k < x → cK
(el c k) = (1 : Int) ∧ hasP (cNm (el c k)) (cA (el c i.toNat)) → False) ∧ ((0 : Int) = (↑x : Int) ∧ True) ∧ True) ∧ ∀ (x : Nat), (x ≤ i.toNat ∧ ∀ (k : Nat), k < x → cK (el c k) = (1 : Int) ∧ hasP (cNm
(el c k)) (cA (el c i.toNat)) → False) → i.toNat - x < LIM ∧ ((↑x : Int) < i → (0 : Int) ≤ (↑x : Int) ∧ (↑x : Int) < (↑c.len : Int) ∧ (cK (el c x) = (1 : Int) → (0 : Int) ≤ (↑x : Int) ∧ (↑x : Int) <
(↑c.len : Int) ∧ (0 : Int) ≤ i ∧ i < (↑c.len : Int) ∧ (cNm (el c x)).len ≤ (100 : Nat) ∧ (hasP (cNm (el c x)) (cA (el c i.toNat)) → (0 : Int) = err1 c i.toNat) ∧ ((hasP (cNm (el c x)) (cA (el c
i.toNat)) → False) → ((-9223372036854775808 : Int) ≤ (↑x : Int) + (1 : Int) ∧ (↑x : Int) + (1 : Int) < (9223372036854775808 : Int)) ∧ ∃ (y : Nat), (y ≤ i.toNat ∧ ∀ (k : Nat), k < y → cK (el c k) = (1
: Int) ∧ hasP (cNm (el c k)) (cA (el c i.toNat)) → False) ∧ i.toNat - y < i.toNat - x ∧ ((↑x : Int) + (1 : Int) = (↑y : Int) ∧ True) ∧ True)) ∧ ((cK (el c x) = (1 : Int) → False) →
((-9223372036854775808 : Int) ≤ (↑x : Int) + (1 : Int) ∧ (↑x : Int) + (1 : Int) < (9223372036854775808 : Int)) ∧ ∃ (y : Nat), (y ≤ i.toNat ∧ ∀ (k : Nat), k < y → cK (el c k) = (1 : Int) ∧ hasP (cNm
(el c k)) (cA (el c i.toNat)) → False) ∧ i.toNat - y < i.toNat - x ∧ ((↑x : Int) + (1 : Int) = (↑y : Int) ∧ True) ∧ True)) ∧ (((↑x : Int) < i → False) → (31 : Int) = err1 c i.toNat)))))) ∧ (((cA (el c
i.toNat) = [] → False) → False) → (∃ (x : Nat), (x ≤ (cNm (el c i.toNat)).len ∧ ∀ (i_1 : Nat), i_1 < x → nameP (sAt (cNm (el c i.toNat)) i_1)) ∧ ((0 : Int) = (↑x : Int) ∧ True) ∧ True) ∧ ∀ (x : Nat),
(x ≤ (cNm (el c i.toNat)).len ∧ ∀ (i_1 : Nat), i_1 < x → nameP (sAt (cNm (el c i.toNat)) i_1)) → (cNm (el c i.toNat)).len - x < LIM ∧ (0 : Int) ≤ i ∧ i < (↑c.len : Int) ∧ ((↑x : Int) < (↑(cNm (el c
i.toNat)).len : Int) → (0 : Int) ≤ i ∧ i < (↑c.len : Int) ∧ (0 : Int) ≤ (↑x : Int) ∧ (↑x : Int) < (↑(cNm (el c i.toNat)).len : Int) ∧ True ∧ ((nameP (sAt (cNm (el c i.toNat)) x) → False) → (4 : Int) =
err1 c i.toNat) ∧ (((nameP (sAt (cNm (el c i.toNat)) x) → False) → False) → ((-9223372036854775808 : Int) ≤ (↑x : Int) + (1 : Int) ∧ (↑x : Int) + (1 : Int) < (9223372036854775808 : Int)) ∧ ∃ (y :
Nat), (y ≤ (cNm (el c i.toNat)).len ∧ ∀ (i_1 : Nat), i_1 < y → nameP (sAt (cNm (el c i.toNat)) i_1)) ∧ (cNm (el c i.toNat)).len - y < (cNm (el c i.toNat)).len - x ∧ ((↑x : Int) + (1 : Int) = (↑y :
Int) ∧ True) ∧ True)) ∧ (((↑x : Int) < (↑(cNm (el c i.toNat)).len : Int) → False) → (∃ (x : Nat), (x ≤ (cNm (el c i.toNat)).len ∧ ∀ (i_1 k : Nat), k < i_1 → i_1 < x → sAt (cNm (el c i.toNat)) k = sAt
(cNm (el c i.toNat)) i_1 → False) ∧ ((0 : Int) = (↑x : Int) ∧ True) ∧ True) ∧ ∀ (x : Nat), (x ≤ (cNm (el c i.toNat)).len ∧ ∀ (i_1 k : Nat), k < i_1 → i_1 < x → sAt (cNm (el c i.toNat)) k = sAt (cNm
(el c i.toNat)) i_1 → False) → (cNm (el c i.toNat)).len - x < LIM ∧ (0 : Int) ≤ i ∧ i < (↑c.len : Int) ∧ ((↑x : Int) < (↑(cNm (el c i.toNat)).len : Int) → (0 : Int) ≤ i ∧ i < (↑c.len : Int) ∧ (0 :
Int) ≤ (0 : Int) ∧ (0 : Int) ≤ (↑x : Int) ∧ (↑x : Int) ≤ (↑(cNm (el c i.toNat)).len : Int) ∧ (0 : Int) ≤ i ∧ i < (↑c.len : Int) ∧ (0 : Int) ≤ (↑x : Int) ∧ (↑x : Int) < (↑(cNm (el c i.toNat)).len :
Int) ∧ ((cNm (el c i.toNat)).sub (0 : Nat) x).len ≤ (100 : Nat) ∧ (hasP ((cNm (el c i.toNat)).sub (0 : Nat) x) (sAt (cNm (el c i.toNat)) x) → (5 : Int) = err1 c i.toNat) ∧ ((hasP ((cNm (el c
i.toNat)).sub (0 : Nat) x) (sAt (cNm (el c i.toNat)) x) → False) → ((-9223372036854775808 : Int) ≤ (↑x : Int) + (1 : Int) ∧ (↑x : Int) + (1 : Int) < (9223372036854775808 : Int)) ∧ ∃ (y : Nat), (y ≤
(cNm (el c i.toNat)).len ∧ ∀ (i_1 k : Nat), k < i_1 → i_1 < y → sAt (cNm (el c i.toNat)) k = sAt (cNm (el c i.toNat)) i_1 → False) ∧ (cNm (el c i.toNat)).len - y < (cNm (el c i.toNat)).len - x ∧ ((↑x
: Int) + (1 : Int) = (↑y : Int) ∧ True) ∧ True)) ∧ (((↑x : Int) < (↑(cNm (el c i.toNat)).len : Int) → False) → (0 : Int) ≤ i ∧ i < (↑c.len : Int) ∧ (cA (el c i.toNat) = [] → (0 : Int) = err1 c
i.toNat) ∧ ((cA (el c i.toNat) = [] → False) → (∃ (x : Nat), (x ≤ i.toNat ∧ ∀ (k : Nat), k < x → cK (el c k) = (1 : Int) ∧ hasP (cNm (el c k)) (cA (el c i.toNat)) → False) ∧ ((0 : Int) = (↑x : Int) ∧
True) ∧ True) ∧ ∀ (x : Nat), (x ≤ i.toNat ∧ ∀ (k : Nat), k < x → cK (el c k) = (1 : Int) ∧ hasP (cNm (el c k)) (cA (el c i.toNat)) → False) → i.toNat - x < LIM ∧ ((↑x : Int) < i → (0 : Int) ≤ (↑x :
Int) ∧ (↑x : Int) < (↑c.len : Int) ∧ (cK (el c x) = (1 : Int) → (0 : Int) ≤ (↑x : Int) ∧ (↑x : Int) < (↑c.len : Int) ∧ (0 : Int) ≤ i ∧ i < (↑c.len : Int) ∧ (cNm (el c x)).len ≤ (100 : Nat) ∧ (hasP
(cNm (el c x)) (cA (el c i.toNat)) → (0 : Int) = err1 c i.toNat) ∧ ((hasP (cNm (el c x)) (cA (el c i.toNat)) → False) → ((-9223372036854775808 : Int) ≤ (↑x : Int) + (1 : Int) ∧ (↑x : Int) + (1 : Int)
< (9223372036854775808 : Int)) ∧ ∃ (y : Nat), (y ≤ i.toNat ∧ ∀ (k : Nat), k < y → cK (el c k) = (1 : Int) ∧ hasP (cNm (el c k)) (cA (el c i.toNat)) → False) ∧ i.toNat - y < i.toNat - x ∧ ((↑x : Int) +
(1 : Int) = (↑y : Int) ∧ True) ∧ True)) ∧ ((cK (el c x) = (1 : Int) → False) → ((-9223372036854775808 : Int) ≤ (↑x : Int) + (1 : Int) ∧ (↑x : Int) + (1 : Int) < (9223372036854775808 : Int)) ∧ ∃ (y :
Nat), (y ≤ i.toNat ∧ ∀ (k : Nat), k < y → cK (el c k) = (1 : Int) ∧ hasP (cNm (el c k)) (cA (el c i.toNat)) → False) ∧ i.toNat - y < i.toNat - x ∧ ((↑x : Int) + (1 : Int) = (↑y : Int) ∧ True) ∧ True))
∧ (((↑x : Int) < i → False) → (31 : Int) = err1 c i.toNat))))))) := by intros; kernel_rfl
theorem vc65 : ∀ (b : D) (k : Int) (a : List UInt8) (la : Prop) (nm : D) (n : Int), symFun (ctx cc2 ccAnn) (6 : Nat) (65 : FuncId) [V.dat (22 : TypeId) b, V.agg [V.int IntKind.u8 k, V.str a, V.prop
la, V.dat (23 : TypeId) nm, V.int IntKind.i64 n]] (V.int IntKind.i64 (errC b b.len k a la nm n)) = (True ∧ ((formP k a la nm.len n → False) → (30 : Int) = errC b b.len k a la nm n) ∧ (((formP k a la
nm.len n → False) → False) → (∃ (x : Nat), (x ≤ nm.len ∧ ∀ (i : Nat), i < x → nameP (sAt nm i)) ∧ ((0 : Int) = (↑x : Int) ∧ True) ∧ True) ∧ ∀ (x : Nat), (x ≤ nm.len ∧ ∀ (i : Nat), i < x → nameP (sAt
nm i)) → nm.len - x < LIM ∧ ((↑x : Int) < (↑nm.len : Int) → (0 : Int) ≤ (↑x : Int) ∧ (↑x : Int) < (↑nm.len : Int) ∧ True ∧ ((nameP (sAt nm x) → False) → (((0 : Int) ≤ (↑x : Int) → False) → ((a = [] →
False) → True ∧ ((nameP a → False) → (4 : Int) = errC b b.len k a la nm n) ∧ (((nameP a → False) → False) → nm.len ≤ (100 : Nat) ∧ (twiceP nm → (5 : Int) = errC b b.len k a la nm n) ∧ ((twiceP nm →
False) → ((a = [] → False) → smallC b ∧ ((listedP b b.len a → False) → (31 : Int) = errC b b.len k a la nm n) ∧ (((listedP b b.len a → False) → False) → (0 : Int) = errC b b.len k a la nm n)) ∧ (((a =
[] → False) → False) → (0 : Int) = errC b b.len k a la nm n)))) ∧ (((a = [] → False) → False) → nm.len ≤ (100 : Nat) ∧ (twiceP nm → (5 : Int) = errC b b.len k a la nm n) ∧ ((twiceP nm → False) → ((a =
[] → False) → smallC b ∧ ((listedP b b.len a → False) → (31 : Int) = errC b b.len k a la nm n) ∧ (((listedP b b.len a → False) → False) → (0 : Int) = errC b b.len k a la nm n)) ∧ (((a = [] → False) →
False) → (0 : Int) = errC b b.len k a la nm n)))) ∧ ((0 : Int) ≤ (↑x : Int) → (4 : Int) = errC b b.len k a la nm n)) ∧ (((nameP (sAt nm x) → False) → False) → ((-9223372036854775808 : Int) ≤ (↑x :
Int) + (1 : Int) ∧ (↑x : Int) + (1 : Int) < (9223372036854775808 : Int)) ∧ ∃ (y : Nat), (y ≤ nm.len ∧ ∀ (i : Nat), i < y → nameP (sAt nm i)) ∧ nm.len - y < nm.len - x ∧ ((↑x : Int) + (1 : Int) = (↑y :
Int) ∧ True) ∧ True)) ∧ (((↑x : Int) < (↑nm.len : Int) → False) → ((a = [] → False) → True ∧ ((nameP a → False) → (4 : Int) = errC b b.len k a la nm n) ∧ (((nameP a → False) → False) → nm.len ≤ (100 :
Nat) ∧ (twiceP nm → (5 : Int) = errC b b.len k a la nm n) ∧ ((twiceP nm → False) → ((a = [] → False) → smallC b ∧ ((listedP b b.len a → False) → (31 : Int) = errC b b.len k a la nm n) ∧ (((listedP b
b.len a → False) → False) → (0 : Int) = errC b b.len k a la nm n)) ∧ (((a = [] → False) → False) → (0 : Int) = errC b b.len k a la nm n)))) ∧ (((a = [] → False) → False) → nm.len ≤ (100 : Nat) ∧
(twiceP nm → (5 : Int) = errC b b.len k a la nm n) ∧ ((twiceP nm → False) → ((a = [] → False) → smallC b ∧ ((listedP b b.len a → False) → (31 : Int) = errC b b.len k a la nm n) ∧ (((listedP b b.len a
→ False) → False) → (0 : Int) = errC b b.len k a la nm n)) ∧ (((a = [] → False) → False) → (0 : Int) = errC b b.len k a la nm n)))))) := by intros; kernel_rfl
theorem vc7 : ∀ (c : D), symFun (ctx (fun _ => none) fewAnn) (8 : Nat) (7 : FuncId) [V.dat (22 : TypeId) c] (V.prop (fewD c)) = (((↑c.len : Int) ≤ (40 : Int) → (∃ (x : Nat), (x ≤ c.len ∧ ∀ (i : Nat),
i < x → fewC (el c i)) ∧ ((0 : Int) = (↑x : Int) ∧ True) ∧ True) ∧ ∀ (x : Nat), (x ≤ c.len ∧ ∀ (i : Nat), i < x → fewC (el c i)) → c.len - x < LIM ∧ ((↑x : Int) < (↑c.len : Int) → (0 : Int) ≤ (↑x :
Int) ∧ (↑x : Int) < (↑c.len : Int) ∧ (((40 : Int) < (↑(cA (el c x)).length : Int) → False) → (((20 : Int) < (↑(cNm (el c x)).len : Int) → False) → (∃ (x_1 : Nat), (x_1 ≤ (cNm (el c x)).len ∧ ∀ (i :
Nat), i < x_1 → (sAt (cNm (el c x)) i).length ≤ (40 : Nat)) ∧ ((0 : Int) = (↑x_1 : Int) ∧ True) ∧ True) ∧ ∀ (x_1 : Nat), (x_1 ≤ (cNm (el c x)).len ∧ ∀ (i : Nat), i < x_1 → (sAt (cNm (el c x))
i).length ≤ (40 : Nat)) → (cNm (el c x)).len - x_1 < LIM ∧ ((↑x_1 : Int) < (↑(cNm (el c x)).len : Int) → (0 : Int) ≤ (↑x_1 : Int) ∧ (↑x_1 : Int) < (↑(cNm (el c x)).len : Int) ∧ ((40 : Int) < (↑(sAt
(cNm (el c x)) x_1).length : Int) → ((0 : Int) ≤ (↑x_1 : Int) → ((0 : Int) ≤ (↑x : Int) → False ↔ fewD c)) ∧ (((0 : Int) ≤ (↑x_1 : Int) → False) → ((-9223372036854775808 : Int) ≤ (↑x : Int) + (1 :
Int) ∧ (↑x : Int) + (1 : Int) < (9223372036854775808 : Int)) ∧ ∃ (y : Nat), (y ≤ c.len ∧ ∀ (i : Nat), i < y → fewC (el c i)) ∧ c.len - y < c.len - x ∧ ((↑x : Int) + (1 : Int) = (↑y : Int) ∧ True) ∧
True)) ∧ (((40 : Int) < (↑(sAt (cNm (el c x)) x_1).length : Int) → False) → ((-9223372036854775808 : Int) ≤ (↑x_1 : Int) + (1 : Int) ∧ (↑x_1 : Int) + (1 : Int) < (9223372036854775808 : Int)) ∧ ∃ (y :
Nat), (y ≤ (cNm (el c x)).len ∧ ∀ (i : Nat), i < y → (sAt (cNm (el c x)) i).length ≤ (40 : Nat)) ∧ (cNm (el c x)).len - y < (cNm (el c x)).len - x_1 ∧ ((↑x_1 : Int) + (1 : Int) = (↑y : Int) ∧ True) ∧
True)) ∧ (((↑x_1 : Int) < (↑(cNm (el c x)).len : Int) → False) → ((-9223372036854775808 : Int) ≤ (↑x : Int) + (1 : Int) ∧ (↑x : Int) + (1 : Int) < (9223372036854775808 : Int)) ∧ ∃ (y : Nat), (y ≤
c.len ∧ ∀ (i : Nat), i < y → fewC (el c i)) ∧ c.len - y < c.len - x ∧ ((↑x : Int) + (1 : Int) = (↑y : Int) ∧ True) ∧ True)) ∧ ((20 : Int) < (↑(cNm (el c x)).len : Int) → ((0 : Int) ≤ (↑x : Int) →
False ↔ fewD c))) ∧ ((40 : Int) < (↑(cA (el c x)).length : Int) → ((0 : Int) ≤ (↑x : Int) → False ↔ fewD c))) ∧ (((↑x : Int) < (↑c.len : Int) → False) → ((!false) = true ↔ fewD c))) ∧ (((↑c.len : Int)
≤ (40 : Int) → False) → (false = true ↔ fewD c))) := by intros; kernel_rfl
theorem vc28 : ∀ (c : D), symFun (ctx (fun _ => none) ccAnn) (5 : Nat) (28 : FuncId) [V.dat (22 : TypeId) c] (V.dat (22 : TypeId) (copyD c)) = (((∃ (x : Nat), x = (0 : Nat) ∧ ((0 : Int) = (0 : Int) ∧
True ∧ True) ∧ True) ∨ ∃ (x : Nat), ((0 : Nat) < x ∧ x ≤ c.len) ∧ ((0 : Int) = (↑x : Int) ∧ False ∧ True) ∧ False ∧ True) ∧ (∀ (x : Nat), x = (0 : Nat) → c.len - x < LIM ∧ ((0 : Int) < (↑c.len : Int)
→ (0 : Int) ≤ (0 : Int) ∧ (0 : Int) < (↑c.len : Int) ∧ ((cNm (el c (0 : Nat))).isNil → (0 : Nat) + (1 : Nat) ≤ [D.str [(115 : UInt8), (112 : UInt8), (97 : UInt8), (114 : UInt8), (101 : UInt8)]].length
∧ (1 : Nat) ≤ (16777216 : Nat) ∧ (0 : Int) ≤ (0 : Int) ∧ (0 : Int) ≤ (↑(cNm (el c (0 : Nat))).len : Int) ∧ ((↑(1 : Nat) : Int) - (↑(cNm (el c (0 : Nat))).len : Int)).NonNeg ∧ (0 : Nat) + (0 : Nat) +
(cNm (el c (0 : Nat))).len ≤ (List.take (1 : Nat) [D.str [(115 : UInt8), (112 : UInt8), (97 : UInt8), (114 : UInt8), (101 : UInt8)]]).length ∧ (0 : Nat) + (1 : Nat) ≤ [D.sct [D.int (cK (el c (0 :
Nat))), D.str (cA (el c (0 : Nat))), D.bool (cL (el c (0 : Nat))), D.list (List.take (cNm (el c (0 : Nat))).len (List.drop ((0 : Nat) + (0 : Nat)) (List.take (1 : Nat) [D.str [(115 : UInt8), (112 :
UInt8), (97 : UInt8), (114 : UInt8), (101 : UInt8)]]))), D.int (cN (el c (0 : Nat)))]].length ∧ (1 : Nat) ≤ (16777216 : Nat) ∧ ((-9223372036854775808 : Int) ≤ (0 : Int) + (1 : Int) ∧ (0 : Int) + (1 :
Int) < (9223372036854775808 : Int)) ∧ ((∃ (y : Nat), y = (0 : Nat) ∧ c.len - y < c.len - x ∧ ((0 : Int) + (1 : Int) = (0 : Int) ∧ False ∧ True) ∧ True) ∨ ∃ (y : Nat), ((0 : Nat) < y ∧ y ≤ c.len) ∧
c.len - y < c.len - x ∧ ((0 : Int) + (1 : Int) = (↑y : Int) ∧ ((0 : Nat) = (0 : Nat) ∧ (1 : Nat) = y ∧ True) ∧ True) ∧ List.take (1 : Nat) [D.sct [D.int (cK (el c (0 : Nat))), D.str (cA (el c (0 :
Nat))), D.bool (cL (el c (0 : Nat))), D.list (List.take (cNm (el c (0 : Nat))).len (List.drop ((0 : Nat) + (0 : Nat)) (List.take (1 : Nat) [D.str [(115 : UInt8), (112 : UInt8), (97 : UInt8), (114 :
UInt8), (101 : UInt8)]]))), D.int (cN (el c (0 : Nat)))]] = copyL c y ∧ True)) ∧ (((cNm (el c (0 : Nat))).isNil → False) → ((cNm (el c (0 : Nat))).len = (0 : Nat) → (0 : Nat) + (1 : Nat) ≤ [D.str
[(115 : UInt8), (112 : UInt8), (97 : UInt8), (114 : UInt8), (101 : UInt8)]].length ∧ (0 : Nat) + (0 : Nat) ≤ ([] : List D).length ∧ (0 : Nat) + (1 : Nat) ≤ (16777216 : Nat) ∧ (0 : Int) ≤ (0 : Int) ∧
(0 : Int) ≤ (↑(cNm (el c (0 : Nat))).len : Int) ∧ ((↑((0 : Nat) + (1 : Nat)) : Int) - (↑(cNm (el c (0 : Nat))).len : Int)).NonNeg ∧ (0 : Nat) + (0 : Nat) + (cNm (el c (0 : Nat))).len ≤ (List.take (0 :
Nat) ([] : List D) ++ List.take (1 : Nat) [D.str [(115 : UInt8), (112 : UInt8), (97 : UInt8), (114 : UInt8), (101 : UInt8)]]).length ∧ (0 : Nat) + (1 : Nat) ≤ [D.sct [D.int (cK (el c (0 : Nat))),
D.str (cA (el c (0 : Nat))), D.bool (cL (el c (0 : Nat))), D.list (List.take (cNm (el c (0 : Nat))).len (List.drop ((0 : Nat) + (0 : Nat)) (List.take (0 : Nat) ([] : List D) ++ List.take (1 : Nat)
[D.str [(115 : UInt8), (112 : UInt8), (97 : UInt8), (114 : UInt8), (101 : UInt8)]]))), D.int (cN (el c (0 : Nat)))]].length ∧ (1 : Nat) ≤ (16777216 : Nat) ∧ ((-9223372036854775808 : Int) ≤ (0 : Int) +
(1 : Int) ∧ (0 : Int) + (1 : Int) < (9223372036854775808 : Int)) ∧ ((∃ (y : Nat), y = (0 : Nat) ∧ c.len - y < c.len - x ∧ ((0 : Int) + (1 : Int) = (0 : Int) ∧ False ∧ True) ∧ True) ∨ ∃ (y : Nat), ((0
: Nat) < y ∧ y ≤ c.len) ∧ c.len - y < c.len - x ∧ ((0 : Int) + (1 : Int) = (↑y : Int) ∧ ((0 : Nat) = (0 : Nat) ∧ (1 : Nat) = y ∧ True) ∧ True) ∧ List.take (1 : Nat) [D.sct [D.int (cK (el c (0 :
Nat))), D.str (cA (el c (0 : Nat))), D.bool (cL (el c (0 : Nat))), D.list (List.take (cNm (el c (0 : Nat))).len (List.drop ((0 : Nat) + (0 : Nat)) (List.take (0 : Nat) ([] : List D) ++ List.take (1 :
Nat) [D.str [(115 : UInt8), (112 : UInt8), (97 : UInt8), (114 : UInt8), (101 : UInt8)]]))), D.int (cN (el c (0 : Nat)))]] = copyL c y ∧ True)) ∧ ((0 : Nat) < (cNm (el c (0 : Nat))).len → (0 : Nat) +
(0 : Nat) ≤ ([] : List D).length ∧ (0 : Nat) + (cNm (el c (0 : Nat))).len ≤ (16777216 : Nat) ∧ ((0 : Nat) + (cNm (el c (0 : Nat))).len ≤ (0 : Nat) → (0 : Nat) + (0 : Nat) + (cNm (el c (0 : Nat))).len
≤ ([] : List D).length ∧ (0 : Nat) + (1 : Nat) ≤ [D.str [(115 : UInt8), (112 : UInt8), (97 : UInt8), (114 : UInt8), (101 : UInt8)]].length ∧ (0 : Nat) + (cNm (el c (0 : Nat))).len ≤ (List.take ((0 :
Nat) + (0 : Nat)) [] ++ (cNm (el c (0 : Nat))).asList ++ List.drop ((0 : Nat) + (0 : Nat) + (cNm (el c (0 : Nat))).len) []).length ∧ (cNm (el c (0 : Nat))).len + (1 : Nat) ≤ (16777216 : Nat) ∧ ((cNm
(el c (0 : Nat))).len + (1 : Nat) ≤ (0 : Nat) → (0 : Nat) + (cNm (el c (0 : Nat))).len + (1 : Nat) ≤ (List.take ((0 : Nat) + (0 : Nat)) [] ++ (cNm (el c (0 : Nat))).asList ++ List.drop ((0 : Nat) + (0
: Nat) + (cNm (el c (0 : Nat))).len) []).length ∧ (0 : Int) ≤ (0 : Int) ∧ (0 : Int) ≤ (↑(cNm (el c (0 : Nat))).len : Int) ∧ ((↑(0 : Nat) : Int) - (↑(cNm (el c (0 : Nat))).len : Int)).NonNeg ∧ (0 :
Nat) + (0 : Nat) + (cNm (el c (0 : Nat))).len ≤ (List.take ((0 : Nat) + (cNm (el c (0 : Nat))).len) (List.take ((0 : Nat) + (0 : Nat)) [] ++ (cNm (el c (0 : Nat))).asList ++ List.drop ((0 : Nat) + (0
: Nat) + (cNm (el c (0 : Nat))).len) []) ++ List.take (1 : Nat) [D.str [(115 : UInt8), (112 : UInt8), (97 : UInt8), (114 : UInt8), (101 : UInt8)]] ++ List.drop ((0 : Nat) + (cNm (el c (0 : Nat))).len
+ (1 : Nat)) (List.take ((0 : Nat) + (0 : Nat)) [] ++ (cNm (el c (0 : Nat))).asList ++ List.drop ((0 : Nat) + (0 : Nat) + (cNm (el c (0 : Nat))).len) [])).length ∧ (0 : Nat) + (1 : Nat) ≤ [D.sct
[D.int (cK (el c (0 : Nat))), D.str (cA (el c (0 : Nat))), D.bool (cL (el c (0 : Nat))), D.list (List.take (cNm (el c (0 : Nat))).len (List.drop ((0 : Nat) + (0 : Nat)) (List.take ((0 : Nat) + (cNm
(el c (0 : Nat))).len) (List.take ((0 : Nat) + (0 : Nat)) [] ++ (cNm (el c (0 : Nat))).asList ++ List.drop ((0 : Nat) + (0 : Nat) + (cNm (el c (0 : Nat))).len) []) ++ List.take (1 : Nat) [D.str [(115
: UInt8), (112 : UInt8), (97 : UInt8), (114 : UInt8), (101 : UInt8)]] ++ List.drop ((0 : Nat) + (cNm (el c (0 : Nat))).len + (1 : Nat)) (List.take ((0 : Nat) + (0 : Nat)) [] ++ (cNm (el c (0 :
Nat))).asList ++ List.drop ((0 : Nat) + (0 : Nat) + (cNm (el c (0 : Nat))).len) [])))), D.int (cN (el c (0 : Nat)))]].length ∧ (1 : Nat) ≤ (16777216 : Nat) ∧ ((-9223372036854775808 : Int) ≤ (0 : Int)
+ (1 : Int) ∧ (0 : Int) + (1 : Int) < (9223372036854775808 : Int)) ∧ ((∃ (y : Nat), y = (0 : Nat) ∧ c.len - y < c.len - x ∧ ((0 : Int) + (1 : Int) = (0 : Int) ∧ False ∧ True) ∧ True) ∨ ∃ (y : Nat),
((0 : Nat) < y ∧ y ≤ c.len) ∧ c.len - y < c.len - x ∧ ((0 : Int) + (1 : Int) = (↑y : Int) ∧ ((0 : Nat) = (0 : Nat) ∧ (1 : Nat) = y ∧ True) ∧ True) ∧ List.take (1 : Nat) [D.sct [D.int (cK (el c (0 :
Nat))), D.str (cA (el c (0 : Nat))), D.bool (cL (el c (0 : Nat))), D.list (List.take (cNm (el c (0 : Nat))).len (List.drop ((0 : Nat) + (0 : Nat)) (List.take ((0 : Nat) + (cNm (el c (0 : Nat))).len)
(List.take ((0 : Nat) + (0 : Nat)) [] ++ (cNm (el c (0 : Nat))).asList ++ List.drop ((0 : Nat) + (0 : Nat) + (cNm (el c (0 : Nat))).len) []) ++ List.take (1 : Nat) [D.str [(115 : UInt8), (112 :
UInt8), (97 : UInt8), (114 : UInt8), (101 : UInt8)]] ++ List.drop ((0 : Nat) + (cNm (el c (0 : Nat))).len + (1 : Nat)) (List.take ((0 : Nat) + (0 : Nat)) [] ++ (cNm (el c (0 : Nat))).asList ++
List.drop ((0 : Nat) + (0 : Nat) + (cNm (el c (0 : Nat))).len) [])))), D.int (cN (el c (0 : Nat)))]] = copyL c y ∧ True)) ∧ ((0 : Nat) < (cNm (el c (0 : Nat))).len + (1 : Nat) → (0 : Int) ≤ (0 : Int)
∧ (0 : Int) ≤ (↑(cNm (el c (0 : Nat))).len : Int) ∧ ((↑((cNm (el c (0 : Nat))).len + (1 : Nat)) : Int) - (↑(cNm (el c (0 : Nat))).len : Int)).NonNeg ∧ (0 : Nat) + (0 : Nat) + (cNm (el c (0 :
Nat))).len ≤ (List.take (cNm (el c (0 : Nat))).len (List.take ((0 : Nat) + (0 : Nat)) [] ++ (cNm (el c (0 : Nat))).asList ++ List.drop ((0 : Nat) + (0 : Nat) + (cNm (el c (0 : Nat))).len) []) ++
List.take (1 : Nat) [D.str [(115 : UInt8), (112 : UInt8), (97 : UInt8), (114 : UInt8), (101 : UInt8)]]).length ∧ (0 : Nat) + (1 : Nat) ≤ [D.sct [D.int (cK (el c (0 : Nat))), D.str (cA (el c (0 :
Nat))), D.bool (cL (el c (0 : Nat))), D.list (List.take (cNm (el c (0 : Nat))).len (List.drop ((0 : Nat) + (0 : Nat)) (List.take (cNm (el c (0 : Nat))).len (List.take ((0 : Nat) + (0 : Nat)) [] ++
(cNm (el c (0 : Nat))).asList ++ List.drop ((0 : Nat) + (0 : Nat) + (cNm (el c (0 : Nat))).len) []) ++ List.take (1 : Nat) [D.str [(115 : UInt8), (112 : UInt8), (97 : UInt8), (114 : UInt8), (101 :
UInt8)]]))), D.int (cN (el c (0 : Nat)))]].length ∧ (1 : Nat) ≤ (16777216 : Nat) ∧ ((-9223372036854775808 : Int) ≤ (0 : Int) + (1 : Int) ∧ (0 : Int) + (1 : Int) < (9223372036854775808 : Int)) ∧ ((∃ (y
: Nat), y = (0 : Nat) ∧ c.len - y < c.len - x ∧ ((0 : Int) + (1 : Int) = (0 : Int) ∧ False ∧ True) ∧ True) ∨ ∃ (y : Nat), ((0 : Nat) < y ∧ y ≤ c.len) ∧ c.len - y < c.len - x ∧ ((0 : Int) + (1 : Int) =
(↑y : Int) ∧ ((0 : Nat) = (0 : Nat) ∧ (1 : Nat) = y ∧ True) ∧ True) ∧ List.take (1 : Nat) [D.sct [D.int (cK (el c (0 : Nat))), D.str (cA (el c (0 : Nat))), D.bool (cL (el c (0 : Nat))), D.list
(List.take (cNm (el c (0 : Nat))).len (List.drop ((0 : Nat) + (0 : Nat)) (List.take (cNm (el c (0 : Nat))).len (List.take ((0 : Nat) + (0 : Nat)) [] ++ (cNm (el c (0 : Nat))).asList ++ List.drop ((0 :
Nat) + (0 : Nat) + (cNm (el c (0 : Nat))).len) []) ++ List.take (1 : Nat) [D.str [(115 : UInt8), (112 : UInt8), (97 : UInt8), (114 : UInt8), (101 : UInt8)]]))), D.int (cN (el c (0 : Nat)))]] = copyL c
y ∧ True))) ∧ ((0 : Nat) < (0 : Nat) + (cNm (el c (0 : Nat))).len → (0 : Nat) + (1 : Nat) ≤ [D.str [(115 : UInt8), (112 : UInt8), (97 : UInt8), (114 : UInt8), (101 : UInt8)]].length ∧ (0 : Nat) + (cNm
(el c (0 : Nat))).len ≤ (List.take (0 : Nat) ([] : List D) ++ (cNm (el c (0 : Nat))).asList).length ∧ (cNm (el c (0 : Nat))).len + (1 : Nat) ≤ (16777216 : Nat) ∧ (0 : Int) ≤ (0 : Int) ∧ (0 : Int) ≤
(↑(cNm (el c (0 : Nat))).len : Int) ∧ ((↑((cNm (el c (0 : Nat))).len + (1 : Nat)) : Int) - (↑(cNm (el c (0 : Nat))).len : Int)).NonNeg ∧ (0 : Nat) + (0 : Nat) + (cNm (el c (0 : Nat))).len ≤ (List.take
(cNm (el c (0 : Nat))).len (List.take (0 : Nat) ([] : List D) ++ (cNm (el c (0 : Nat))).asList) ++ List.take (1 : Nat) [D.str [(115 : UInt8), (112 : UInt8), (97 : UInt8), (114 : UInt8), (101 :
UInt8)]]).length ∧ (0 : Nat) + (1 : Nat) ≤ [D.sct [D.int (cK (el c (0 : Nat))), D.str (cA (el c (0 : Nat))), D.bool (cL (el c (0 : Nat))), D.list (List.take (cNm (el c (0 : Nat))).len (List.drop ((0 :
Nat) + (0 : Nat)) (List.take (cNm (el c (0 : Nat))).len (List.take (0 : Nat) ([] : List D) ++ (cNm (el c (0 : Nat))).asList) ++ List.take (1 : Nat) [D.str [(115 : UInt8), (112 : UInt8), (97 : UInt8),
(114 : UInt8), (101 : UInt8)]]))), D.int (cN (el c (0 : Nat)))]].length ∧ (1 : Nat) ≤ (16777216 : Nat) ∧ ((-9223372036854775808 : Int) ≤ (0 : Int) + (1 : Int) ∧ (0 : Int) + (1 : Int) <
(9223372036854775808 : Int)) ∧ ((∃ (y : Nat), y = (0 : Nat) ∧ c.len - y < c.len - x ∧ ((0 : Int) + (1 : Int) = (0 : Int) ∧ False ∧ True) ∧ True) ∨ ∃ (y : Nat), ((0 : Nat) < y ∧ y ≤ c.len) ∧ c.len - y
< c.len - x ∧ ((0 : Int) + (1 : Int) = (↑y : Int) ∧ ((0 : Nat) = (0 : Nat) ∧ (1 : Nat) = y ∧ True) ∧ True) ∧ List.take (1 : Nat) [D.sct [D.int (cK (el c (0 : Nat))), D.str (cA (el c (0 : Nat))),
D.bool (cL (el c (0 : Nat))), D.list (List.take (cNm (el c (0 : Nat))).len (List.drop ((0 : Nat) + (0 : Nat)) (List.take (cNm (el c (0 : Nat))).len (List.take (0 : Nat) ([] : List D) ++ (cNm (el c (0
: Nat))).asList) ++ List.take (1 : Nat) [D.str [(115 : UInt8), (112 : UInt8), (97 : UInt8), (114 : UInt8), (101 : UInt8)]]))), D.int (cN (el c (0 : Nat)))]] = copyL c y ∧ True))))) ∧ (((0 : Int) <
(↑c.len : Int) → False) → D.nil = copyD c)) ∧ ∀ (x : Nat), (0 : Nat) < x ∧ x ≤ c.len → c.len - x < LIM ∧ ((↑x : Int) < (↑c.len : Int) → (0 : Int) ≤ (↑x : Int) ∧ (↑x : Int) < (↑c.len : Int) ∧ ((cNm (el
c x)).isNil → (0 : Nat) + (1 : Nat) ≤ [D.str [(115 : UInt8), (112 : UInt8), (97 : UInt8), (114 : UInt8), (101 : UInt8)]].length ∧ (1 : Nat) ≤ (16777216 : Nat) ∧ (0 : Int) ≤ (0 : Int) ∧ (0 : Int) ≤
(↑(cNm (el c x)).len : Int) ∧ ((↑(1 : Nat) : Int) - (↑(cNm (el c x)).len : Int)).NonNeg ∧ (0 : Nat) + (0 : Nat) + (cNm (el c x)).len ≤ (List.take (1 : Nat) [D.str [(115 : UInt8), (112 : UInt8), (97 :
UInt8), (114 : UInt8), (101 : UInt8)]]).length ∧ (0 : Nat) + (1 : Nat) ≤ [D.sct [D.int (cK (el c x)), D.str (cA (el c x)), D.bool (cL (el c x)), D.list (List.take (cNm (el c x)).len (List.drop ((0 :
Nat) + (0 : Nat)) (List.take (1 : Nat) [D.str [(115 : UInt8), (112 : UInt8), (97 : UInt8), (114 : UInt8), (101 : UInt8)]]))), D.int (cN (el c x))]].length ∧ (0 : Nat) + x ≤ (copyL c x).length ∧ x + (1
: Nat) ≤ (16777216 : Nat) ∧ ((-9223372036854775808 : Int) ≤ (↑x : Int) + (1 : Int) ∧ (↑x : Int) + (1 : Int) < (9223372036854775808 : Int)) ∧ ((∃ (y : Nat), y = (0 : Nat) ∧ c.len - y < c.len - x ∧ ((↑x
: Int) + (1 : Int) = (0 : Int) ∧ False ∧ True) ∧ True) ∨ ∃ (y : Nat), ((0 : Nat) < y ∧ y ≤ c.len) ∧ c.len - y < c.len - x ∧ ((↑x : Int) + (1 : Int) = (↑y : Int) ∧ ((0 : Nat) = (0 : Nat) ∧ x + (1 :
Nat) = y ∧ True) ∧ True) ∧ List.take x (copyL c x) ++ List.take (1 : Nat) [D.sct [D.int (cK (el c x)), D.str (cA (el c x)), D.bool (cL (el c x)), D.list (List.take (cNm (el c x)).len (List.drop ((0 :
Nat) + (0 : Nat)) (List.take (1 : Nat) [D.str [(115 : UInt8), (112 : UInt8), (97 : UInt8), (114 : UInt8), (101 : UInt8)]]))), D.int (cN (el c x))]] = copyL c y ∧ True)) ∧ (((cNm (el c x)).isNil →
False) → ((cNm (el c x)).len = (0 : Nat) → (0 : Nat) + (1 : Nat) ≤ [D.str [(115 : UInt8), (112 : UInt8), (97 : UInt8), (114 : UInt8), (101 : UInt8)]].length ∧ (0 : Nat) + (0 : Nat) ≤ ([] : List
D).length ∧ (0 : Nat) + (1 : Nat) ≤ (16777216 : Nat) ∧ (0 : Int) ≤ (0 : Int) ∧ (0 : Int) ≤ (↑(cNm (el c x)).len : Int) ∧ ((↑((0 : Nat) + (1 : Nat)) : Int) - (↑(cNm (el c x)).len : Int)).NonNeg ∧ (0 :
Nat) + (0 : Nat) + (cNm (el c x)).len ≤ (List.take (0 : Nat) ([] : List D) ++ List.take (1 : Nat) [D.str [(115 : UInt8), (112 : UInt8), (97 : UInt8), (114 : UInt8), (101 : UInt8)]]).length ∧ (0 : Nat)
+ (1 : Nat) ≤ [D.sct [D.int (cK (el c x)), D.str (cA (el c x)), D.bool (cL (el c x)), D.list (List.take (cNm (el c x)).len (List.drop ((0 : Nat) + (0 : Nat)) (List.take (0 : Nat) ([] : List D) ++
List.take (1 : Nat) [D.str [(115 : UInt8), (112 : UInt8), (97 : UInt8), (114 : UInt8), (101 : UInt8)]]))), D.int (cN (el c x))]].length ∧ (0 : Nat) + x ≤ (copyL c x).length ∧ x + (1 : Nat) ≤ (16777216
: Nat) ∧ ((-9223372036854775808 : Int) ≤ (↑x : Int) + (1 : Int) ∧ (↑x : Int) + (1 : Int) < (9223372036854775808 : Int)) ∧ ((∃ (y : Nat), y = (0 : Nat) ∧ c.len - y < c.len - x ∧ ((↑x : Int) + (1 : Int)
= (0 : Int) ∧ False ∧ True) ∧ True) ∨ ∃ (y : Nat), ((0 : Nat) < y ∧ y ≤ c.len) ∧ c.len - y < c.len - x ∧ ((↑x : Int) + (1 : Int) = (↑y : Int) ∧ ((0 : Nat) = (0 : Nat) ∧ x + (1 : Nat) = y ∧ True) ∧
True) ∧ List.take x (copyL c x) ++ List.take (1 : Nat) [D.sct [D.int (cK (el c x)), D.str (cA (el c x)), D.bool (cL (el c x)), D.list (List.take (cNm (el c x)).len (List.drop ((0 : Nat) + (0 : Nat))
(List.take (0 : Nat) ([] : List D) ++ List.take (1 : Nat) [D.str [(115 : UInt8), (112 : UInt8), (97 : UInt8), (114 : UInt8), (101 : UInt8)]]))), D.int (cN (el c x))]] = copyL c y ∧ True)) ∧ ((0 : Nat)
< (cNm (el c x)).len → (0 : Nat) + (0 : Nat) ≤ ([] : List D).length ∧ (0 : Nat) + (cNm (el c x)).len ≤ (16777216 : Nat) ∧ ((0 : Nat) + (cNm (el c x)).len ≤ (0 : Nat) → (0 : Nat) + (0 : Nat) + (cNm (el
c x)).len ≤ ([] : List D).length ∧ (0 : Nat) + (1 : Nat) ≤ [D.str [(115 : UInt8), (112 : UInt8), (97 : UInt8), (114 : UInt8), (101 : UInt8)]].length ∧ (0 : Nat) + (cNm (el c x)).len ≤ (List.take ((0 :
Nat) + (0 : Nat)) [] ++ (cNm (el c x)).asList ++ List.drop ((0 : Nat) + (0 : Nat) + (cNm (el c x)).len) []).length ∧ (cNm (el c x)).len + (1 : Nat) ≤ (16777216 : Nat) ∧ ((cNm (el c x)).len + (1 : Nat)
≤ (0 : Nat) → (0 : Nat) + (cNm (el c x)).len + (1 : Nat) ≤ (List.take ((0 : Nat) + (0 : Nat)) [] ++ (cNm (el c x)).asList ++ List.drop ((0 : Nat) + (0 : Nat) + (cNm (el c x)).len) []).length ∧ (0 :
Int) ≤ (0 : Int) ∧ (0 : Int) ≤ (↑(cNm (el c x)).len : Int) ∧ ((↑(0 : Nat) : Int) - (↑(cNm (el c x)).len : Int)).NonNeg ∧ (0 : Nat) + (0 : Nat) + (cNm (el c x)).len ≤ (List.take ((0 : Nat) + (cNm (el c
x)).len) (List.take ((0 : Nat) + (0 : Nat)) [] ++ (cNm (el c x)).asList ++ List.drop ((0 : Nat) + (0 : Nat) + (cNm (el c x)).len) []) ++ List.take (1 : Nat) [D.str [(115 : UInt8), (112 : UInt8), (97 :
UInt8), (114 : UInt8), (101 : UInt8)]] ++ List.drop ((0 : Nat) + (cNm (el c x)).len + (1 : Nat)) (List.take ((0 : Nat) + (0 : Nat)) [] ++ (cNm (el c x)).asList ++ List.drop ((0 : Nat) + (0 : Nat) +
(cNm (el c x)).len) [])).length ∧ (0 : Nat) + (1 : Nat) ≤ [D.sct [D.int (cK (el c x)), D.str (cA (el c x)), D.bool (cL (el c x)), D.list (List.take (cNm (el c x)).len (List.drop ((0 : Nat) + (0 :
Nat)) (List.take ((0 : Nat) + (cNm (el c x)).len) (List.take ((0 : Nat) + (0 : Nat)) [] ++ (cNm (el c x)).asList ++ List.drop ((0 : Nat) + (0 : Nat) + (cNm (el c x)).len) []) ++ List.take (1 : Nat)
[D.str [(115 : UInt8), (112 : UInt8), (97 : UInt8), (114 : UInt8), (101 : UInt8)]] ++ List.drop ((0 : Nat) + (cNm (el c x)).len + (1 : Nat)) (List.take ((0 : Nat) + (0 : Nat)) [] ++ (cNm (el c
x)).asList ++ List.drop ((0 : Nat) + (0 : Nat) + (cNm (el c x)).len) [])))), D.int (cN (el c x))]].length ∧ (0 : Nat) + x ≤ (copyL c x).length ∧ x + (1 : Nat) ≤ (16777216 : Nat) ∧
((-9223372036854775808 : Int) ≤ (↑x : Int) + (1 : Int) ∧ (↑x : Int) + (1 : Int) < (9223372036854775808 : Int)) ∧ ((∃ (y : Nat), y = (0 : Nat) ∧ c.len - y < c.len - x ∧ ((↑x : Int) + (1 : Int) = (0 :
Int) ∧ False ∧ True) ∧ True) ∨ ∃ (y : Nat), ((0 : Nat) < y ∧ y ≤ c.len) ∧ c.len - y < c.len - x ∧ ((↑x : Int) + (1 : Int) = (↑y : Int) ∧ ((0 : Nat) = (0 : Nat) ∧ x + (1 : Nat) = y ∧ True) ∧ True) ∧
List.take x (copyL c x) ++ List.take (1 : Nat) [D.sct [D.int (cK (el c x)), D.str (cA (el c x)), D.bool (cL (el c x)), D.list (List.take (cNm (el c x)).len (List.drop ((0 : Nat) + (0 : Nat))
(List.take ((0 : Nat) + (cNm (el c x)).len) (List.take ((0 : Nat) + (0 : Nat)) [] ++ (cNm (el c x)).asList ++ List.drop ((0 : Nat) + (0 : Nat) + (cNm (el c x)).len) []) ++ List.take (1 : Nat) [D.str
[(115 : UInt8), (112 : UInt8), (97 : UInt8), (114 : UInt8), (101 : UInt8)]] ++ List.drop ((0 : Nat) + (cNm (el c x)).len + (1 : Nat)) (List.take ((0 : Nat) + (0 : Nat)) [] ++ (cNm (el c x)).asList ++
List.drop ((0 : Nat) + (0 : Nat) + (cNm (el c x)).len) [])))), D.int (cN (el c x))]] = copyL c y ∧ True)) ∧ ((0 : Nat) < (cNm (el c x)).len + (1 : Nat) → (0 : Int) ≤ (0 : Int) ∧ (0 : Int) ≤ (↑(cNm (el
c x)).len : Int) ∧ ((↑((cNm (el c x)).len + (1 : Nat)) : Int) - (↑(cNm (el c x)).len : Int)).NonNeg ∧ (0 : Nat) + (0 : Nat) + (cNm (el c x)).len ≤ (List.take (cNm (el c x)).len (List.take ((0 : Nat) +
(0 : Nat)) [] ++ (cNm (el c x)).asList ++ List.drop ((0 : Nat) + (0 : Nat) + (cNm (el c x)).len) []) ++ List.take (1 : Nat) [D.str [(115 : UInt8), (112 : UInt8), (97 : UInt8), (114 : UInt8), (101 :
UInt8)]]).length ∧ (0 : Nat) + (1 : Nat) ≤ [D.sct [D.int (cK (el c x)), D.str (cA (el c x)), D.bool (cL (el c x)), D.list (List.take (cNm (el c x)).len (List.drop ((0 : Nat) + (0 : Nat)) (List.take
(cNm (el c x)).len (List.take ((0 : Nat) + (0 : Nat)) [] ++ (cNm (el c x)).asList ++ List.drop ((0 : Nat) + (0 : Nat) + (cNm (el c x)).len) []) ++ List.take (1 : Nat) [D.str [(115 : UInt8), (112 :
UInt8), (97 : UInt8), (114 : UInt8), (101 : UInt8)]]))), D.int (cN (el c x))]].length ∧ (0 : Nat) + x ≤ (copyL c x).length ∧ x + (1 : Nat) ≤ (16777216 : Nat) ∧ ((-9223372036854775808 : Int) ≤ (↑x :
Int) + (1 : Int) ∧ (↑x : Int) + (1 : Int) < (9223372036854775808 : Int)) ∧ ((∃ (y : Nat), y = (0 : Nat) ∧ c.len - y < c.len - x ∧ ((↑x : Int) + (1 : Int) = (0 : Int) ∧ False ∧ True) ∧ True) ∨ ∃ (y :
Nat), ((0 : Nat) < y ∧ y ≤ c.len) ∧ c.len - y < c.len - x ∧ ((↑x : Int) + (1 : Int) = (↑y : Int) ∧ ((0 : Nat) = (0 : Nat) ∧ x + (1 : Nat) = y ∧ True) ∧ True) ∧ List.take x (copyL c x) ++ List.take (1
: Nat) [D.sct [D.int (cK (el c x)), D.str (cA (el c x)), D.bool (cL (el c x)), D.list (List.take (cNm (el c x)).len (List.drop ((0 : Nat) + (0 : Nat)) (List.take (cNm (el c x)).len (List.take ((0 :
Nat) + (0 : Nat)) [] ++ (cNm (el c x)).asList ++ List.drop ((0 : Nat) + (0 : Nat) + (cNm (el c x)).len) []) ++ List.take (1 : Nat) [D.str [(115 : UInt8), (112 : UInt8), (97 : UInt8), (114 : UInt8),
(101 : UInt8)]]))), D.int (cN (el c x))]] = copyL c y ∧ True))) ∧ ((0 : Nat) < (0 : Nat) + (cNm (el c x)).len → (0 : Nat) + (1 : Nat) ≤ [D.str [(115 : UInt8), (112 : UInt8), (97 : UInt8), (114 :
UInt8), (101 : UInt8)]].length ∧ (0 : Nat) + (cNm (el c x)).len ≤ (List.take (0 : Nat) ([] : List D) ++ (cNm (el c x)).asList).length ∧ (cNm (el c x)).len + (1 : Nat) ≤ (16777216 : Nat) ∧ (0 : Int) ≤
(0 : Int) ∧ (0 : Int) ≤ (↑(cNm (el c x)).len : Int) ∧ ((↑((cNm (el c x)).len + (1 : Nat)) : Int) - (↑(cNm (el c x)).len : Int)).NonNeg ∧ (0 : Nat) + (0 : Nat) + (cNm (el c x)).len ≤ (List.take (cNm
(el c x)).len (List.take (0 : Nat) ([] : List D) ++ (cNm (el c x)).asList) ++ List.take (1 : Nat) [D.str [(115 : UInt8), (112 : UInt8), (97 : UInt8), (114 : UInt8), (101 : UInt8)]]).length ∧ (0 : Nat)
+ (1 : Nat) ≤ [D.sct [D.int (cK (el c x)), D.str (cA (el c x)), D.bool (cL (el c x)), D.list (List.take (cNm (el c x)).len (List.drop ((0 : Nat) + (0 : Nat)) (List.take (cNm (el c x)).len (List.take
(0 : Nat) ([] : List D) ++ (cNm (el c x)).asList) ++ List.take (1 : Nat) [D.str [(115 : UInt8), (112 : UInt8), (97 : UInt8), (114 : UInt8), (101 : UInt8)]]))), D.int (cN (el c x))]].length ∧ (0 : Nat)
+ x ≤ (copyL c x).length ∧ x + (1 : Nat) ≤ (16777216 : Nat) ∧ ((-9223372036854775808 : Int) ≤ (↑x : Int) + (1 : Int) ∧ (↑x : Int) + (1 : Int) < (9223372036854775808 : Int)) ∧ ((∃ (y : Nat), y = (0 :
Nat) ∧ c.len - y < c.len - x ∧ ((↑x : Int) + (1 : Int) = (0 : Int) ∧ False ∧ True) ∧ True) ∨ ∃ (y : Nat), ((0 : Nat) < y ∧ y ≤ c.len) ∧ c.len - y < c.len - x ∧ ((↑x : Int) + (1 : Int) = (↑y : Int) ∧
((0 : Nat) = (0 : Nat) ∧ x + (1 : Nat) = y ∧ True) ∧ True) ∧ List.take x (copyL c x) ++ List.take (1 : Nat) [D.sct [D.int (cK (el c x)), D.str (cA (el c x)), D.bool (cL (el c x)), D.list (List.take
(cNm (el c x)).len (List.drop ((0 : Nat) + (0 : Nat)) (List.take (cNm (el c x)).len (List.take (0 : Nat) ([] : List D) ++ (cNm (el c x)).asList) ++ List.take (1 : Nat) [D.str [(115 : UInt8), (112 :
UInt8), (97 : UInt8), (114 : UInt8), (101 : UInt8)]]))), D.int (cN (el c x))]] = copyL c y ∧ True))))) ∧ (((↑x : Int) < (↑c.len : Int) → False) → (0 : Nat) + x ≤ (copyL c x).length ∧ D.list (List.take
x (copyL c x)) = copyD c)) := by intros; kernel_rfl
theorem vc32 : ∀ (a b : D), symFun (ctx cc2 ccAnn) (5 : Nat) (32 : FuncId) [V.dat (22 : TypeId) a, V.dat (22 : TypeId) b] (V.prop (sameAll a b)) = ((((↑a.len : Int) = (↑b.len : Int) → False) → (false
= true ↔ sameAll a b)) ∧ ((((↑a.len : Int) = (↑b.len : Int) → False) → False) → (∃ (x : Nat), (x ≤ a.len ∧ ∀ (i : Nat), i < x → sameC (el a i) (el b i)) ∧ ((0 : Int) = (↑x : Int) ∧ True) ∧ True) ∧ ∀
(x : Nat), (x ≤ a.len ∧ ∀ (i : Nat), i < x → sameC (el a i) (el b i)) → a.len - x < LIM ∧ ((↑x : Int) < (↑a.len : Int) → (0 : Int) ≤ (↑x : Int) ∧ (↑x : Int) < (↑a.len : Int) ∧ (0 : Int) ≤ (↑x : Int) ∧
(↑x : Int) < (↑b.len : Int) ∧ (cNm (el a x)).len ≤ (100 : Nat) ∧ ((cK (el a x) = cK (el b x) ∧ cA (el a x) = cA (el b x) ∧ (cL (el a x) ↔ cL (el b x)) ∧ cN (el a x) = cN (el b x) ∧ eqS (cNm (el a x))
(cNm (el b x)) → False) → (false = true ↔ sameAll a b)) ∧ (((cK (el a x) = cK (el b x) ∧ cA (el a x) = cA (el b x) ∧ (cL (el a x) ↔ cL (el b x)) ∧ cN (el a x) = cN (el b x) ∧ eqS (cNm (el a x)) (cNm
(el b x)) → False) → False) → ((-9223372036854775808 : Int) ≤ (↑x : Int) + (1 : Int) ∧ (↑x : Int) + (1 : Int) < (9223372036854775808 : Int)) ∧ ∃ (y : Nat), (y ≤ a.len ∧ ∀ (i : Nat), i < y → sameC (el
a i) (el b i)) ∧ a.len - y < a.len - x ∧ ((↑x : Int) + (1 : Int) = (↑y : Int) ∧ True) ∧ True)) ∧ (((↑x : Int) < (↑a.len : Int) → False) → (true = true ↔ sameAll a b)))) := by intros; kernel_rfl
theorem vc45 : ∀ (c : D), symFun (ctx cc3 ccAnn) (5 : Nat) (45 : FuncId) [V.dat (22 : TypeId) c] (V.tup [V.int IntKind.i64 (badZ c).fst, V.int IntKind.i64 (badZ c).snd]) = (((32 : Int) < (↑c.len :
Int) → (0 : Int) = (badZ c).fst ∧ (7 : Int) = (badZ c).snd ∧ True) ∧ (((32 : Int) < (↑c.len : Int) → False) → (∃ (x : Nat), (x ≤ c.len ∧ scanZ c (c.len - x) x = scanZ c c.len (0 : Nat)) ∧ ((0 : Int) =
(↑x : Int) ∧ True) ∧ True) ∧ ∀ (x : Nat), x ≤ c.len ∧ scanZ c (c.len - x) x = scanZ c c.len (0 : Nat) → c.len - x < LIM ∧ ((↑x : Int) < (↑c.len : Int) → (0 : Int) ≤ (↑x : Int) ∧ (↑x : Int) < (↑c.len :
Int) ∧ (0 : Int) ≤ (0 : Int) ∧ (0 : Int) ≤ (↑x : Int) ∧ (↑x : Int) ≤ (↑c.len : Int) ∧ (smallC (c.sub (0 : Nat) x) ∧ (cNm (el c x)).len ≤ (100 : Nat)) ∧ ((errC (c.sub (0 : Nat) x) (c.sub (0 : Nat)
x).len (cK (el c x)) (cA (el c x)) (cL (el c x)) (cNm (el c x)) (cN (el c x)) = (0 : Int) → False) → (↑x : Int) = (badZ c).fst ∧ errC (c.sub (0 : Nat) x) (c.sub (0 : Nat) x).len (cK (el c x)) (cA (el
c x)) (cL (el c x)) (cNm (el c x)) (cN (el c x)) = (badZ c).snd ∧ True) ∧ (((errC (c.sub (0 : Nat) x) (c.sub (0 : Nat) x).len (cK (el c x)) (cA (el c x)) (cL (el c x)) (cNm (el c x)) (cN (el c x)) =
(0 : Int) → False) → False) → ((-9223372036854775808 : Int) ≤ (↑x : Int) + (1 : Int) ∧ (↑x : Int) + (1 : Int) < (9223372036854775808 : Int)) ∧ ∃ (y : Nat), (y ≤ c.len ∧ scanZ c (c.len - y) y = scanZ c
c.len (0 : Nat)) ∧ c.len - y < c.len - x ∧ ((↑x : Int) + (1 : Int) = (↑y : Int) ∧ True) ∧ True)) ∧ (((↑x : Int) < (↑c.len : Int) → False) → (0 : Int) = (badZ c).fst ∧ (0 : Int) = (badZ c).snd ∧
True))) := by intros; kernel_rfl
theorem vc52 : ∀ (c : D), symFun (ctx cc3 ccAnn) (5 : Nat) (52 : FuncId) [V.dat (22 : TypeId) c] (V.tup [V.int IntKind.i64 (badZ c).fst, V.int IntKind.i64 (badZ c).snd]) = (((32 : Int) < (↑c.len :
Int) → (0 : Int) = (badZ c).fst ∧ (7 : Int) = (badZ c).snd ∧ True) ∧ (((32 : Int) < (↑c.len : Int) → False) → (∃ (x : Nat), (x ≤ c.len ∧ scanZ c (c.len - x) x = scanZ c c.len (0 : Nat)) ∧ ((0 : Int) =
(↑x : Int) ∧ True) ∧ True) ∧ ∀ (x : Nat), x ≤ c.len ∧ scanZ c (c.len - x) x = scanZ c c.len (0 : Nat) → c.len - x < LIM ∧ ((↑x : Int) < (↑c.len : Int) → (((0 : Int) ≤ (↑x : Int) ∧ (↑x : Int) < (↑c.len
: Int)) ∧ smallC c) ∧ ((err1 c x = (0 : Int) → False) → (↑x : Int) = (badZ c).fst ∧ err1 c x = (badZ c).snd ∧ True) ∧ (((err1 c x = (0 : Int) → False) → False) → ((-9223372036854775808 : Int) ≤ (↑x :
Int) + (1 : Int) ∧ (↑x : Int) + (1 : Int) < (9223372036854775808 : Int)) ∧ ∃ (y : Nat), (y ≤ c.len ∧ scanZ c (c.len - y) y = scanZ c c.len (0 : Nat)) ∧ c.len - y < c.len - x ∧ ((↑x : Int) + (1 : Int)
= (↑y : Int) ∧ True) ∧ True)) ∧ (((↑x : Int) < (↑c.len : Int) → False) → (0 : Int) = (badZ c).fst ∧ (0 : Int) = (badZ c).snd ∧ True))) := by intros; kernel_rfl
section
variable {c : D} {i : Nat} {k : Int} {a : List UInt8} {la : Prop} {nm : D} {n : Int}
theorem e30 (h : ¬ formP k a la nm.len n) : errC c i k a la nm n = 30 := by unfold errC; rw [if_pos h]
theorem e4 (h : formP k a la nm.len n) (hb : badNm nm ∨ (a ≠ [] ∧ ¬ nameP a)) : errC c i k a la nm n = 4 := by unfold errC; rw [if_neg (fun hn => hn h), if_pos hb]
theorem e5 (h : formP k a la nm.len n) (hb : ¬ (badNm nm ∨ (a ≠ [] ∧ ¬ nameP a))) (ht : twiceP nm) : errC c i k a la nm n = 5 := by unfold errC; rw [if_neg (fun hn => hn h), if_neg hb, if_pos ht]
theorem e31 (h : formP k a la nm.len n) (hb : ¬ (badNm nm ∨ (a ≠ [] ∧ ¬ nameP a))) (ht : ¬ twiceP nm) (ha : a ≠ []) (hl : ¬ listedP c i a) : errC c i k a la nm n = 31 := by unfold errC; rw [if_neg (fun hn => hn h), if_neg hb, if_neg ht, if_pos ⟨ha, hl⟩]
theorem e0 (h : formP k a la nm.len n) (hb : ¬ (badNm nm ∨ (a ≠ [] ∧ ¬ nameP a))) (ht : ¬ twiceP nm) (hl : a = [] ∨ listedP c i a) : errC c i k a la nm n = 0 := by
 unfold errC; rw [if_neg (fun hn => hn h), if_neg hb, if_neg ht, if_neg (fun hh => hl.elim hh.1 hh.2)]
end
theorem s72 (c : D) (i : Int) (hi : 0 ≤ i ∧ i < c.len) (h : smallC c) : symFun (ctx cc1 ccAnn) 3 72 [.dat 22 c, .int .i64 i] (.int .i64 (err1 c i.toNat)) := by
 have hlen := h.out.1
 have hnl := h.out.2 i.toNat (by omega)
 rw [vc72]
 simp only [imp_false, Classical.not_not, true_and, and_true]
 refine ⟨hi.1, hi.2, fun hf => (e30 hf).symm, fun hf => ⟨hi.1, hi.2, fun ha => ⟨hi.1, hi.2, fun hn => (e4 hf (.inr ⟨ha, hn⟩)).symm, fun hn => ?_⟩, fun ha => ?_⟩⟩
 all_goals
  have hA : ¬ (cA (el c i.toNat) ≠ [] ∧ ¬ nameP (cA (el c i.toNat))) := by first | exact fun h => h.2 hn | exact fun h => h.1 ha
  refine ⟨⟨0, ⟨by omega, fun i hi => by omega⟩, rfl⟩, fun x ⟨hx, hinv⟩ => ⟨by unfold LIM; omega, hi.1, hi.2, fun hlt => ⟨hi.1, hi.2, by omega, hlt, fun hn => (e4 hf (.inl ⟨x, by omega, hn⟩)).symm, fun hn => ⟨by omega, x + 1, ⟨by omega, fun j hj => ?_⟩, by omega, by omega⟩⟩, fun hge => ?_⟩⟩
  ·by_cases e : j = x
   ·subst e; exact hn
   ·exact hinv j (by omega)
  have hbad : ¬ (badNm (cNm (el c i.toNat)) ∨ (cA (el c i.toNat) ≠ [] ∧ ¬ nameP (cA (el c i.toNat)))) := fun h => h.elim (fun ⟨j, h1, h2⟩ => h2 (hinv j (by omega))) hA
  refine ⟨⟨0, ⟨by omega, fun i k _ hi => by omega⟩, rfl⟩, fun x ⟨hx, hinv⟩ => ⟨by unfold LIM; omega, hi.1, hi.2, fun hlt => ?_, fun hge => ?_⟩⟩
  ·have hs := sub_has (cNm (el c i.toNat)) x (by omega) (sAt (cNm (el c i.toNat)) x)
   refine ⟨hi.1, hi.2, by omega, by omega, by omega, hi.1, hi.2, by omega, hlt, by rw [sub_len _ x (by omega)]; omega, fun hh => ?_, fun hn => ⟨by omega, x + 1, ⟨by omega, fun j k hk hj => ?_⟩, by omega, by omega⟩⟩
   ·obtain ⟨k, h1, h2⟩ := hs.1 hh
    exact (e5 hf hbad ⟨x, k, h1, by omega, h2⟩).symm
   ·by_cases e : j = x
    ·subst e; exact fun h => hn (hs.2 ⟨k, hk, h⟩)
    ·exact hinv j k hk (by omega)
  have htw : ¬ twiceP (cNm (el c i.toNat)) := fun ⟨⟨j, k, h1, h2, h3⟩⟩ => hinv j k h1 (by omega) h3
  have go : ∀ x : Nat, (x : Int) < i → (∀ k : Nat, k < x → ¬ (cK (el c k) = 1 ∧ hasP (cNm (el c k)) (cA (el c i.toNat)))) → ¬ (cK (el c x) = 1 ∧ hasP (cNm (el c x)) (cA (el c i.toNat))) → ∃ y : Nat, (y ≤ i.toNat ∧ ∀ k : Nat, k < y → ¬ (cK (el c k) = 1 ∧ hasP (cNm (el c k)) (cA (el c i.toNat)))) ∧ i.toNat - y < i.toNat - x ∧ (x : Int) + 1 = (y : Int) := fun x hx hinv hn => ⟨x + 1, ⟨by omega, fun k hk => by
   by_cases e : k = x
   ·subst e; exact hn
   ·exact hinv k (by omega)⟩, by omega, by omega⟩
  exact ⟨hi.1, hi.2, fun ha => (e0 hf hbad htw (.inl ha)).symm, fun ha => ⟨⟨0, ⟨by omega, fun i hi => by omega⟩, rfl⟩, fun x ⟨hx, hinv⟩ => ⟨by unfold LIM; omega, fun hlt => ⟨by omega, by omega, fun hk => ⟨by omega, by omega, hi.1, hi.2, h.out.2 x (by omega), fun hh => (e0 hf hbad htw (.inr ⟨x, by omega, hk, hh⟩)).symm, fun hn => ⟨by omega, go x hlt hinv fun h => hn h.2⟩⟩, fun hk => ⟨by omega, go x hlt hinv fun h => hk h.1⟩⟩,
   fun hge => (e31 hf hbad htw ha fun ⟨⟨k, h1, h2⟩⟩ => hinv k (by omega) h2).symm⟩⟩⟩
theorem s65 (b : D) (k : Int) (a : List UInt8) (la : Prop) (nm : D) (n : Int) (h : smallC b) (hnl : nm.len ≤ 100) : symFun (ctx cc2 ccAnn) 6 65 [.dat 22 b, .agg [.int .u8 k, .str a, .prop la, .dat 23 nm, .int .i64 n]] (.int .i64 (errC b b.len k a la nm n)) := by
 rw [vc65]
 simp only [imp_false, Classical.not_not, true_and, and_true]
 refine ⟨fun hf => (e30 hf).symm, fun hf => ⟨⟨0, ⟨by omega, fun i hi => by omega⟩, rfl⟩, fun x ⟨hx, hinv⟩ => ⟨by unfold LIM; omega, fun hlt => ⟨by omega, hlt, fun hn => ⟨fun h0 => absurd (by omega) h0, fun _ => (e4 hf (.inl ⟨x, by omega, hn⟩)).symm⟩, fun hn => ⟨by omega, x + 1, ⟨by omega, fun j hj => ?_⟩, by omega, by omega⟩⟩, fun hge => ⟨fun ha => ⟨fun hn => (e4 hf (.inr ⟨ha, hn⟩)).symm, fun hn => ?_⟩, fun ha => ?_⟩⟩⟩⟩
 ·by_cases e : j = x
  ·subst e; exact hn
  ·exact hinv j (by omega)
 all_goals
  have hA : ¬ (a ≠ [] ∧ ¬ nameP a) := by first | exact fun h => h.2 hn | exact fun h => h.1 ha
  have hbad : ¬ (badNm nm ∨ (a ≠ [] ∧ ¬ nameP a)) := fun h => h.elim (fun ⟨j, h1, h2⟩ => h2 (hinv j (by omega))) hA
  exact ⟨hnl, fun ht => (e5 hf hbad ht).symm, fun ht => ⟨fun ha => ⟨h, fun hl => (e31 hf hbad ht ha hl).symm, fun hl => (e0 hf hbad ht (.inr hl)).symm⟩, fun ha => (e0 hf hbad ht (.inl ha)).symm⟩⟩
theorem scan_step (l : D) (x : Nat) (hx : x < l.len) : scanZ l (l.len - x) x = if err1 l x ≠ 0 then ((x : Int), err1 l x) else scanZ l (l.len - (x + 1)) (x + 1) := by
 have : l.len - x = (l.len - (x + 1)) + 1 := by omega
 rw [this]; rfl
theorem scan_stop {l : D} {x : Nat} (hl : ¬ (32 : Int) < l.len) (hx : x < l.len) (hinv : scanZ l (l.len - x) x = scanZ l l.len 0) {e : Int} (he : err1 l x = e) (hn : e ≠ 0) : (badZ l).1 = x ∧ (badZ l).2 = e := by
 have hs := scan_step l x hx
 rw [hinv, if_pos (by rw [he]; exact hn), he] at hs
 have : badZ l = ((x : Int), e) := by unfold badZ; rw [if_neg (by omega), hs]
 rw [this]; exact ⟨rfl, rfl⟩
theorem scan_go {l : D} {x : Nat} (hx : x < l.len) (hinv : scanZ l (l.len - x) x = scanZ l l.len 0) (he : err1 l x = 0) : scanZ l (l.len - (x + 1)) (x + 1) = scanZ l l.len 0 := by
 have hs := scan_step l x hx
 rw [hinv, if_neg (fun h => h he)] at hs
 exact hs.symm
theorem scan_end {l : D} {x : Nat} (hl : ¬ (32 : Int) < l.len) (hx : l.len ≤ x) (hinv : scanZ l (l.len - x) x = scanZ l l.len 0) : (badZ l).1 = 0 ∧ (badZ l).2 = 0 := by
 have : l.len - x = 0 := by omega
 rw [this] at hinv
 have : badZ l = (0, 0) := by unfold badZ; rw [if_neg (by omega), ← hinv]; rfl
 rw [this]; exact ⟨rfl, rfl⟩
theorem bad_many {l : D} (hl : (32 : Int) < l.len) : (badZ l).1 = 0 ∧ (badZ l).2 = 7 := by
 have : badZ l = (0, 7) := by unfold badZ; rw [if_pos (by omega)]
 rw [this]; exact ⟨rfl, rfl⟩
theorem sub_listed (c : D) (x : Nat) (h : x ≤ c.len) (a : List UInt8) : listedP (c.sub 0 x) (c.sub 0 x).len a = listedP c x a := propext (by
 rw [sub_len c x h]
 exact ⟨fun ⟨⟨k, h1, h2⟩⟩ => ⟨k, h1, by rw [sub_el c x k h1] at h2; exact h2⟩, fun ⟨⟨k, h1, h2⟩⟩ => ⟨k, h1, by rw [sub_el c x k h1]; exact h2⟩⟩)
theorem sub_err (c : D) (x : Nat) (h : x ≤ c.len) : errC (c.sub 0 x) (c.sub 0 x).len (cK (el c x)) (cA (el c x)) (cL (el c x)) (cNm (el c x)) (cN (el c x)) = err1 c x := by
 unfold err1 errC
 rw [sub_listed c x h]
theorem sub_small {c : D} (h : smallC c) (x : Nat) (hx : x ≤ c.len) : smallC (c.sub 0 x) := ⟨by rw [sub_len c x hx]; exact Nat.le_trans hx h.out.1, fun i hi => by rw [sub_len c x hx] at hi; rw [sub_el c x i hi]; exact h.out.2 i (by omega)⟩
theorem s45 (c : D) (h : smallC c) : symFun (ctx cc3 ccAnn) 5 45 [.dat 22 c] (.tup [.int .i64 (badZ c).1, .int .i64 (badZ c).2]) := by
 have hlen := h.out.1
 rw [vc45]
 simp only [imp_false, Classical.not_not, true_and, and_true]
 refine ⟨fun hl => by have := bad_many hl; exact ⟨this.1.symm, this.2.symm⟩, fun hl => ⟨⟨0, ⟨by omega, rfl⟩, rfl⟩, fun x ⟨hx, hinv⟩ => ⟨by unfold LIM; omega, fun hlt => ?_, fun hge => ?_⟩⟩⟩
 ·rw [sub_err c x (by omega)]
  refine ⟨by omega, hlt, by omega, by omega, by omega, ⟨sub_small h x (by omega), h.out.2 x (by omega)⟩, fun he => ?_, fun he => ⟨by omega, x + 1, ⟨by omega, scan_go (by omega) hinv he⟩, by omega, by omega⟩⟩
  have := scan_stop hl (by omega) hinv rfl he; exact ⟨this.1.symm, this.2.symm⟩
 ·have := scan_end hl (by omega) hinv; exact ⟨this.1.symm, this.2.symm⟩
theorem s52 (c : D) (h : smallC c) : symFun (ctx cc3 ccAnn) 5 52 [.dat 22 c] (.tup [.int .i64 (badZ c).1, .int .i64 (badZ c).2]) := by
 have hlen := h.out.1
 rw [vc52]
 simp only [imp_false, Classical.not_not, true_and, and_true]
 refine ⟨fun hl => by have := bad_many hl; exact ⟨this.1.symm, this.2.symm⟩, fun hl => ⟨⟨0, ⟨by omega, rfl⟩, rfl⟩, fun x ⟨hx, hinv⟩ => ⟨by unfold LIM; omega, fun hlt => ?_, fun hge => ?_⟩⟩⟩
 ·refine ⟨⟨⟨by omega, hlt⟩, h⟩, fun he => ?_, fun he => ⟨by omega, x + 1, ⟨by omega, scan_go (by omega) hinv he⟩, by omega, by omega⟩⟩
  have := scan_stop hl (by omega) hinv rfl he; exact ⟨this.1.symm, this.2.symm⟩
 ·have := scan_end hl (by omega) hinv; exact ⟨this.1.symm, this.2.symm⟩
theorem s32 (a b : D) (h : smallC a) : symFun (ctx cc2 ccAnn) 5 32 [.dat 22 a, .dat 22 b] (.prop (sameAll a b)) := by
 have hlen := h.out.1
 rw [vc32]
 simp only [imp_false, Classical.not_not, true_and, and_true]
 refine ⟨fun hne => ⟨fun h => by simp at h, fun h => absurd (by rw [h.out.1]) hne⟩, fun heq => ⟨⟨0, ⟨by omega, fun i hi => by omega⟩, rfl⟩, fun x ⟨hx, hinv⟩ => ⟨by unfold LIM; omega, fun hlt => ⟨by omega, hlt, by omega, by omega, h.out.2 x (by omega), fun hn => ⟨fun h => by simp at h, fun h => absurd (h.out.2 x (by omega)).out hn⟩, fun hs => ⟨by omega, x + 1, ⟨by omega, fun i hi => ?_⟩, by omega, by omega⟩⟩, fun hge => ⟨fun _ => ⟨by omega, fun i hi => hinv i (by omega)⟩, fun _ => by first | rfl | trivial⟩⟩⟩⟩
 by_cases e : i = x
 ·subst e; exact ⟨hs⟩
 ·exact hinv i (by omega)
theorem sl7 (c : D) : symFun (ctx (fun _ => none) fewAnn) 8 7 [.dat 22 c] (.prop (fewD c)) := by
 rw [vc7]
 simp only [imp_false, Classical.not_not, true_and, and_true]
 have no : ∀ x, x < c.len → ¬ fewC (el c x) → (¬ (0 : Int) ≤ x ↔ fewD c) := fun x hx hn => ⟨fun h => absurd (by omega) h, fun h => absurd (h.out.2 x hx) hn⟩
 refine ⟨fun hl => ⟨⟨0, ⟨by omega, fun i hi => by omega⟩, rfl⟩, fun x ⟨hx, hinv⟩ => ⟨by unfold LIM; omega, fun hlt => ⟨by omega, hlt, fun h1 => ⟨fun h2 => ⟨⟨0, ⟨by omega, fun i hi => by omega⟩, rfl⟩, fun j ⟨hj, jinv⟩ => ⟨by unfold LIM; omega, fun hjl => ⟨by omega, hjl, fun h3 => ⟨fun _ => no x (by omega) fun h => ?_, fun h => absurd (by omega) h⟩, fun h3 => ⟨by omega, j + 1, ⟨by omega, fun i hi => ?_⟩, by omega, by omega⟩⟩, fun hje => ⟨by omega, x + 1, ⟨by omega, fun i hi => ?_⟩, by omega, by omega⟩⟩⟩, fun h2 => no x (by omega) fun h => ?_⟩, fun h1 => no x (by omega) fun h => ?_⟩, fun hge => ?_⟩⟩, fun hl => ⟨fun h => by simp at h, fun h => absurd h.out.1 (by omega)⟩⟩
 ·have := h.out.2.2 j (by omega); omega
 ·by_cases e : i = j
  ·subst e; omega
  ·exact jinv i (by omega)
 ·by_cases e : i = x
  ·subst e; exact ⟨by omega, by omega, fun i hi => jinv i (by omega)⟩
  ·exact hinv i (by omega)
 ·have := h.out.2.1; omega
 ·have := h.out.1; omega
 ·exact ⟨fun _ => ⟨by omega, fun i hi => hinv i (by omega)⟩, fun _ => by first | rfl | trivial⟩
theorem nonneg_iff (a b : Int) : (b - a).NonNeg ↔ a ≤ b := Iff.rfl
theorem copy_succ (l : D) (x : Nat) : copyL l (x + 1) = copyL l x ++ [copyC (el l x)] := by
 unfold copyL; rw [List.range_succ, List.map_append]; rfl
theorem copy_len (l : D) (x : Nat) : (copyL l x).length = x := by unfold copyL; simp
theorem lastX (l : D) (x : Nat) (X : List D) (hX : List.take (cNm (el l x)).len X = (cNm (el l x)).asList) :
  List.take x (copyL l x) ++ List.take 1 [D.sct [D.int (cK (el l x)), D.str (cA (el l x)), D.bool (cL (el l x)), D.list (List.take (cNm (el l x)).len X), D.int (cN (el l x))]] = copyL l (x + 1) := by
 rw [hX, copy_succ, List.take_of_length_le (by rw [copy_len]; exact Nat.le_refl _)]; rfl
theorem last0 (l : D) (X : List D) (hX : List.take (cNm (el l 0)).len X = (cNm (el l 0)).asList) :
  List.take 1 [D.sct [D.int (cK (el l 0)), D.str (cA (el l 0)), D.bool (cL (el l 0)), D.list (List.take (cNm (el l 0)).len X), D.int (cN (el l 0))]] = copyL l 1 := by
 have := lastX l 0 X hX
 exact this
theorem take_zero (o : D) (X : List D) (h : o.len = 0) : List.take o.len X = o.asList := by
 rw [h, List.take_zero]; exact (List.eq_nil_of_length_eq_zero h).symm
theorem take_app (o : D) (Y : List D) : List.take o.len (List.take o.len o.asList ++ Y) = o.asList := by
 have e : List.take o.len o.asList = o.asList := List.take_of_length_le (Nat.le_refl _)
 rw [e]
 exact List.take_left' rfl
theorem isNil_len {o : D} (h : o.isNil) : o.len = 0 := by cases o <;> first | rfl | exact h.elim
theorem f_toNat0 : Int.toNat (0 : Int) = 0 := rfl
theorem take_app2 (o : D) (Y Z : List D) : List.take o.len (List.take o.len o.asList ++ Y ++ Z) = o.asList := by
  rw [List.append_assoc]; exact take_app o _
theorem len_as (o : D) : o.asList.length = o.len := rfl
theorem s28 (l : D) (h : smallC l) : symFun (ctx (fun _ => none) ccAnn) 5 28 [.dat 22 l] (.dat 22 (copyD l)) := by
 have hlen := h.out.1
 rw [vc28]
 simp only [imp_false, Classical.not_not, true_and, and_true, false_and, and_false, or_false, false_or, exists_false, Nat.zero_add, Nat.add_zero, List.take_nil, List.drop_nil, List.drop_zero, List.nil_append, List.append_nil, List.length_nil, List.length_cons, List.length_append, nonneg_iff, f_toNat0, Nat.le_refl, Int.le_refl, forall_eq, exists_eq]
 refine ⟨⟨by unfold LIM; omega, fun hlt => ⟨hlt, ?_⟩, fun hge => ?_⟩, fun x ⟨hx0, hx⟩ => ⟨by unfold LIM; omega, fun hlt => ⟨by omega, hlt, ?_⟩, fun hge => ?_⟩⟩
 ·have ho := h.out.2 0 (by omega)
  refine ⟨fun hnil => ?_, ?_⟩
  ·have h0 := isNil_len hnil
   repeat' (first | refine And.intro ?_ ?_ | intro _)
   all_goals (first | omega | (simp; done) | (simp [h0]; done) | skip)
   exact ⟨_, ⟨by omega, by omega⟩, by omega, ⟨by omega, rfl⟩, last0 l _ (take_zero _ _ h0)⟩
  ·repeat' (first | refine And.intro ?_ ?_ | intro _)
   all_goals (first | omega | (simp only [List.length_take, List.length_drop, List.length_cons, List.length_nil, len_as]; omega) | skip)
   all_goals (first
    | exact ⟨_, ⟨by omega, by omega⟩, by omega, ⟨by omega, rfl⟩, last0 l _ (take_zero _ _ (by omega))⟩
    | exact ⟨_, ⟨by omega, by omega⟩, by omega, ⟨by omega, rfl⟩, last0 l _ (take_app _ _)⟩
    | exact ⟨_, ⟨by omega, by omega⟩, by omega, ⟨by omega, rfl⟩, last0 l _ (take_app2 _ _ _)⟩)
 ·have : l.len = 0 := by omega
  unfold copyD; rw [this]; rfl
 ·have ho := h.out.2 x (by omega)
  have hc := copy_len l x
  refine ⟨fun hnil => ?_, ?_⟩
  ·have h0 := isNil_len hnil
   repeat' (first | refine And.intro ?_ ?_ | intro _)
   all_goals (first | omega | (simp; done) | (simp [h0]; done) | skip)
   exact ⟨_, ⟨by omega, by omega⟩, by omega, ⟨by omega, rfl⟩, lastX l x _ (take_zero _ _ h0)⟩
  ·repeat' (first | refine And.intro ?_ ?_ | intro _)
   all_goals (first | omega | (simp only [List.length_take, List.length_drop, List.length_cons, List.length_nil, len_as]; omega) | skip)
   all_goals (first
    | exact ⟨_, ⟨by omega, by omega⟩, by omega, ⟨by omega, rfl⟩, lastX l x _ (take_zero _ _ (by omega))⟩
    | exact ⟨_, ⟨by omega, by omega⟩, by omega, ⟨by omega, rfl⟩, lastX l x _ (take_app _ _)⟩
    | exact ⟨_, ⟨by omega, by omega⟩, by omega, ⟨by omega, rfl⟩, lastX l x _ (take_app2 _ _ _)⟩)
 ·have : x = l.len := by omega
  subst this
  have hne : copyL l l.len ≠ [] := fun hn => by have := copy_len l l.len; rw [hn] at this; simp at this; omega
  have hl : copyD l = .list (copyL l l.len) := by
   unfold copyD listD
   split
   ·rename_i hn; exact absurd hn hne
   ·rfl
  rw [hl, List.take_of_length_le (by rw [copy_len]; exact Nat.le_refl _)]
  exact ⟨by rw [copy_len]; exact Nat.le_refl _, rfl⟩
end Go.Ev
