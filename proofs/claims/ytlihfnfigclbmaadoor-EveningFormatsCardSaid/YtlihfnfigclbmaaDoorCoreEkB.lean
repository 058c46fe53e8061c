/-
  Part of the engine that the claim is proved with: it states nothing of the document by itself.
-/
import Derived.Test.YtlihfnfigclbmaaDoorCoreEkA
open Go.Proofs
namespace Go.Ev
set_option maxRecDepth 100000
set_option maxHeartbeats 4000000
theorem vc44 : ∀ (n : Int) (sz ev : D), symFun (ctx ck3 ekAnn) (3 : Nat) (44 : FuncId) [V.int IntKind.i64 n, V.dat (24 : TypeId) sz, V.dat (51 : TypeId) ev] (V.int IntKind.i64 (errE n sz ev)) = (((0 :
 Int) < (↑sz.len : Int) → (((↑sz.len : Int) = (↑ev.len : Int) → False) → (2 : Int) = errE n sz ev) ∧ ((((↑sz.len : Int) = (↑ev.len : Int) → False) → False) → (∃ (x : Nat), (x ≤ ev.len ∧ ∀ (i : Nat), i
 < x → ((el ev i).len = (0 : Nat) → False) ∧ ((0 : Nat) < sz.len → (↑(el ev i).len : Int) = nAt sz i)) ∧ ((0 : Int) = (↑x : Int) ∧ True) ∧ True) ∧ ∀ (x : Nat), (x ≤ ev.len ∧ ∀ (i : Nat), i < x → ((el
 ev i).len = (0 : Nat) → False) ∧ ((0 : Nat) < sz.len → (↑(el ev i).len : Int) = nAt sz i)) → ev.len - x < LIM ∧ ((↑x : Int) < (↑ev.len : Int) → (0 : Int) ≤ (↑x : Int) ∧ (↑x : Int) < (↑ev.len : Int) ∧
 (((↑(el ev x).len : Int) = (0 : Int) → False) → ((0 : Int) < (↑sz.len : Int) → (0 : Int) ≤ (↑x : Int) ∧ (↑x : Int) < (↑sz.len : Int) ∧ (0 : Int) ≤ (↑x : Int) ∧ (↑x : Int) < (↑ev.len : Int) ∧ ((nAt sz
 x = (↑(el ev x).len : Int) → False) → (2 : Int) = errE n sz ev) ∧ (((nAt sz x = (↑(el ev x).len : Int) → False) → False) → ((-9223372036854775808 : Int) ≤ (↑x : Int) + (1 : Int) ∧ (↑x : Int) + (1 :
 Int) < (9223372036854775808 : Int)) ∧ ∃ (y : Nat), (y ≤ ev.len ∧ ∀ (i : Nat), i < y → ((el ev i).len = (0 : Nat) → False) ∧ ((0 : Nat) < sz.len → (↑(el ev i).len : Int) = nAt sz i)) ∧ ev.len - y <
 ev.len - x ∧ ((↑x : Int) + (1 : Int) = (↑y : Int) ∧ True) ∧ True)) ∧ (((0 : Int) < (↑sz.len : Int) → False) → ((-9223372036854775808 : Int) ≤ (↑x : Int) + (1 : Int) ∧ (↑x : Int) + (1 : Int) <
 (9223372036854775808 : Int)) ∧ ∃ (y : Nat), (y ≤ ev.len ∧ ∀ (i : Nat), i < y → ((el ev i).len = (0 : Nat) → False) ∧ ((0 : Nat) < sz.len → (↑(el ev i).len : Int) = nAt sz i)) ∧ ev.len - y < ev.len - x
 ∧ ((↑x : Int) + (1 : Int) = (↑y : Int) ∧ True) ∧ True)) ∧ ((↑(el ev x).len : Int) = (0 : Int) → (2 : Int) = errE n sz ev)) ∧ (((↑x : Int) < (↑ev.len : Int) → False) → (∃ (x : Nat), (x ≤ ev.len ∧ (outP
 n (flatL ev x) → False)) ∧ ((0 : Int) = (↑x : Int) ∧ True) ∧ True) ∧ ∀ (x : Nat), x ≤ ev.len ∧ (outP n (flatL ev x) → False) → ev.len - x < LIM ∧ ((↑x : Int) < (↑ev.len : Int) → (∃ (x_1 : Nat), (x_1 ≤
 (el ev x).len ∧ ∀ (i : Nat), i < x_1 → (0 : Int) ≤ nAt (el ev x) i ∧ nAt (el ev x) i < n) ∧ ((0 : Int) = (↑x_1 : Int) ∧ True) ∧ True) ∧ ∀ (x_1 : Nat), (x_1 ≤ (el ev x).len ∧ ∀ (i : Nat), i < x_1 → (0
 : Int) ≤ nAt (el ev x) i ∧ nAt (el ev x) i < n) → (el ev x).len - x_1 < LIM ∧ (0 : Int) ≤ (↑x : Int) ∧ (↑x : Int) < (↑ev.len : Int) ∧ ((↑x_1 : Int) < (↑(el ev x).len : Int) → (0 : Int) ≤ (↑x : Int) ∧
 (↑x : Int) < (↑ev.len : Int) ∧ (0 : Int) ≤ (↑x_1 : Int) ∧ (↑x_1 : Int) < (↑(el ev x).len : Int) ∧ ((nAt (el ev x) x_1 < (0 : Int) → False) → (0 : Int) ≤ (↑x : Int) ∧ (↑x : Int) < (↑ev.len : Int) ∧ (0
 : Int) ≤ (↑x_1 : Int) ∧ (↑x_1 : Int) < (↑(el ev x).len : Int) ∧ (n ≤ nAt (el ev x) x_1 → (6 : Int) = errE n sz ev) ∧ ((n ≤ nAt (el ev x) x_1 → False) → ((-9223372036854775808 : Int) ≤ (↑x_1 : Int) +
 (1 : Int) ∧ (↑x_1 : Int) + (1 : Int) < (9223372036854775808 : Int)) ∧ ∃ (y : Nat), (y ≤ (el ev x).len ∧ ∀ (i : Nat), i < y → (0 : Int) ≤ nAt (el ev x) i ∧ nAt (el ev x) i < n) ∧ (el ev x).len - y <
 (el ev x).len - x_1 ∧ ((↑x_1 : Int) + (1 : Int) = (↑y : Int) ∧ True) ∧ True)) ∧ (nAt (el ev x) x_1 < (0 : Int) → (6 : Int) = errE n sz ev)) ∧ (((↑x_1 : Int) < (↑(el ev x).len : Int) → False) →
 ((-9223372036854775808 : Int) ≤ (↑x : Int) + (1 : Int) ∧ (↑x : Int) + (1 : Int) < (9223372036854775808 : Int)) ∧ ∃ (y : Nat), (y ≤ ev.len ∧ (outP n (flatL ev y) → False)) ∧ ev.len - y < ev.len - x ∧
 ((↑x : Int) + (1 : Int) = (↑y : Int) ∧ True) ∧ True)) ∧ (((↑x : Int) < (↑ev.len : Int) → False) → (∃ (x : Nat), (x ≤ n.toNat ∧ ∀ (v : Nat), v < x → cntF (flatL ev ev.len) (↑v : Int) ≤ (1 : Int)) ∧ ((0
 : Int) = (↑x : Int) ∧ True) ∧ True) ∧ ∀ (x : Nat), (x ≤ n.toNat ∧ ∀ (v : Nat), v < x → cntF (flatL ev ev.len) (↑v : Int) ≤ (1 : Int)) → n.toNat - x < LIM ∧ ((↑x : Int) < n → smE ev ∧ ((1 : Int) < cntF
 (flatL ev ev.len) (↑x : Int) → (5 : Int) = errE n sz ev) ∧ (((1 : Int) < cntF (flatL ev ev.len) (↑x : Int) → False) → ((-9223372036854775808 : Int) ≤ (↑x : Int) + (1 : Int) ∧ (↑x : Int) + (1 : Int) <
 (9223372036854775808 : Int)) ∧ ∃ (y : Nat), (y ≤ n.toNat ∧ ∀ (v : Nat), v < y → cntF (flatL ev ev.len) (↑v : Int) ≤ (1 : Int)) ∧ n.toNat - y < n.toNat - x ∧ ((↑x : Int) + (1 : Int) = (↑y : Int) ∧
 True) ∧ True)) ∧ (((↑x : Int) < n → False) → (∃ (x : Nat), (x ≤ n.toNat ∧ ∀ (v : Nat), v < x → cntF (flatL ev ev.len) (↑v : Int) = (0 : Int) → False) ∧ ((0 : Int) = (↑x : Int) ∧ True) ∧ True) ∧ ∀ (x :
 Nat), (x ≤ n.toNat ∧ ∀ (v : Nat), v < x → cntF (flatL ev ev.len) (↑v : Int) = (0 : Int) → False) → n.toNat - x < LIM ∧ ((↑x : Int) < n → smE ev ∧ (cntF (flatL ev ev.len) (↑x : Int) = (0 : Int) → (2 :
 Int) = errE n sz ev) ∧ ((cntF (flatL ev ev.len) (↑x : Int) = (0 : Int) → False) → ((-9223372036854775808 : Int) ≤ (↑x : Int) + (1 : Int) ∧ (↑x : Int) + (1 : Int) < (9223372036854775808 : Int)) ∧ ∃ (y
 : Nat), (y ≤ n.toNat ∧ ∀ (v : Nat), v < y → cntF (flatL ev ev.len) (↑v : Int) = (0 : Int) → False) ∧ n.toNat - y < n.toNat - x ∧ ((↑x : Int) + (1 : Int) = (↑y : Int) ∧ True) ∧ True)) ∧ (((↑x : Int) <
 n → False) → (0 : Int) = errE n sz ev)))))) ∧ (((0 : Int) < (↑sz.len : Int) → False) → (∃ (x : Nat), (x ≤ ev.len ∧ ∀ (i : Nat), i < x → ((el ev i).len = (0 : Nat) → False) ∧ ((0 : Nat) < sz.len →
 (↑(el ev i).len : Int) = nAt sz i)) ∧ ((0 : Int) = (↑x : Int) ∧ True) ∧ True) ∧ ∀ (x : Nat), (x ≤ ev.len ∧ ∀ (i : Nat), i < x → ((el ev i).len = (0 : Nat) → False) ∧ ((0 : Nat) < sz.len → (↑(el ev
 i).len : Int) = nAt sz i)) → ev.len - x < LIM ∧ ((↑x : Int) < (↑ev.len : Int) → (0 : Int) ≤ (↑x : Int) ∧ (↑x : Int) < (↑ev.len : Int) ∧ (((↑(el ev x).len : Int) = (0 : Int) → False) → ((0 : Int) <
 (↑sz.len : Int) → (0 : Int) ≤ (↑x : Int) ∧ (↑x : Int) < (↑sz.len : Int) ∧ (0 : Int) ≤ (↑x : Int) ∧ (↑x : Int) < (↑ev.len : Int) ∧ ((nAt sz x = (↑(el ev x).len : Int) → False) → (2 : Int) = errE n sz
 ev) ∧ (((nAt sz x = (↑(el ev x).len : Int) → False) → False) → ((-9223372036854775808 : Int) ≤ (↑x : Int) + (1 : Int) ∧ (↑x : Int) + (1 : Int) < (9223372036854775808 : Int)) ∧ ∃ (y : Nat), (y ≤ ev.len
 ∧ ∀ (i : Nat), i < y → ((el ev i).len = (0 : Nat) → False) ∧ ((0 : Nat) < sz.len → (↑(el ev i).len : Int) = nAt sz i)) ∧ ev.len - y < ev.len - x ∧ ((↑x : Int) + (1 : Int) = (↑y : Int) ∧ True) ∧ True))
 ∧ (((0 : Int) < (↑sz.len : Int) → False) → ((-9223372036854775808 : Int) ≤ (↑x : Int) + (1 : Int) ∧ (↑x : Int) + (1 : Int) < (9223372036854775808 : Int)) ∧ ∃ (y : Nat), (y ≤ ev.len ∧ ∀ (i : Nat), i <
 y → ((el ev i).len = (0 : Nat) → False) ∧ ((0 : Nat) < sz.len → (↑(el ev i).len : Int) = nAt sz i)) ∧ ev.len - y < ev.len - x ∧ ((↑x : Int) + (1 : Int) = (↑y : Int) ∧ True) ∧ True)) ∧ ((↑(el ev x).len
 : Int) = (0 : Int) → (2 : Int) = errE n sz ev)) ∧ (((↑x : Int) < (↑ev.len : Int) → False) → (∃ (x : Nat), (x ≤ ev.len ∧ (outP n (flatL ev x) → False)) ∧ ((0 : Int) = (↑x : Int) ∧ True) ∧ True) ∧ ∀ (x
 : Nat), x ≤ ev.len ∧ (outP n (flatL ev x) → False) → ev.len - x < LIM ∧ ((↑x : Int) < (↑ev.len : Int) → (∃ (x_1 : Nat), (x_1 ≤ (el ev x).len ∧ ∀ (i : Nat), i < x_1 → (0 : Int) ≤ nAt (el ev x) i ∧ nAt
 (el ev x) i < n) ∧ ((0 : Int) = (↑x_1 : Int) ∧ True) ∧ True) ∧ ∀ (x_1 : Nat), (x_1 ≤ (el ev x).len ∧ ∀ (i : Nat), i < x_1 → (0 : Int) ≤ nAt (el ev x) i ∧ nAt (el ev x) i < n) → (el ev x).len - x_1 <
 LIM ∧ (0 : Int) ≤ (↑x : Int) ∧ (↑x : Int) < (↑ev.len : Int) ∧ ((↑x_1 : Int) < (↑(el ev x).len : Int) → (0 : Int) ≤ (↑x : Int) ∧ (↑x : Int) < (↑ev.len : Int) ∧ (0 : Int) ≤ (↑x_1 : Int) ∧ (↑x_1 : Int) <
 (↑(el ev x).len : Int) ∧ ((nAt (el ev x) x_1 < (0 : Int) → False) → (0 : Int) ≤ (↑x : Int) ∧ (↑x : Int) < (↑ev.len : Int) ∧ (0 : Int) ≤ (↑x_1 : Int) ∧ (↑x_1 : Int) < (↑(el ev x).len : Int) ∧ (n ≤ nAt
 (el ev x) x_1 → (6 : Int) = errE n sz ev) ∧ ((n ≤ nAt (el ev x) x_1 → False) → ((-9223372036854775808 : Int) ≤ (↑x_1 : Int) + (1 : Int) ∧ (↑x_1 : Int) + (1 : Int) < (9223372036854775808 : Int)) ∧ ∃ (y
 : Nat), (y ≤ (el ev x).len ∧ ∀ (i : Nat), i < y → (0 : Int) ≤ nAt (el ev x) i ∧ nAt (el ev x) i < n) ∧ (el ev x).len - y < (el ev x).len - x_1 ∧ ((↑x_1 : Int) + (1 : Int) = (↑y : Int) ∧ True) ∧ True))
 ∧ (nAt (el ev x) x_1 < (0 : Int) → (6 : Int) = errE n sz ev)) ∧ (((↑x_1 : Int) < (↑(el ev x).len : Int) → False) → ((-9223372036854775808 : Int) ≤ (↑x : Int) + (1 : Int) ∧ (↑x : Int) + (1 : Int) <
 (9223372036854775808 : Int)) ∧ ∃ (y : Nat), (y ≤ ev.len ∧ (outP n (flatL ev y) → False)) ∧ ev.len - y < ev.len - x ∧ ((↑x : Int) + (1 : Int) = (↑y : Int) ∧ True) ∧ True)) ∧ (((↑x : Int) < (↑ev.len :
 Int) → False) → (∃ (x : Nat), (x ≤ n.toNat ∧ ∀ (v : Nat), v < x → cntF (flatL ev ev.len) (↑v : Int) ≤ (1 : Int)) ∧ ((0 : Int) = (↑x : Int) ∧ True) ∧ True) ∧ ∀ (x : Nat), (x ≤ n.toNat ∧ ∀ (v : Nat), v
 < x → cntF (flatL ev ev.len) (↑v : Int) ≤ (1 : Int)) → n.toNat - x < LIM ∧ ((↑x : Int) < n → smE ev ∧ ((1 : Int) < cntF (flatL ev ev.len) (↑x : Int) → (5 : Int) = errE n sz ev) ∧ (((1 : Int) < cntF
 (flatL ev ev.len) (↑x : Int) → False) → ((-9223372036854775808 : Int) ≤ (↑x : Int) + (1 : Int) ∧ (↑x : Int) + (1 : Int) < (9223372036854775808 : Int)) ∧ ∃ (y : Nat), (y ≤ n.toNat ∧ ∀ (v : Nat), v < y
 → cntF (flatL ev ev.len) (↑v : Int) ≤ (1 : Int)) ∧ n.toNat - y < n.toNat - x ∧ ((↑x : Int) + (1 : Int) = (↑y : Int) ∧ True) ∧ True)) ∧ (((↑x : Int) < n → False) → (∃ (x : Nat), (x ≤ n.toNat ∧ ∀ (v :
 Nat), v < x → cntF (flatL ev ev.len) (↑v : Int) = (0 : Int) → False) ∧ ((0 : Int) = (↑x : Int) ∧ True) ∧ True) ∧ ∀ (x : Nat), (x ≤ n.toNat ∧ ∀ (v : Nat), v < x → cntF (flatL ev ev.len) (↑v : Int) = (0
 : Int) → False) → n.toNat - x < LIM ∧ ((↑x : Int) < n → smE ev ∧ (cntF (flatL ev ev.len) (↑x : Int) = (0 : Int) → (2 : Int) = errE n sz ev) ∧ ((cntF (flatL ev ev.len) (↑x : Int) = (0 : Int) → False) →
 ((-9223372036854775808 : Int) ≤ (↑x : Int) + (1 : Int) ∧ (↑x : Int) + (1 : Int) < (9223372036854775808 : Int)) ∧ ∃ (y : Nat), (y ≤ n.toNat ∧ ∀ (v : Nat), v < y → cntF (flatL ev ev.len) (↑v : Int) = (0
 : Int) → False) ∧ n.toNat - y < n.toNat - x ∧ ((↑x : Int) + (1 : Int) = (↑y : Int) ∧ True) ∧ True)) ∧ (((↑x : Int) < n → False) → (0 : Int) = errE n sz ev)))))) := by intros; kernel_rfl
theorem vc22 : ∀ (n : Int) (sz s : D), symFun (ctx ck4 ekAnn) (4 : Nat) (22 : FuncId) [V.int IntKind.i64 n, V.dat (24 : TypeId) sz, V.dat (33 : TypeId) s] (V.tup [V.int IntKind.i64 (chk n sz s).fst,
 V.int IntKind.i64 (chk n sz s).snd]) = (((1 : Int) ≤ n → (((n ≤ (64 : Int) → False) → False) → ((0 : Int) < (↑sz.len : Int) → (((1 : Int) ≤ n ∧ n ≤ (64 : Int)) ∧ sz.len ≤ (16777216 : Nat)) ∧ ((fitP n
 sz → False) → (0 : Int) = (chk n sz s).fst ∧ (90 : Int) = (chk n sz s).snd ∧ True) ∧ (((fitP n sz → False) → False) → ((64 : Int) < (↑s.len : Int) → (0 : Int) = (chk n sz s).fst ∧ (7 : Int) = (chk n
 sz s).snd ∧ True) ∧ (((64 : Int) < (↑s.len : Int) → False) → (∃ (x : Nat), (x ≤ s.len ∧ scanK n sz s (s.len - x) x = scanK n sz s s.len (0 : Nat)) ∧ ((0 : Int) = (↑x : Int) ∧ True) ∧ True) ∧ ∀ (x :
 Nat), x ≤ s.len ∧ scanK n sz s (s.len - x) x = scanK n sz s s.len (0 : Nat) → s.len - x < LIM ∧ ((↑x : Int) < (↑s.len : Int) → (0 : Int) ≤ (↑x : Int) ∧ (↑x : Int) < (↑s.len : Int) ∧ (((1 : Int) ≤ n ∧
 n ≤ (64 : Int)) ∧ smE (el s x) ∧ sz.len ≤ (1000 : Nat)) ∧ ((errE n sz (el s x) = (0 : Int) → False) → (↑x : Int) = (chk n sz s).fst ∧ errE n sz (el s x) = (chk n sz s).snd ∧ True) ∧ (((errE n sz (el s
 x) = (0 : Int) → False) → False) → ((-9223372036854775808 : Int) ≤ (↑x : Int) + (1 : Int) ∧ (↑x : Int) + (1 : Int) < (9223372036854775808 : Int)) ∧ ∃ (y : Nat), (y ≤ s.len ∧ scanK n sz s (s.len - y) y
 = scanK n sz s s.len (0 : Nat)) ∧ s.len - y < s.len - x ∧ ((↑x : Int) + (1 : Int) = (↑y : Int) ∧ True) ∧ True)) ∧ (((↑x : Int) < (↑s.len : Int) → False) → (0 : Int) = (chk n sz s).fst ∧ (0 : Int) =
 (chk n sz s).snd ∧ True)))) ∧ (((0 : Int) < (↑sz.len : Int) → False) → ((64 : Int) < (↑s.len : Int) → (0 : Int) = (chk n sz s).fst ∧ (7 : Int) = (chk n sz s).snd ∧ True) ∧ (((64 : Int) < (↑s.len :
 Int) → False) → (∃ (x : Nat), (x ≤ s.len ∧ scanK n sz s (s.len - x) x = scanK n sz s s.len (0 : Nat)) ∧ ((0 : Int) = (↑x : Int) ∧ True) ∧ True) ∧ ∀ (x : Nat), x ≤ s.len ∧ scanK n sz s (s.len - x) x =
 scanK n sz s s.len (0 : Nat) → s.len - x < LIM ∧ ((↑x : Int) < (↑s.len : Int) → (0 : Int) ≤ (↑x : Int) ∧ (↑x : Int) < (↑s.len : Int) ∧ (((1 : Int) ≤ n ∧ n ≤ (64 : Int)) ∧ smE (el s x) ∧ sz.len ≤ (1000
 : Nat)) ∧ ((errE n sz (el s x) = (0 : Int) → False) → (↑x : Int) = (chk n sz s).fst ∧ errE n sz (el s x) = (chk n sz s).snd ∧ True) ∧ (((errE n sz (el s x) = (0 : Int) → False) → False) →
 ((-9223372036854775808 : Int) ≤ (↑x : Int) + (1 : Int) ∧ (↑x : Int) + (1 : Int) < (9223372036854775808 : Int)) ∧ ∃ (y : Nat), (y ≤ s.len ∧ scanK n sz s (s.len - y) y = scanK n sz s s.len (0 : Nat)) ∧
 s.len - y < s.len - x ∧ ((↑x : Int) + (1 : Int) = (↑y : Int) ∧ True) ∧ True)) ∧ (((↑x : Int) < (↑s.len : Int) → False) → (0 : Int) = (chk n sz s).fst ∧ (0 : Int) = (chk n sz s).snd ∧ True)))) ∧ ((n ≤
 (64 : Int) → False) → (0 : Int) = (chk n sz s).fst ∧ (90 : Int) = (chk n sz s).snd ∧ True)) ∧ (((1 : Int) ≤ n → False) → (0 : Int) = (chk n sz s).fst ∧ (90 : Int) = (chk n sz s).snd ∧ True)) := by intros; kernel_rfl
theorem vc23 : ∀ (n : Int) (sz s : D), symFun (ctx ck4 ekAnn) (4 : Nat) (23 : FuncId) [V.int IntKind.i64 n, V.dat (24 : TypeId) sz, V.dat (33 : TypeId) s] (V.tup [V.int IntKind.i64 (chk n sz s).fst,
 V.int IntKind.i64 (chk n sz s).snd]) = (((n < (1 : Int) → False) → (((64 : Int) < n → False) → ((0 : Int) < (↑sz.len : Int) → sz.len ≤ (16777216 : Nat) ∧ ((okS n sz → False) → (0 : Int) = (chk n sz
 s).fst ∧ (90 : Int) = (chk n sz s).snd ∧ True) ∧ (((okS n sz → False) → False) → ((64 : Int) < (↑s.len : Int) → (0 : Int) = (chk n sz s).fst ∧ (7 : Int) = (chk n sz s).snd ∧ True) ∧ (((64 : Int) <
 (↑s.len : Int) → False) → (∃ (x : Nat), (x ≤ s.len ∧ scanK n sz s (s.len - x) x = scanK n sz s s.len (0 : Nat)) ∧ ((0 : Int) = (↑x : Int) ∧ True) ∧ True) ∧ ∀ (x : Nat), x ≤ s.len ∧ scanK n sz s (s.len
 - x) x = scanK n sz s s.len (0 : Nat) → s.len - x < LIM ∧ ((↑x : Int) < (↑s.len : Int) → (0 : Int) ≤ (↑x : Int) ∧ (↑x : Int) < (↑s.len : Int) ∧ (((1 : Int) ≤ n ∧ n ≤ (64 : Int)) ∧ smE (el s x) ∧
 sz.len ≤ (1000 : Nat)) ∧ ((errE n sz (el s x) = (0 : Int) → False) → (↑x : Int) = (chk n sz s).fst ∧ errE n sz (el s x) = (chk n sz s).snd ∧ True) ∧ (((errE n sz (el s x) = (0 : Int) → False) → False)
 → ((-9223372036854775808 : Int) ≤ (↑x : Int) + (1 : Int) ∧ (↑x : Int) + (1 : Int) < (9223372036854775808 : Int)) ∧ ∃ (y : Nat), (y ≤ s.len ∧ scanK n sz s (s.len - y) y = scanK n sz s s.len (0 : Nat))
 ∧ s.len - y < s.len - x ∧ ((↑x : Int) + (1 : Int) = (↑y : Int) ∧ True) ∧ True)) ∧ (((↑x : Int) < (↑s.len : Int) → False) → (0 : Int) = (chk n sz s).fst ∧ (0 : Int) = (chk n sz s).snd ∧ True)))) ∧ (((0
 : Int) < (↑sz.len : Int) → False) → ((64 : Int) < (↑s.len : Int) → (0 : Int) = (chk n sz s).fst ∧ (7 : Int) = (chk n sz s).snd ∧ True) ∧ (((64 : Int) < (↑s.len : Int) → False) → (∃ (x : Nat), (x ≤
 s.len ∧ scanK n sz s (s.len - x) x = scanK n sz s s.len (0 : Nat)) ∧ ((0 : Int) = (↑x : Int) ∧ True) ∧ True) ∧ ∀ (x : Nat), x ≤ s.len ∧ scanK n sz s (s.len - x) x = scanK n sz s s.len (0 : Nat) →
 s.len - x < LIM ∧ ((↑x : Int) < (↑s.len : Int) → (0 : Int) ≤ (↑x : Int) ∧ (↑x : Int) < (↑s.len : Int) ∧ (((1 : Int) ≤ n ∧ n ≤ (64 : Int)) ∧ smE (el s x) ∧ sz.len ≤ (1000 : Nat)) ∧ ((errE n sz (el s x)
 = (0 : Int) → False) → (↑x : Int) = (chk n sz s).fst ∧ errE n sz (el s x) = (chk n sz s).snd ∧ True) ∧ (((errE n sz (el s x) = (0 : Int) → False) → False) → ((-9223372036854775808 : Int) ≤ (↑x : Int)
 + (1 : Int) ∧ (↑x : Int) + (1 : Int) < (9223372036854775808 : Int)) ∧ ∃ (y : Nat), (y ≤ s.len ∧ scanK n sz s (s.len - y) y = scanK n sz s s.len (0 : Nat)) ∧ s.len - y < s.len - x ∧ ((↑x : Int) + (1 :
 Int) = (↑y : Int) ∧ True) ∧ True)) ∧ (((↑x : Int) < (↑s.len : Int) → False) → (0 : Int) = (chk n sz s).fst ∧ (0 : Int) = (chk n sz s).snd ∧ True)))) ∧ ((64 : Int) < n → (0 : Int) = (chk n sz s).fst ∧
 (90 : Int) = (chk n sz s).snd ∧ True)) ∧ (n < (1 : Int) → (0 : Int) = (chk n sz s).fst ∧ (90 : Int) = (chk n sz s).snd ∧ True)) := by intros; kernel_rfl
theorem vc65 : ∀ (ev : D), symFun (ctxj cc0 ekAnn ekJoin) (4 : Nat) (65 : FuncId) [V.dat (51 : TypeId) ev] (V.dat (24 : TypeId) (listD (flatL ev ev.len))) = ((∃ (x : Nat), x.le ev.len ∧ ((0 : Int) =
 (↑x : Int) ∧ (0 : Int) = (↑(totE ev x) : Int) ∧ True) ∧ True) ∧ ∀ (x : Nat), x.le ev.len → ev.len - x < LIM ∧ ((↑x : Int) < (↑ev.len : Int) → (0 : Int) ≤ (↑x : Int) ∧ (↑x : Int) < (↑ev.len : Int) ∧
 ((-9223372036854775808 : Int) ≤ (↑(totE ev x) : Int) + (↑(el ev x).len : Int) ∧ (↑(totE ev x) : Int) + (↑(el ev x).len : Int) < (9223372036854775808 : Int)) ∧ ((↑(totE ev x) : Int) + (↑(el ev x).len :
 Int) < (0 : Int) → False) ∧ (((↑(totE ev x) : Int) + (↑(el ev x).len : Int) < (0 : Int) → False) → ((-9223372036854775808 : Int) ≤ (↑x : Int) + (1 : Int) ∧ (↑x : Int) + (1 : Int) <
 (9223372036854775808 : Int)) ∧ ∃ (y : Nat), y.le ev.len ∧ ev.len - y < ev.len - x ∧ ((↑x : Int) + (1 : Int) = (↑y : Int) ∧ (↑(totE ev x) : Int) + (↑(el ev x).len : Int) = (↑(totE ev y) : Int) ∧ True)
 ∧ True)) ∧ (((↑x : Int) < (↑ev.len : Int) → False) → (((↑(totE ev x) : Int) < (0 : Int) → False) ∧ (((↑(totE ev x) : Int) < (0 : Int) → False) → ((-9223372036854775808 : Int) ≤ (↑(totE ev x) : Int) -
 (0 : Int) ∧ (↑(totE ev x) : Int) - (0 : Int) < (9223372036854775808 : Int)) ∧ ((0 : Int) < (↑(totE ev x) : Int) - (0 : Int) → (0 : Int) ≤ (0 : Int) ∧ (0 : Int) ≤ (0 : Int) ∧ (0 : Int) ≤ (0 : Int) ∧ (0
 : Int) < (↑(totE ev x) : Int) - (0 : Int) ∧ (↑(totE ev x) : Int) - (0 : Int) ≤ (16777216 : Int) ∧ (0 : Int) ≤ (0 : Int) ∧ (0 : Int) ≤ (0 : Int) ∧ ((↑((↑(totE ev x) : Int) - (0 : Int)).toNat : Int) -
 (0 : Int)).NonNeg ∧ ((∃ (x_1 : List D), ((0 : Int) - (↑(totE ev x) : Int)).NonNeg ∧ (False ∧ True) ∧ True) ∨ ∃ (x_1 : List D), ((↑(totE ev x) : Int) - ((0 : Int) + (1 : Int))).NonNeg ∧ (((0 : Nat) +
 (0 : Nat) = (0 : Nat) ∧ (0 : Nat) - (0 : Nat) = (0 : Nat) ∧ True) ∧ True) ∧ List.replicate ((↑(totE ev x) : Int) - (0 : Int)).toNat (D.int (0 : Int)) = x_1 ∧ True)) ∧ (((0 : Int) < (↑(totE ev x) :
 Int) - (0 : Int) → False) → (∃ (x_1 : List D), ((0 : Int) - (↑(totE ev x) : Int)).NonNeg ∧ (True ∧ True) ∧ True) ∨ ∃ (x_1 : List D), ((↑(totE ev x) : Int) - ((0 : Int) + (1 : Int))).NonNeg ∧ (False ∧
 True) ∧ False ∧ True))) ∧ (∀ (x_1 : List D), ((0 : Int) - (↑(totE ev x) : Int)).NonNeg → ((∃ (x : Nat × List D), (x.fst ≤ ev.len ∧ totE ev ev.len = (0 : Nat)) ∧ ((0 : Int) = (↑x.fst : Int) ∧ True ∧
 True) ∧ True) ∨ ∃ (x : Nat × List D), (x.fst ≤ ev.len ∧ (0 : Nat) < totE ev ev.len ∧ totE ev x.fst ≤ x.snd.length ∧ List.take (totE ev x.fst) x.snd = flatL ev x.fst) ∧ ((0 : Int) = (↑x.fst : Int) ∧
 False ∧ True) ∧ False ∧ True) ∧ (∀ (x : Nat × List D), x.fst ≤ ev.len ∧ totE ev ev.len = (0 : Nat) → ev.len - x.fst < LIM ∧ ((↑x.fst : Int) < (↑ev.len : Int) → (0 : Int) ≤ (↑x.fst : Int) ∧ (↑x.fst :
 Int) < (↑ev.len : Int) ∧ ((el ev x.fst).len = (0 : Nat) → ((-9223372036854775808 : Int) ≤ (↑x.fst : Int) + (1 : Int) ∧ (↑x.fst : Int) + (1 : Int) < (9223372036854775808 : Int)) ∧ ((∃ (y : Nat × List
 D), (y.fst ≤ ev.len ∧ totE ev ev.len = (0 : Nat)) ∧ ev.len - y.fst < ev.len - x.fst ∧ ((↑x.fst : Int) + (1 : Int) = (↑y.fst : Int) ∧ True ∧ True) ∧ True) ∨ ∃ (y : Nat × List D), (y.fst ≤ ev.len ∧ (0 :
 Nat) < totE ev ev.len ∧ totE ev y.fst ≤ y.snd.length ∧ List.take (totE ev y.fst) y.snd = flatL ev y.fst) ∧ ev.len - y.fst < ev.len - x.fst ∧ ((↑x.fst : Int) + (1 : Int) = (↑y.fst : Int) ∧ False ∧
 True) ∧ False ∧ True)) ∧ ((0 : Nat) < (el ev x.fst).len → (el ev x.fst).len ≤ (16777216 : Nat) ∧ ((-9223372036854775808 : Int) ≤ (↑x.fst : Int) + (1 : Int) ∧ (↑x.fst : Int) + (1 : Int) <
 (9223372036854775808 : Int)) ∧ ((∃ (y : Nat × List D), (y.fst ≤ ev.len ∧ totE ev ev.len = (0 : Nat)) ∧ ev.len - y.fst < ev.len - x.fst ∧ ((↑x.fst : Int) + (1 : Int) = (↑y.fst : Int) ∧ False ∧ True) ∧
 True) ∨ ∃ (y : Nat × List D), (y.fst ≤ ev.len ∧ (0 : Nat) < totE ev ev.len ∧ totE ev y.fst ≤ y.snd.length ∧ List.take (totE ev y.fst) y.snd = flatL ev y.fst) ∧ ev.len - y.fst < ev.len - x.fst ∧
 ((↑x.fst : Int) + (1 : Int) = (↑y.fst : Int) ∧ ((0 : Nat) = (0 : Nat) ∧ (el ev x.fst).len = totE ev y.fst ∧ True) ∧ True) ∧ (el ev x.fst).asList = y.snd ∧ True))) ∧ (((↑x.fst : Int) < (↑ev.len : Int)
 → False) → D.nil = listD (flatL ev ev.len))) ∧ ∀ (x : Nat × List D), x.fst ≤ ev.len ∧ (0 : Nat) < totE ev ev.len ∧ totE ev x.fst ≤ x.snd.length ∧ List.take (totE ev x.fst) x.snd = flatL ev x.fst →
 ev.len - x.fst < LIM ∧ ((↑x.fst : Int) < (↑ev.len : Int) → (0 : Int) ≤ (↑x.fst : Int) ∧ (↑x.fst : Int) < (↑ev.len : Int) ∧ ((el ev x.fst).len = (0 : Nat) → ((-9223372036854775808 : Int) ≤ (↑x.fst :
 Int) + (1 : Int) ∧ (↑x.fst : Int) + (1 : Int) < (9223372036854775808 : Int)) ∧ ((∃ (y : Nat × List D), (y.fst ≤ ev.len ∧ totE ev ev.len = (0 : Nat)) ∧ ev.len - y.fst < ev.len - x.fst ∧ ((↑x.fst : Int)
 + (1 : Int) = (↑y.fst : Int) ∧ False ∧ True) ∧ True) ∨ ∃ (y : Nat × List D), (y.fst ≤ ev.len ∧ (0 : Nat) < totE ev ev.len ∧ totE ev y.fst ≤ y.snd.length ∧ List.take (totE ev y.fst) y.snd = flatL ev
 y.fst) ∧ ev.len - y.fst < ev.len - x.fst ∧ ((↑x.fst : Int) + (1 : Int) = (↑y.fst : Int) ∧ ((0 : Nat) = (0 : Nat) ∧ totE ev x.fst = totE ev y.fst ∧ True) ∧ True) ∧ x.snd = y.snd ∧ True)) ∧ ((0 : Nat) <
 (el ev x.fst).len → (0 : Nat) + totE ev x.fst ≤ x.snd.length ∧ totE ev x.fst + (el ev x.fst).len ≤ (16777216 : Nat) ∧ ((-9223372036854775808 : Int) ≤ (↑x.fst : Int) + (1 : Int) ∧ (↑x.fst : Int) + (1 :
 Int) < (9223372036854775808 : Int)) ∧ ((∃ (y : Nat × List D), (y.fst ≤ ev.len ∧ totE ev ev.len = (0 : Nat)) ∧ ev.len - y.fst < ev.len - x.fst ∧ ((↑x.fst : Int) + (1 : Int) = (↑y.fst : Int) ∧ False ∧
 True) ∧ True) ∨ ∃ (y : Nat × List D), (y.fst ≤ ev.len ∧ (0 : Nat) < totE ev ev.len ∧ totE ev y.fst ≤ y.snd.length ∧ List.take (totE ev y.fst) y.snd = flatL ev y.fst) ∧ ev.len - y.fst < ev.len - x.fst
 ∧ ((↑x.fst : Int) + (1 : Int) = (↑y.fst : Int) ∧ ((0 : Nat) = (0 : Nat) ∧ totE ev x.fst + (el ev x.fst).len = totE ev y.fst ∧ True) ∧ True) ∧ List.take (totE ev x.fst) x.snd ++ (el ev x.fst).asList =
 y.snd ∧ True))) ∧ (((↑x.fst : Int) < (↑ev.len : Int) → False) → (0 : Nat) + totE ev x.fst ≤ x.snd.length ∧ D.list (List.take (totE ev x.fst) x.snd) = listD (flatL ev ev.len))) ∧ ∀ (x_1 : List D),
 ((↑(totE ev x) : Int) - ((0 : Int) + (1 : Int))).NonNeg → ((∃ (x : Nat × List D), (x.fst ≤ ev.len ∧ totE ev ev.len = (0 : Nat)) ∧ ((0 : Int) = (↑x.fst : Int) ∧ False ∧ True) ∧ True) ∨ ∃ (x : Nat ×
 List D), (x.fst ≤ ev.len ∧ (0 : Nat) < totE ev ev.len ∧ totE ev x.fst ≤ x.snd.length ∧ List.take (totE ev x.fst) x.snd = flatL ev x.fst) ∧ ((0 : Int) = (↑x.fst : Int) ∧ ((0 : Nat) = (0 : Nat) ∧ (0 :
 Nat) = totE ev x.fst ∧ True) ∧ True) ∧ x_1 = x.snd ∧ True) ∧ (∀ (x : Nat × List D), x.fst ≤ ev.len ∧ totE ev ev.len = (0 : Nat) → ev.len - x.fst < LIM ∧ ((↑x.fst : Int) < (↑ev.len : Int) → (0 : Int) ≤
 (↑x.fst : Int) ∧ (↑x.fst : Int) < (↑ev.len : Int) ∧ ((el ev x.fst).len = (0 : Nat) → ((-9223372036854775808 : Int) ≤ (↑x.fst : Int) + (1 : Int) ∧ (↑x.fst : Int) + (1 : Int) < (9223372036854775808 :
 Int)) ∧ ((∃ (y : Nat × List D), (y.fst ≤ ev.len ∧ totE ev ev.len = (0 : Nat)) ∧ ev.len - y.fst < ev.len - x.fst ∧ ((↑x.fst : Int) + (1 : Int) = (↑y.fst : Int) ∧ True ∧ True) ∧ True) ∨ ∃ (y : Nat ×
 List D), (y.fst ≤ ev.len ∧ (0 : Nat) < totE ev ev.len ∧ totE ev y.fst ≤ y.snd.length ∧ List.take (totE ev y.fst) y.snd = flatL ev y.fst) ∧ ev.len - y.fst < ev.len - x.fst ∧ ((↑x.fst : Int) + (1 : Int)
 = (↑y.fst : Int) ∧ False ∧ True) ∧ x_1 = y.snd ∧ True)) ∧ ((0 : Nat) < (el ev x.fst).len → (el ev x.fst).len ≤ (16777216 : Nat) ∧ ((-9223372036854775808 : Int) ≤ (↑x.fst : Int) + (1 : Int) ∧ (↑x.fst :
 Int) + (1 : Int) < (9223372036854775808 : Int)) ∧ ((∃ (y : Nat × List D), (y.fst ≤ ev.len ∧ totE ev ev.len = (0 : Nat)) ∧ ev.len - y.fst < ev.len - x.fst ∧ ((↑x.fst : Int) + (1 : Int) = (↑y.fst : Int)
 ∧ False ∧ True) ∧ True) ∨ ∃ (y : Nat × List D), (y.fst ≤ ev.len ∧ (0 : Nat) < totE ev ev.len ∧ totE ev y.fst ≤ y.snd.length ∧ List.take (totE ev y.fst) y.snd = flatL ev y.fst) ∧ ev.len - y.fst <
 ev.len - x.fst ∧ ((↑x.fst : Int) + (1 : Int) = (↑y.fst : Int) ∧ ((0 : Nat) = (0 : Nat) ∧ (el ev x.fst).len = totE ev y.fst ∧ True) ∧ True) ∧ (el ev x.fst).asList = y.snd ∧ True))) ∧ (((↑x.fst : Int) <
 (↑ev.len : Int) → False) → D.nil = listD (flatL ev ev.len))) ∧ ∀ (x : Nat × List D), x.fst ≤ ev.len ∧ (0 : Nat) < totE ev ev.len ∧ totE ev x.fst ≤ x.snd.length ∧ List.take (totE ev x.fst) x.snd =
 flatL ev x.fst → ev.len - x.fst < LIM ∧ ((↑x.fst : Int) < (↑ev.len : Int) → (0 : Int) ≤ (↑x.fst : Int) ∧ (↑x.fst : Int) < (↑ev.len : Int) ∧ ((el ev x.fst).len = (0 : Nat) → ((-9223372036854775808 :
 Int) ≤ (↑x.fst : Int) + (1 : Int) ∧ (↑x.fst : Int) + (1 : Int) < (9223372036854775808 : Int)) ∧ ((∃ (y : Nat × List D), (y.fst ≤ ev.len ∧ totE ev ev.len = (0 : Nat)) ∧ ev.len - y.fst < ev.len - x.fst
 ∧ False) ∨ ∃ (y : Nat × List D), (y.fst ≤ ev.len ∧ (0 : Nat) < totE ev ev.len ∧ totE ev y.fst ≤ y.snd.length ∧ List.take (totE ev y.fst) y.snd = flatL ev y.fst) ∧ ev.len - y.fst < ev.len - x.fst ∧
 ((↑x.fst : Int) + (1 : Int) = (↑y.fst : Int) ∧ ((0 : Nat) = (0 : Nat) ∧ totE ev x.fst = totE ev y.fst ∧ True) ∧ True) ∧ x.snd = y.snd ∧ True)) ∧ ((0 : Nat) < (el ev x.fst).len → (0 : Nat) + totE ev
 x.fst ≤ x.snd.length ∧ totE ev x.fst + (el ev x.fst).len ≤ (16777216 : Nat) ∧ ((-9223372036854775808 : Int) ≤ (↑x.fst : Int) + (1 : Int) ∧ (↑x.fst : Int) + (1 : Int) < (9223372036854775808 : Int)) ∧
 ((∃ (y : Nat × List D), (y.fst ≤ ev.len ∧ totE ev ev.len = (0 : Nat)) ∧ ev.len - y.fst < ev.len - x.fst ∧ False) ∨ ∃ (y : Nat × List D), (y.fst ≤ ev.len ∧ (0 : Nat) < totE ev ev.len ∧ totE ev y.fst ≤
 y.snd.length ∧ List.take (totE ev y.fst) y.snd = flatL ev y.fst) ∧ ev.len - y.fst < ev.len - x.fst ∧ ((↑x.fst : Int) + (1 : Int) = (↑y.fst : Int) ∧ ((0 : Nat) = (0 : Nat) ∧ totE ev x.fst + (el ev
 x.fst).len = totE ev y.fst ∧ True) ∧ True) ∧ List.take (totE ev x.fst) x.snd ++ (el ev x.fst).asList = y.snd ∧ True))) ∧ (((↑x.fst : Int) < (↑ev.len : Int) → False) → (0 : Nat) + totE ev x.fst ≤
 x.snd.length ∧ D.list (List.take (totE ev x.fst) x.snd) = listD (flatL ev ev.len)))) := by intros; kernel_rfl
theorem flat_sub (ev : D) {n m : Nat} (h : n ≤ m) : ∀ a, a ∈ flatL ev n → a ∈ flatL ev m := by
 induction m with
 | zero => intro a ha; rwa [show n = 0 by omega] at ha
 | succ m ih =>
  intro a ha
  rcases Nat.lt_or_ge m n with h' | h'
  ·rwa [show n = m + 1 by omega] at ha
  ·exact List.mem_append.2 (.inl (ih h' a ha))
theorem s44 (n : Int) (sz ev : D) (h1 : 1 ≤ n) (h2 : n ≤ 64) (he : smE ev) (hz : sz.len ≤ 1000) : symFun (ctx ck3 ekAnn) 3 44 [.int .i64 n, .dat 24 sz, .dat 51 ev] (.int .i64 (errE n sz ev)) := by
 rw [vc44]
 have hl := he.out.1
 refine ⟨fun h0 => ⟨fun hn => errE_2 (.inr ⟨by omega, fun h' => hn (by have := h'.out.1; omega)⟩), fun hn => ?_⟩, fun h0 => ?_⟩
 all_goals
  have hs : 0 < sz.len → sz.len = ev.len := by first | (intro _; have hn := Classical.not_not.1 hn; omega) | (intro h; exact absurd (show (0 : Int) < (sz.len : Int) by omega) h0)
  clear h0
  refine And.intro ⟨0, ⟨Nat.zero_le _, fun i hi => absurd hi (Nat.not_lt_zero _)⟩, ⟨rfl, trivial⟩, trivial⟩ (fun x hx => ⟨lim_of (by omega), fun hlt => ⟨by omega, by omega, fun h3 => ⟨fun h4 => ⟨by omega, by have := hs (by omega); omega, by omega, by omega, fun h5 => errE_2 (.inr ⟨by omega, fun h' => h5 (h'.out.2 x (by omega)).symm⟩), fun h5 => ⟨⟨by omega, by omega⟩, x + 1, ⟨by omega, fun i hi => ?_⟩, by omega, ⟨by omega, trivial⟩, trivial⟩⟩, fun h4 => ⟨⟨by omega, by omega⟩, x + 1, ⟨by omega, fun i hi => ?_⟩, by omega, ⟨by omega, trivial⟩, trivial⟩⟩, fun h3 => errE_2 (.inl ⟨x, by omega, by omega⟩)⟩, fun hge => ?_⟩)
  ·have h5 := Classical.not_not.1 h5
   rcases Nat.lt_or_ge i x with h' | h'
   ·exact hx.2 i h'
   ·rw [show i = x by omega]; exact ⟨fun h => h3 (by omega), fun _ => h5.symm⟩
  ·rcases Nat.lt_or_ge i x with h' | h'
   ·exact hx.2 i h'
   ·rw [show i = x by omega]; exact ⟨fun h => h3 (by omega), fun h => absurd (show (0 : Int) < (sz.len : Int) by omega) h4⟩
  ·have hge := not_of hge
   have em : ¬ emptyP ev := fun ⟨i, hi, h0⟩ => (hx.2 i (by omega)).1 h0
   have eg := errE_g (n := n) em fun h => ⟨(hs h).symm, fun i hi => (hx.2 i (by omega)).2 h⟩
   rw [eg]
   clear eg em hx hge hs
   refine And.intro ⟨0, ⟨Nat.zero_le _, fun ⟨a, ha, _⟩ => (by cases ha)⟩, ⟨rfl, trivial⟩, trivial⟩ (fun x hx => ⟨lim_of (by omega), fun hlt => ?_, fun hge => ?_⟩)
   ·have hle := he.out.2 x (by omega)
    have six : ∀ j, j < (el ev x).len → ¬ (0 ≤ nAt (el ev x) j ∧ nAt (el ev x) j < n) → 6 = errG n (flatL ev ev.len) := fun j hj hn => (errG_6 ⟨_, by
     have hm : nthD (el ev x).asList j ∈ flatL ev (x + 1) := List.mem_append.2 (.inr (nthD_mem hj))
     exact flat_sub ev (by omega) _ hm, hn⟩).symm
    refine And.intro ⟨0, ⟨Nat.zero_le _, fun i hi => absurd hi (Nat.not_lt_zero _)⟩, ⟨rfl, trivial⟩, trivial⟩ (fun y hy => ⟨lim_of (by omega), by omega, by omega, fun hlt2 => ⟨by omega, by omega, by omega, by omega, fun h3 => ⟨by omega, by omega, by omega, by omega, fun h4 => six y (by omega) (by omega), fun h4 => ⟨⟨by omega, by omega⟩, y + 1, ⟨by omega, fun i hi => ?_⟩, by omega, ⟨by omega, trivial⟩, trivial⟩⟩, fun h3 => six y (by omega) (by omega)⟩, fun hge => ⟨⟨by omega, by omega⟩, x + 1, ⟨by omega, fun hO => ?_⟩, by omega, ⟨by omega, trivial⟩, trivial⟩⟩)
    ·rcases Nat.lt_or_ge i y with h' | h'
     ·exact hy.2 i h'
     ·have h3 := not_of h3; have h4 := not_of h4
      rw [show i = y by omega]; omega
    ·have hge := not_of hge
     obtain ⟨a, ha, hn⟩ := hO
     rcases List.mem_append.1 ha with ha | ha
     ·exact hx.2 ⟨a, ha, hn⟩
     ·obtain ⟨i, hi, rfl⟩ := mem_nthD ha
      exact hn (hy.2 i (by have : (el ev x).len = (el ev x).asList.length := rfl; omega))
   ·have hge := not_of hge
    have ho : ¬ outP n (flatL ev ev.len) := by rw [show ev.len = x by omega]; exact hx.2
    clear hx hge
    refine And.intro ⟨0, ⟨Nat.zero_le _, fun i hi => absurd hi (Nat.not_lt_zero _)⟩, ⟨rfl, trivial⟩, trivial⟩ (fun x hx => ⟨lim_of (by omega), fun hlt => ⟨he, fun h3 => (errG_5 ho (x := x) ⟨by omega, by omega⟩ h3).symm, fun h3 => ⟨⟨by omega, by omega⟩, x + 1, ⟨by omega, fun v hv => ?_⟩, by omega, ⟨by omega, trivial⟩, trivial⟩⟩, fun hge => ?_⟩)
    ·rcases Nat.lt_or_ge v x with h' | h'
     ·exact hx.2 v h'
     ·have h3 := not_of h3
      rw [show v = x by omega]; omega
    ·have hge := not_of hge
     have h1' : ∀ v : Nat, (v : Int) < n → cntF (flatL ev ev.len) v ≤ 1 := fun v hv => hx.2 v (by omega)
     clear hx hge
     refine And.intro ⟨0, ⟨Nat.zero_le _, fun i hi => absurd hi (Nat.not_lt_zero _)⟩, ⟨rfl, trivial⟩, trivial⟩ (fun x hx => ⟨lim_of (by omega), fun hlt => ⟨he, fun h3 => (errG_2 ho h1' (x := x) ⟨by omega, by omega⟩ h3).symm, fun h3 => ⟨⟨by omega, by omega⟩, x + 1, ⟨by omega, fun v hv => ?_⟩, by omega, ⟨by omega, trivial⟩, trivial⟩⟩, fun hge => ?_⟩)
     ·rcases Nat.lt_or_ge v x with h' | h'
      ·exact hx.2 v h'
      ·rw [show v = x by omega]; exact h3
     ·have hge := not_of hge
      exact (errG_0 ho h1' fun v hv => hx.2 v (by omega)).symm
section
variable {n : Int} {sz s : D}
theorem chk_90 (h : ¬ (1 ≤ n ∧ n ≤ 64) ∨ (0 < sz.len ∧ ¬ fitP n sz)) : chk n sz s = (0, 90) := by unfold chk; rw [if_pos h]
theorem chk_7 (h : 1 ≤ n ∧ n ≤ 64) (h1 : 0 < sz.len → fitP n sz) (h2 : 64 < s.len) : chk n sz s = (0, 7) := by unfold chk; rw [if_neg fun h' => h'.elim (fun k => k h) fun k => k.2 (h1 k.1), if_pos h2]
theorem chk_s (h : 1 ≤ n ∧ n ≤ 64) (h1 : 0 < sz.len → fitP n sz) (h2 : ¬ 64 < s.len) : chk n sz s = scanK n sz s s.len 0 := by unfold chk; rw [if_neg fun h' => h'.elim (fun k => k h) fun k => k.2 (h1 k.1), if_neg h2]
end
theorem s22 (n : Int) (sz s : D) (hz : sz.len ≤ 1000) (hs : bigP s) : symFun (ctx ck4 ekAnn) 4 22 [.int .i64 n, .dat 24 sz, .dat 33 s] (.tup [.int .i64 (chk n sz s).1, .int .i64 (chk n sz s).2]) := by
 rw [vc22]
 have bad : (¬ (1 ≤ n ∧ n ≤ 64) ∨ (0 < sz.len ∧ ¬ fitP n sz)) → 0 = (chk n sz s).1 ∧ 90 = (chk n sz s).2 ∧ True := fun h => by rw [chk_90 h]; exact ⟨rfl, rfl, trivial⟩
 refine ⟨fun h1 => ⟨fun h2 => ?_, fun h2 => bad (.inl (by have := not_of h2; omega))⟩, fun h1 => bad (.inl (by have := not_of h1; omega))⟩
 have h2 := Classical.not_not.1 h2
 refine ⟨fun h0 => ⟨⟨⟨h1, h2⟩, by omega⟩, fun hf => bad (.inr ⟨by omega, hf⟩), fun hf => ?_⟩, fun h0 => ?_⟩
 all_goals
  have hfit : 0 < sz.len → fitP n sz := by first | (intro _; exact Classical.not_not.1 hf) | (intro h; exact absurd (show (0 : Int) < (sz.len : Int) by omega) h0)
  refine ⟨fun h3 => by rw [chk_7 ⟨h1, h2⟩ hfit (by omega)]; exact ⟨rfl, rfl, trivial⟩, fun h3 => ?_⟩
  have h3 := not_of h3
  rw [chk_s ⟨h1, h2⟩ hfit (by omega)]
  refine And.intro ⟨0, ⟨Nat.zero_le _, rfl⟩, ⟨rfl, trivial⟩, trivial⟩ (fun x hx => ⟨lim_of (by omega), fun hlt => ?_, fun hge => ?_⟩)
  ·have st := scan_step (n := n) (sz := sz) (s := s) (x := x) (by omega)
   rw [hx.2] at st
   refine ⟨by omega, by omega, ⟨⟨h1, h2⟩, hs.out.2 x (by omega), hz⟩, fun hn => by rw [st, if_pos hn]; exact ⟨rfl, rfl, trivial⟩, fun hn => ⟨⟨by omega, by omega⟩, x + 1, ⟨by omega, ?_⟩, by omega, ⟨by omega, trivial⟩, trivial⟩⟩
   rw [st, if_neg hn]
  ·have hge := not_of hge
   have st := scan_end (n := n) (sz := sz) (s := s) (x := x) (by omega)
   rw [hx.2] at st
   rw [st]; exact ⟨rfl, rfl, trivial⟩
theorem s23 (n : Int) (sz s : D) (hz : sz.len ≤ 1000) (hs : bigP s) : symFun (ctx ck4 ekAnn) 4 23 [.int .i64 n, .dat 24 sz, .dat 33 s] (.tup [.int .i64 (chk n sz s).1, .int .i64 (chk n sz s).2]) := by
 rw [vc23]
 have bad : (¬ (1 ≤ n ∧ n ≤ 64) ∨ (0 < sz.len ∧ ¬ fitP n sz)) → 0 = (chk n sz s).1 ∧ 90 = (chk n sz s).2 ∧ True := fun h => by rw [chk_90 h]; exact ⟨rfl, rfl, trivial⟩
 refine ⟨fun h1 => ⟨fun h2 => ?_, fun h2 => bad (.inl (by omega))⟩, fun h1 => bad (.inl (by omega))⟩
 have h1 := not_of h1
 have h2 := not_of h2
 have h1 : 1 ≤ n := by omega
 have h2 : n ≤ 64 := by omega
 refine ⟨fun h0 => ⟨by omega, fun hf => bad (.inr ⟨by omega, fun h => hf ⟨h1, h2, h⟩⟩), fun hf => ?_⟩, fun h0 => ?_⟩
 all_goals
  have hfit : 0 < sz.len → fitP n sz := by first | (intro _; exact (Classical.not_not.1 hf).fit) | (intro h; exact absurd (show (0 : Int) < (sz.len : Int) by omega) h0)
  refine ⟨fun h3 => by rw [chk_7 ⟨h1, h2⟩ hfit (by omega)]; exact ⟨rfl, rfl, trivial⟩, fun h3 => ?_⟩
  have h3 := not_of h3
  rw [chk_s ⟨h1, h2⟩ hfit (by omega)]
  refine And.intro ⟨0, ⟨Nat.zero_le _, rfl⟩, ⟨rfl, trivial⟩, trivial⟩ (fun x hx => ⟨lim_of (by omega), fun hlt => ?_, fun hge => ?_⟩)
  ·have st := scan_step (n := n) (sz := sz) (s := s) (x := x) (by omega)
   rw [hx.2] at st
   refine ⟨by omega, by omega, ⟨⟨h1, h2⟩, hs.out.2 x (by omega), hz⟩, fun hn => by rw [st, if_pos hn]; exact ⟨rfl, rfl, trivial⟩, fun hn => ⟨⟨by omega, by omega⟩, x + 1, ⟨by omega, ?_⟩, by omega, ⟨by omega, trivial⟩, trivial⟩⟩
   rw [st, if_neg hn]
  ·have hge := not_of hge
   have st := scan_end (n := n) (sz := sz) (s := s) (x := x) (by omega)
   rw [hx.2] at st
   rw [st]; exact ⟨rfl, rfl, trivial⟩
theorem tot0_flat {ev : D} (h : totE ev ev.len = 0) {x : Nat} (hx : x ≤ ev.len) : flatL ev x = [] := by
 have h1 := tot_mono' ev hx
 exact List.eq_nil_of_length_eq_zero (by rw [flat_len]; omega)
theorem nn_of {a b : Int} (h : a ≤ b) : (b - a).NonNeg := h
theorem s65 (ev : D) (he : smE ev) : symFun (ctxj cc0 ekAnn ekJoin) 4 65 [.dat 51 ev] (.dat 24 (listD (flatL ev ev.len))) := by
 rw [vc65]
 have hl := he.out.1
 have ht := tot_le he.out.2
 refine And.intro ⟨0, Nat.zero_le _, ⟨rfl, rfl, trivial⟩, trivial⟩ (fun x hx => ?_)
 have hx : x ≤ ev.len := hx
 have htx := ht x hx
 refine ⟨lim_of (by omega), fun hlt => ?_, fun hge => ?_⟩
 ·have h2 := he.out.2 x (by omega)
  have e : totE ev (x + 1) = totE ev x + (el ev x).len := rfl
  exact ⟨by omega, by omega, ⟨by omega, by omega⟩, fun h => by omega, fun _ => ⟨⟨by omega, by omega⟩, x + 1, show x + 1 ≤ ev.len by omega, by omega, ⟨by omega, by omega, trivial⟩, trivial⟩⟩
 have hge := not_of hge
 have hxe : x = ev.len := by omega
 subst hxe
 refine ⟨⟨fun h => by omega, fun _ => ⟨⟨by omega, by omega⟩, fun hpos => ⟨by omega, by omega, by omega, by omega, by omega, by omega, by omega, nn_of (by omega), Or.inr ⟨_, nn_of (by omega), ⟨⟨rfl, rfl, trivial⟩, trivial⟩, rfl, trivial⟩⟩, fun hz => Or.inl ⟨[], nn_of (by have := not_of hz; omega), ⟨trivial, trivial⟩, trivial⟩⟩⟩, fun r0 hr0 => ?_, fun r0 hr0 => ?_⟩
 ·have hz : (totE ev ev.len : Int) ≤ 0 := hr0
  have h0 : totE ev ev.len = 0 := by omega
  refine ⟨Or.inl ⟨(0, []), ⟨Nat.zero_le _, h0⟩, ⟨rfl, trivial, trivial⟩, trivial⟩, fun y hy => ?_, fun y hy => by have := hy.2.1; omega⟩
  obtain ⟨k, r⟩ := y
  dsimp only at hy ⊢
  obtain ⟨hk, _⟩ := hy
  refine ⟨lim_of (by omega), fun hlt => ⟨by omega, by omega, fun hn => ⟨⟨by omega, by omega⟩, Or.inl ⟨(k + 1, []), ⟨by omega, h0⟩, by omega, ⟨by omega, trivial, trivial⟩, trivial⟩⟩, fun hn => ?_⟩, fun hge => ?_⟩
  ·have e : totE ev (k + 1) = totE ev k + (el ev k).len := rfl
   have := tot_mono' ev (show k + 1 ≤ ev.len by omega)
   exact absurd hn (by omega)
  ·rw [tot0_flat h0 (Nat.le_refl _)]; rfl
 ·have hp0 : (0 : Int) + 1 ≤ (totE ev ev.len : Int) := hr0
  refine ⟨Or.inr ⟨(0, r0), ⟨Nat.zero_le _, by omega, Nat.zero_le _, rfl⟩, ⟨rfl, ⟨rfl, rfl, trivial⟩, trivial⟩, rfl, trivial⟩, fun y hy => by have := hy.2; omega, fun y hy => ?_⟩
  obtain ⟨k, r⟩ := y
  dsimp only at hy ⊢
  obtain ⟨hk, hp, hr, hrt⟩ := hy
  have htk := ht k hk
  refine ⟨lim_of (by omega), fun hlt => ?_, fun hge => ?_⟩
  ·have h2 := he.out.2 k (by omega)
   have e : totE ev (k + 1) = totE ev k + (el ev k).len := rfl
   have ef : flatL ev (k + 1) = flatL ev k ++ (el ev k).asList := rfl
   have el0 : (el ev k).asList.length = (el ev k).len := rfl
   refine ⟨by omega, by omega, fun h0 => ⟨⟨by omega, by omega⟩, Or.inr ⟨(k + 1, r), ⟨by omega, by omega, by dsimp only; omega, ?_⟩, by dsimp only; omega, ⟨by dsimp only; omega, ⟨rfl, by dsimp only; omega, trivial⟩, trivial⟩, rfl, trivial⟩⟩, fun h0 => ⟨by omega, by omega, ⟨by omega, by omega⟩, Or.inr ⟨(k + 1, _), ⟨by dsimp only; omega, by omega, ?_, ?_⟩, by dsimp only; omega, ⟨by dsimp only; omega, ⟨rfl, by dsimp only; omega, trivial⟩, trivial⟩, rfl, trivial⟩⟩⟩
   ·dsimp only
    rw [e, h0, Nat.add_zero, hrt, ef, List.eq_nil_of_length_eq_zero (show (el ev k).asList.length = 0 from h0), List.append_nil]
   ·dsimp only
    rw [List.length_append, hrt, flat_len]
    exact Nat.le_of_eq rfl
   ·dsimp only
    rw [hrt, ef]
    exact List.take_of_length_le (by rw [List.length_append, flat_len]; exact Nat.le_of_eq rfl)
  ·have hge := not_of hge
   have e : k = ev.len := by omega
   subst e
   refine ⟨by omega, ?_⟩
   rw [hrt]
   cases hf : flatL ev ev.len with
   | nil => have := flat_len ev ev.len; rw [hf] at this; exact absurd this.symm (by show ¬ totE ev ev.len = 0; omega)
   | cons a l => rfl
theorem isNil_len0 {t : D} (h : t.isNil) : t.len = 0 := by
 cases t with
 | nil => rfl
 | _ => exact h.elim
theorem cp_e1 {t : D} (h : t.len = 0) (r : List D) : D.list (List.take t.len r) = cpT t := by
 rw [h, List.take_zero]
 unfold cpT
 rw [List.eq_nil_of_length_eq_zero (show t.asList.length = 0 from h)]
theorem cp_e2 (t d : D) : D.list (List.take t.len (List.drop (0 + 0) (List.take t.len (List.take 0 ([] : List D) ++ t.asList) ++ List.take 1 [d]))) = cpT t := by
 unfold cpT
 show D.list (List.take t.asList.length (List.take t.asList.length t.asList ++ [d])) = _
 rw [List.take_of_length_le (Nat.le_refl _), List.take_left]
theorem cpEL_len (e : D) (n : Nat) : (cpEL e n).length = n := by unfold cpEL; rw [List.length_map, List.length_range]
theorem cpSL_len (e : D) (n : Nat) : (cpSL e n).length = n := by unfold cpSL; rw [List.length_map, List.length_range]
theorem cpEL_succ (e : D) (n : Nat) : List.take n (cpEL e n) ++ [cpT (el e n)] = cpEL e (n + 1) := by
 rw [List.take_of_length_le (by rw [cpEL_len]; exact Nat.le_refl _)]
 unfold cpEL
 rw [List.range_succ, List.map_append]; rfl
theorem cpSL_succ (e : D) (n : Nat) : List.take n (cpSL e n) ++ [cpE (el e n)] = cpSL e (n + 1) := by
 rw [List.take_of_length_le (by rw [cpSL_len]; exact Nat.le_refl _)]
 unfold cpSL
 rw [List.range_succ, List.map_append]; rfl
theorem cpE_list {e : D} (h : 0 < e.len) : D.list (List.take e.len (cpEL e e.len)) = cpE e := by
 rw [List.take_of_length_le (by rw [cpEL_len]; exact Nat.le_refl _)]
 unfold cpE
 cases hc : cpEL e e.len with
 | nil => have := cpEL_len e e.len; rw [hc] at this; exact absurd this (by show ¬ 0 = e.len; omega)
 | cons a l => rfl
theorem cpE_nil {e : D} (h : e.len = 0) : cpE e = .nil := by unfold cpE; rw [h]; rfl
theorem cpS_list {e : D} (h : 0 < e.len) : D.list (List.take e.len (cpSL e e.len)) = cpS e := by
 rw [List.take_of_length_le (by rw [cpSL_len]; exact Nat.le_refl _)]
 unfold cpS
 cases hc : cpSL e e.len with
 | nil => have := cpSL_len e e.len; rw [hc] at this; exact absurd this (by show ¬ 0 = e.len; omega)
 | cons a l => rfl
theorem cpS_nil {e : D} (h : e.len = 0) : cpS e = .nil := by unfold cpS; rw [h]; rfl
end Go.Ev
