/-
  Part of the engine that the claim is proved with: it states nothing of the document by itself.
-/
import Derived.Test.YtenmglepjkflhaaGreatDoorCoreMeDefs
open Go.Proofs
namespace Go.Ev
set_option maxRecDepth 100000
set_option maxHeartbeats 4000000
theorem me43 : ∀ (t : D) (x : Int), symFun (ctx cc0 reAnn) (3 : Nat) (43 : FuncId) [V.dat (27 : TypeId) t, V.int IntKind.i64 x] (V.prop (hasT t x)) = ((∃ (x_1 : Nat), (x_1 ≤ t.len ∧ ∀ (k : Nat), k <
x_1 → nAt t k = x → False) ∧ ((0 : Int) = (↑x_1 : Int) ∧ True) ∧ True) ∧ ∀ (x_1 : Nat), (x_1 ≤ t.len ∧ ∀ (k : Nat), k < x_1 → nAt t k = x → False) → t.len - x_1 < LIM ∧ ((↑x_1 : Int) < (↑t.len : Int)
→ (0 : Int) ≤ (↑x_1 : Int) ∧ (↑x_1 : Int) < (↑t.len : Int) ∧ (nAt t x_1 = x → (true = true ↔ hasT t x)) ∧ ((nAt t x_1 = x → False) → ((-9223372036854775808 : Int) ≤ (↑x_1 : Int) + (1 : Int) ∧ (↑x_1 :
Int) + (1 : Int) < (9223372036854775808 : Int)) ∧ ∃ (y : Nat), (y ≤ t.len ∧ ∀ (k : Nat), k < y → nAt t k = x → False) ∧ t.len - y < t.len - x_1 ∧ ((↑x_1 : Int) + (1 : Int) = (↑y : Int) ∧ True) ∧
True)) ∧ (((↑x_1 : Int) < (↑t.len : Int) → False) → (false = true ↔ hasT t x))) := by intros; kernel_rfl
theorem me45 : ∀ (t : D) (a b : Int), symFun (ctx cc0 reAnn) (3 : Nat) (45 : FuncId) [V.dat (27 : TypeId) t, V.int IntKind.i64 a, V.int IntKind.i64 b] (V.prop (nxP t a b)) = ((∃ (x : Nat), (x ≤ t.len
∧ ∀ (i : Nat), i < x → nAt t i = a ∧ nAt t (if i + (1 : Nat) = t.len then (0 : Nat) else i + (1 : Nat)) = b → False) ∧ ((0 : Int) = (↑x : Int) ∧ True) ∧ True) ∧ ∀ (x : Nat), (x ≤ t.len ∧ ∀ (i : Nat),
i < x → nAt t i = a ∧ nAt t (if i + (1 : Nat) = t.len then (0 : Nat) else i + (1 : Nat)) = b → False) → t.len - x < LIM ∧ ((↑x : Int) < (↑t.len : Int) → ((-9223372036854775808 : Int) ≤ (↑x : Int) + (1
: Int) ∧ (↑x : Int) + (1 : Int) < (9223372036854775808 : Int)) ∧ ((↑x : Int) + (1 : Int) = (↑t.len : Int) → (0 : Int) ≤ (↑x : Int) ∧ (↑x : Int) < (↑t.len : Int) ∧ (nAt t x = a → (0 : Int) ≤ (0 : Int)
∧ (0 : Int) < (↑t.len : Int) ∧ (nAt t (0 : Nat) = b → (true = true ↔ nxP t a b)) ∧ ((nAt t (0 : Nat) = b → False) → ((-9223372036854775808 : Int) ≤ (↑x : Int) + (1 : Int) ∧ (↑x : Int) + (1 : Int) <
(9223372036854775808 : Int)) ∧ ∃ (y : Nat), (y ≤ t.len ∧ ∀ (i : Nat), i < y → nAt t i = a ∧ nAt t (if i + (1 : Nat) = t.len then (0 : Nat) else i + (1 : Nat)) = b → False) ∧ t.len - y < t.len - x ∧
((↑x : Int) + (1 : Int) = (↑y : Int) ∧ True) ∧ True)) ∧ ((nAt t x = a → False) → ((-9223372036854775808 : Int) ≤ (↑x : Int) + (1 : Int) ∧ (↑x : Int) + (1 : Int) < (9223372036854775808 : Int)) ∧ ∃ (y :
Nat), (y ≤ t.len ∧ ∀ (i : Nat), i < y → nAt t i = a ∧ nAt t (if i + (1 : Nat) = t.len then (0 : Nat) else i + (1 : Nat)) = b → False) ∧ t.len - y < t.len - x ∧ ((↑x : Int) + (1 : Int) = (↑y : Int) ∧
True) ∧ True)) ∧ (((↑x : Int) + (1 : Int) = (↑t.len : Int) → False) → (0 : Int) ≤ (↑x : Int) ∧ (↑x : Int) < (↑t.len : Int) ∧ (nAt t x = a → (0 : Int) ≤ (↑x : Int) + (1 : Int) ∧ (↑x : Int) + (1 : Int)
< (↑t.len : Int) ∧ (nAt t ((↑x : Int) + (1 : Int)).toNat = b → (true = true ↔ nxP t a b)) ∧ ((nAt t ((↑x : Int) + (1 : Int)).toNat = b → False) → ((-9223372036854775808 : Int) ≤ (↑x : Int) + (1 : Int)
∧ (↑x : Int) + (1 : Int) < (9223372036854775808 : Int)) ∧ ∃ (y : Nat), (y ≤ t.len ∧ ∀ (i : Nat), i < y → nAt t i = a ∧ nAt t (if i + (1 : Nat) = t.len then (0 : Nat) else i + (1 : Nat)) = b → False) ∧
t.len - y < t.len - x ∧ ((↑x : Int) + (1 : Int) = (↑y : Int) ∧ True) ∧ True)) ∧ ((nAt t x = a → False) → ((-9223372036854775808 : Int) ≤ (↑x : Int) + (1 : Int) ∧ (↑x : Int) + (1 : Int) <
(9223372036854775808 : Int)) ∧ ∃ (y : Nat), (y ≤ t.len ∧ ∀ (i : Nat), i < y → nAt t i = a ∧ nAt t (if i + (1 : Nat) = t.len then (0 : Nat) else i + (1 : Nat)) = b → False) ∧ t.len - y < t.len - x ∧
((↑x : Int) + (1 : Int) = (↑y : Int) ∧ True) ∧ True))) ∧ (((↑x : Int) < (↑t.len : Int) → False) → (false = true ↔ nxP t a b))) := by intros; kernel_rfl
theorem me21 : ∀ (M : D), symFun (ctx cc0 reAnn) (3 : Nat) (21 : FuncId) [V.dat (26 : TypeId) M] (V.int IntKind.i64 (moS M M.len)) = ((∃ (x : Nat), x.le M.len ∧ ((0 : Int) = (↑x : Int) ∧ (0 : Int) =
moS M x ∧ True) ∧ True) ∧ ∀ (x : Nat), x.le M.len → M.len - x < LIM ∧ ((↑x : Int) < (↑M.len : Int) → (∃ (x_1 : Nat), x_1.le x ∧ ((0 : Int) = (↑x_1 : Int) ∧ moS M x = moR (el M x) (moS M x) x_1 ∧ True)
∧ True) ∧ ∀ (x_1 : Nat), x_1.le x → x - x_1 < LIM ∧ ((↑x_1 : Int) < (↑x : Int) → (0 : Int) ≤ (↑x : Int) ∧ (↑x : Int) < (↑M.len : Int) ∧ (0 : Int) ≤ (↑x_1 : Int) ∧ (↑x_1 : Int) < (↑(el M x).len : Int)
∧ ((-9223372036854775808 : Int) ≤ (↑x_1 : Int) + (1 : Int) ∧ (↑x_1 : Int) + (1 : Int) < (9223372036854775808 : Int)) ∧ ∃ (y : Nat), y.le x ∧ x - y < x - x_1 ∧ ((↑x_1 : Int) + (1 : Int) = (↑y : Int) ∧
max (moR (el M x) (moS M x) x_1) (nAt (el M x) x_1) = moR (el M x) (moS M x) y ∧ True) ∧ True) ∧ (((↑x_1 : Int) < (↑x : Int) → False) → ((-9223372036854775808 : Int) ≤ (↑x : Int) + (1 : Int) ∧ (↑x :
Int) + (1 : Int) < (9223372036854775808 : Int)) ∧ ∃ (y : Nat), y.le M.len ∧ M.len - y < M.len - x ∧ ((↑x : Int) + (1 : Int) = (↑y : Int) ∧ moR (el M x) (moS M x) x_1 = moS M y ∧ True) ∧ True)) ∧ (((↑x
: Int) < (↑M.len : Int) → False) → moS M x = moS M M.len)) := by intros; kernel_rfl
theorem me22 : ∀ (M : D), symFun (ctx re4 reAnn) (3 : Nat) (22 : FuncId) [V.dat (26 : TypeId) M] (V.int IntKind.i64 (leS M (moS M M.len) M.len)) = (sqM M ∧ (∃ (x : Nat), x.le M.len ∧ ((0 : Int) = (↑x
: Int) ∧ moS M M.len = leS M (moS M M.len) x ∧ True) ∧ True) ∧ ∀ (x : Nat), x.le M.len → M.len - x < LIM ∧ ((↑x : Int) < (↑M.len : Int) → (∃ (x_1 : Nat), x_1.le x ∧ ((0 : Int) = (↑x_1 : Int) ∧ leS M
(moS M M.len) x = leR (el M x) (leS M (moS M M.len) x) x_1 ∧ True) ∧ True) ∧ ∀ (x_1 : Nat), x_1.le x → x - x_1 < LIM ∧ ((↑x_1 : Int) < (↑x : Int) → (0 : Int) ≤ (↑x : Int) ∧ (↑x : Int) < (↑M.len : Int)
∧ (0 : Int) ≤ (↑x_1 : Int) ∧ (↑x_1 : Int) < (↑(el M x).len : Int) ∧ ((-9223372036854775808 : Int) ≤ (↑x_1 : Int) + (1 : Int) ∧ (↑x_1 : Int) + (1 : Int) < (9223372036854775808 : Int)) ∧ ∃ (y : Nat),
y.le x ∧ x - y < x - x_1 ∧ ((↑x_1 : Int) + (1 : Int) = (↑y : Int) ∧ min (leR (el M x) (leS M (moS M M.len) x) x_1) (nAt (el M x) x_1) = leR (el M x) (leS M (moS M M.len) x) y ∧ True) ∧ True) ∧ (((↑x_1
: Int) < (↑x : Int) → False) → ((-9223372036854775808 : Int) ≤ (↑x : Int) + (1 : Int) ∧ (↑x : Int) + (1 : Int) < (9223372036854775808 : Int)) ∧ ∃ (y : Nat), y.le M.len ∧ M.len - y < M.len - x ∧ ((↑x :
Int) + (1 : Int) = (↑y : Int) ∧ leR (el M x) (leS M (moS M M.len) x) x_1 = leS M (moS M M.len) y ∧ True) ∧ True)) ∧ (((↑x : Int) < (↑M.len : Int) → False) → leS M (moS M M.len) x = leS M (moS M M.len)
M.len)) := by intros; kernel_rfl
theorem me23 : ∀ (M : D), symFun (ctx cc0 reAnn) (3 : Nat) (23 : FuncId) [V.dat (26 : TypeId) M] (V.int IntKind.i64 (stS M M.len)) = ((∃ (x : Nat), x.le M.len ∧ ((0 : Int) = (↑x : Int) ∧ (0 : Int) =
stS M x ∧ True) ∧ True) ∧ ∀ (x : Nat), x.le M.len → M.len - x < LIM ∧ ((↑x : Int) < (↑M.len : Int) → (∃ (x_1 : Nat), x_1.le x ∧ ((0 : Int) = (↑x_1 : Int) ∧ stS M x = stR (el M x) (stS M x) x_1 ∧ True)
∧ True) ∧ ∀ (x_1 : Nat), x_1.le x → x - x_1 < LIM ∧ ((↑x_1 : Int) < (↑x : Int) → (0 : Int) ≤ (↑x : Int) ∧ (↑x : Int) < (↑M.len : Int) ∧ (0 : Int) ≤ (↑x_1 : Int) ∧ (↑x_1 : Int) < (↑(el M x).len : Int)
∧ (0 : Int) ≤ (↑x : Int) ∧ (↑x : Int) < (↑M.len : Int) ∧ (0 : Int) ≤ (↑x_1 : Int) ∧ (↑x_1 : Int) < (↑(el M x).len : Int) ∧ ((-9223372036854775808 : Int) ≤ nAt (el M x) x_1 * nAt (el M x) x_1 ∧ nAt (el
M x) x_1 * nAt (el M x) x_1 < (9223372036854775808 : Int)) ∧ ((-9223372036854775808 : Int) ≤ stR (el M x) (stS M x) x_1 + nAt (el M x) x_1 * nAt (el M x) x_1 ∧ stR (el M x) (stS M x) x_1 + nAt (el M
x) x_1 * nAt (el M x) x_1 < (9223372036854775808 : Int)) ∧ ((-9223372036854775808 : Int) ≤ (↑x_1 : Int) + (1 : Int) ∧ (↑x_1 : Int) + (1 : Int) < (9223372036854775808 : Int)) ∧ ∃ (y : Nat), y.le x ∧ x
- y < x - x_1 ∧ ((↑x_1 : Int) + (1 : Int) = (↑y : Int) ∧ stR (el M x) (stS M x) x_1 + nAt (el M x) x_1 * nAt (el M x) x_1 = stR (el M x) (stS M x) y ∧ True) ∧ True) ∧ (((↑x_1 : Int) < (↑x : Int) →
False) → ((-9223372036854775808 : Int) ≤ (↑x : Int) + (1 : Int) ∧ (↑x : Int) + (1 : Int) < (9223372036854775808 : Int)) ∧ ∃ (y : Nat), y.le M.len ∧ M.len - y < M.len - x ∧ ((↑x : Int) + (1 : Int) =
(↑y : Int) ∧ stR (el M x) (stS M x) x_1 = stS M y ∧ True) ∧ True)) ∧ (((↑x : Int) < (↑M.len : Int) → False) → stS M x = stS M M.len)) := by intros; kernel_rfl
theorem me8n : ∀ (n : Int) (s : D), symFun (ctx mn1 nlAnn) (3 : Nat) (8 : FuncId) [V.int IntKind.i64 n, V.dat (22 : TypeId) s] (V.dat (26 : TypeId) D.nil) = (bigP s ∧ (((chk n D.nil s).snd = (0 : Int)
→ False) → D.nil = D.nil) ∧ ((((chk n D.nil s).snd = (0 : Int) → False) → False) → False)) := by intros; kernel_rfl
theorem me9n : ∀ (n : Int) (s : D), symFun (ctx mn1 nlAnn) (3 : Nat) (9 : FuncId) [V.int IntKind.i64 n, V.dat (22 : TypeId) s] (V.dat (26 : TypeId) D.nil) = (bigP s ∧ (((chk n D.nil s).snd = (0 : Int)
→ False) → D.nil = D.nil) ∧ ((((chk n D.nil s).snd = (0 : Int) → False) → False) → False)) := by intros; kernel_rfl
theorem me10n : ∀ (n : Int) (s : D) (a b : Int), symFun (ctx mn1 nlAnn) (3 : Nat) (10 : FuncId) [V.int IntKind.i64 n, V.dat (22 : TypeId) s, V.int IntKind.i64 a, V.int IntKind.i64 b] (V.dat (27 :
TypeId) D.nil) = (((a = b → False) → bigP s ∧ (((chk n D.nil s).snd = (0 : Int) → False) → D.nil = D.nil) ∧ ((((chk n D.nil s).snd = (0 : Int) → False) → False) → (∃ (x : Unit), False ∧ True ∧ True) ∧
∀ (x : Unit), False → (0 : Nat) < LIM ∧ False)) ∧ (a = b → D.nil = D.nil)) := by intros; kernel_rfl
theorem me38n : ∀ (n : Int) (s : D), symFun (ctx mn1 nlAnn) (4 : Nat) (38 : FuncId) [V.int IntKind.i64 n, V.dat (22 : TypeId) s] (V.dat (27 : TypeId) D.nil) = (bigP s ∧ (((chk n D.nil s).snd = (0 :
Int) → False) → D.nil = D.nil) ∧ ((((chk n D.nil s).snd = (0 : Int) → False) → False) → False)) := by intros; kernel_rfl
theorem me11n : ∀ (n : Int) (s : D), symFun (ctx mn2 mtAnn) (3 : Nat) (11 : FuncId) [V.int IntKind.i64 n, V.dat (22 : TypeId) s] (V.int IntKind.i64 (0 : Int)) = ((bigP s ∧ (goodS n s → False)) ∧ (∃ (x
: Nat), x.le (0 : Nat) ∧ ((0 : Int) = (↑x : Int) ∧ (0 : Int) = mxZ D.nil x ∧ True) ∧ True) ∧ ∀ (x : Nat), x.le (0 : Nat) → (0 : Nat) - x < LIM ∧ ((↑x : Int) < (↑(0 : Nat) : Int) → (0 : Int) ≤ (↑x :
Int) ∧ (↑x : Int) < (↑(0 : Nat) : Int) ∧ ((-9223372036854775808 : Int) ≤ (↑x : Int) + (1 : Int) ∧ (↑x : Int) + (1 : Int) < (9223372036854775808 : Int)) ∧ ∃ (y : Nat), y.le (0 : Nat) ∧ (0 : Nat) - y <
(0 : Nat) - x ∧ ((↑x : Int) + (1 : Int) = (↑y : Int) ∧ max (mxZ D.nil x) (nthD [] x).asInt = mxZ D.nil y ∧ True) ∧ True) ∧ (((↑x : Int) < (↑(0 : Nat) : Int) → False) → mxZ D.nil x = (0 : Int))) := by intros; kernel_rfl
theorem me12n : ∀ (n : Int) (s : D), symFun (ctx mn2 mtAnn) (3 : Nat) (12 : FuncId) [V.int IntKind.i64 n, V.dat (22 : TypeId) s] (V.int IntKind.i64 (0 : Int)) = ((bigP s ∧ (goodS n s → False)) ∧ ((↑(0
: Nat) : Int) = (0 : Int) → (0 : Int) = (0 : Int)) ∧ (((↑(0 : Nat) : Int) = (0 : Int) → False) → False ∧ (0 : Int) = (0 : Int))) := by intros; kernel_rfl
theorem me13n : ∀ (n : Int) (s : D), symFun (ctx mn2 mtAnn) (3 : Nat) (13 : FuncId) [V.int IntKind.i64 n, V.dat (22 : TypeId) s] (V.int IntKind.i64 (0 : Int)) = ((bigP s ∧ (goodS n s → False)) ∧ (∃ (x
: Nat), x.le (0 : Nat) ∧ ((0 : Int) = (↑x : Int) ∧ (0 : Int) = sqSum D.nil x ∧ True) ∧ True) ∧ ∀ (x : Nat), x.le (0 : Nat) → (0 : Nat) - x < LIM ∧ ((↑x : Int) < (↑(0 : Nat) : Int) → (0 : Int) ≤ (↑x :
Int) ∧ (↑x : Int) < (↑(0 : Nat) : Int) ∧ ((-9223372036854775808 : Int) ≤ (nthD [] x).asInt * (nthD [] x).asInt ∧ (nthD [] x).asInt * (nthD [] x).asInt < (9223372036854775808 : Int)) ∧
((-9223372036854775808 : Int) ≤ sqSum D.nil x + (nthD [] x).asInt * (nthD [] x).asInt ∧ sqSum D.nil x + (nthD [] x).asInt * (nthD [] x).asInt < (9223372036854775808 : Int)) ∧ ((-9223372036854775808 :
Int) ≤ (↑x : Int) + (1 : Int) ∧ (↑x : Int) + (1 : Int) < (9223372036854775808 : Int)) ∧ ∃ (y : Nat), y.le (0 : Nat) ∧ (0 : Nat) - y < (0 : Nat) - x ∧ ((↑x : Int) + (1 : Int) = (↑y : Int) ∧ sqSum D.nil
x + (nthD [] x).asInt * (nthD [] x).asInt = sqSum D.nil y ∧ True) ∧ True) ∧ (((↑x : Int) < (↑(0 : Nat) : Int) → False) → sqSum D.nil x = (0 : Int))) := by intros; kernel_rfl
theorem scan_two {n : Int} {sz s : D} : ∀ f i, (scanK n sz s f i).2 = 0 → scanK n sz s f i = (0, 0)
 | 0, _, _ => rfl
 | f + 1, i, h => by
  unfold scanK at h ⊢
  by_cases he : errE n sz (el s i) ≠ 0
  ·rw [if_pos he] at h; exact absurd h he
  ·rw [if_neg he] at h ⊢; exact scan_two f (i + 1) h
theorem chk_two {n : Int} {sz s : D} (h : (chk n sz s).2 = 0) : chk n sz s = (0, 0) := by
 unfold chk at h ⊢
 split at h
 ·exact absurd h (by decide)
 ·rename_i h1
  rw [if_neg h1]
  split at h
  ·exact absurd h (by decide)
  ·rename_i h2
   rw [if_neg h2]; exact scan_two _ _ h
theorem good_of {n : Int} {s : D} (hb : bigP s) (h : (chk n .nil s).2 = 0) : goodS n s := by
 have hc := chk_two h
 refine ⟨Classical.not_not.1 fun k => ?_, hb, hc⟩
 unfold chk at hc
 rw [if_pos (.inl k)] at hc
 exact absurd (congrArg Prod.snd hc) (by decide)
theorem s8n (n : Int) (s : D) (hb : bigP s) (hn : ¬ goodS n s) : symFun (ctx mn1 nlAnn) 3 8 [.int .i64 n, .dat 22 s] (.dat 26 .nil) := by
 rw [me8n]; exact ⟨hb, fun _ => rfl, fun k => k fun h => hn (good_of hb h)⟩
theorem s9n (n : Int) (s : D) (hb : bigP s) (hn : ¬ goodS n s) : symFun (ctx mn1 nlAnn) 3 9 [.int .i64 n, .dat 22 s] (.dat 26 .nil) := by
 rw [me9n]; exact ⟨hb, fun _ => rfl, fun k => k fun h => hn (good_of hb h)⟩
theorem s10n (n : Int) (s : D) (a b : Int) (hb : bigP s) (hn : ¬ goodS n s) : symFun (ctx mn1 nlAnn) 3 10 [.int .i64 n, .dat 22 s, .int .i64 a, .int .i64 b] (.dat 27 .nil) := by
 rw [me10n]; exact ⟨fun _ => ⟨hb, fun _ => rfl, fun k => (k fun h => hn (good_of hb h)).elim⟩, fun _ => rfl⟩
theorem s38n (n : Int) (s : D) (hb : bigP s) (hn : ¬ goodS n s) : symFun (ctx mn1 nlAnn) 4 38 [.int .i64 n, .dat 22 s] (.dat 27 .nil) := by
 rw [me38n]; exact ⟨hb, fun _ => rfl, fun k => k fun h => hn (good_of hb h)⟩
theorem s11n (n : Int) (s : D) (hb : bigP s) (hn : ¬ goodS n s) : symFun (ctx mn2 mtAnn) 3 11 [.int .i64 n, .dat 22 s] (.int .i64 0) := by
 rw [me11n]
 refine ⟨⟨hb, hn⟩, ⟨0, Nat.zero_le _, ⟨rfl, rfl, trivial⟩, trivial⟩, fun x hx => ⟨limS (by omega), fun hlt => absurd hlt (by show ¬ (x : Int) < 0; omega), fun _ => ?_⟩⟩
 rw [Nat.le_zero.1 hx]; rfl
theorem s12n (n : Int) (s : D) (hb : bigP s) (hn : ¬ goodS n s) : symFun (ctx mn2 mtAnn) 3 12 [.int .i64 n, .dat 22 s] (.int .i64 0) := by
 rw [me12n]; exact ⟨⟨hb, hn⟩, fun _ => rfl, fun k => (k rfl).elim⟩
theorem s13n (n : Int) (s : D) (hb : bigP s) (hn : ¬ goodS n s) : symFun (ctx mn2 mtAnn) 3 13 [.int .i64 n, .dat 22 s] (.int .i64 0) := by
 rw [me13n]
 refine ⟨⟨hb, hn⟩, ⟨0, Nat.zero_le _, ⟨rfl, rfl, trivial⟩, trivial⟩, fun x hx => ⟨limS (by omega), fun hlt => absurd hlt (by show ¬ (x : Int) < 0; omega), fun _ => ?_⟩⟩
 rw [Nat.le_zero.1 hx]; rfl
theorem s43r (t : D) (x : Int) (ht : t.len ≤ 16777216) : symFun (ctx cc0 reAnn) 3 43 [.dat 27 t, .int .i64 x] (.prop (hasT t x)) := by
 rw [me43]
 refine ⟨⟨0, ⟨Nat.zero_le _, fun k hk => absurd hk (Nat.not_lt_zero _)⟩, ⟨rfl, trivial⟩, trivial⟩, fun y ⟨hy, hn⟩ => ⟨limS (by omega), fun hlt => ⟨by omega, hlt, fun he => ⟨fun _ => ⟨⟨y, by omega, he⟩⟩, fun _ => rfl⟩, fun he => ⟨⟨by omega, by omega⟩, y + 1, ⟨by omega, fun k hk => ?_⟩, by omega, ⟨by omega, trivial⟩, trivial⟩⟩, fun hge => ⟨fun h => Bool.noConfusion h, fun ⟨⟨k, hk, he⟩⟩ => (hn k (by have := not_of hge; omega) he).elim⟩⟩⟩
 rcases Nat.lt_or_ge k y with h1 | h1
 ·exact hn k h1
 ·rw [show k = y by omega]; exact he
theorem s45r (t : D) (a b : Int) (ht : t.len ≤ 16777216) : symFun (ctx cc0 reAnn) 3 45 [.dat 27 t, .int .i64 a, .int .i64 b] (.prop (nxP t a b)) := by
 rw [me45]
 refine ⟨⟨0, ⟨Nat.zero_le _, fun k hk => absurd hk (Nat.not_lt_zero _)⟩, ⟨rfl, trivial⟩, trivial⟩, fun y ⟨hy, hn⟩ => ⟨limS (by omega), fun hlt => ?_, fun hge => ⟨fun h => Bool.noConfusion h, fun ⟨⟨k, hk, he⟩⟩ => (hn k (by have := not_of hge; omega) he).elim⟩⟩⟩
 have next : ¬ (nAt t y = a ∧ nAt t (if y + 1 = t.len then 0 else y + 1) = b) → ((-9223372036854775808 : Int) ≤ (y : Int) + 1 ∧ (y : Int) + 1 < 9223372036854775808) ∧ ∃ (z : Nat), (z ≤ t.len ∧ ∀ (i : Nat), i < z → nAt t i = a ∧ nAt t (if i + 1 = t.len then 0 else i + 1) = b → False) ∧ t.len - z < t.len - y ∧ ((y : Int) + 1 = (z : Int) ∧ True) ∧ True := fun hno =>
  ⟨⟨by omega, by omega⟩, y + 1, ⟨by omega, fun k hk => by
   rcases Nat.lt_or_ge k y with h1 | h1
   ·exact hn k h1
   ·rw [show k = y by omega]; exact hno⟩, by omega, ⟨by omega, trivial⟩, trivial⟩
 refine ⟨⟨by omega, by omega⟩, fun he => ⟨by omega, hlt, fun h1 => ⟨Int.le_refl _, by omega, fun h2 => ?_, fun h2 => next fun k => h2 ?_⟩, fun h1 => next fun k => h1 k.1⟩, fun he => ⟨by omega, hlt, fun h1 => ⟨by omega, by have := not_of he; omega, fun h2 => ?_, fun h2 => next fun k => h2 ?_⟩, fun h1 => next fun k => h1 k.1⟩⟩
 ·exact ⟨fun _ => ⟨⟨y, by omega, h1, by rw [if_pos (by omega)]; exact h2⟩⟩, fun _ => rfl⟩
 ·have := k.2; rwa [if_pos (by omega)] at this
 ·exact ⟨fun _ => ⟨⟨y, by omega, h1, by rw [if_neg (by have := not_of he; omega)]; exact h2⟩⟩, fun _ => rfl⟩
 ·have := k.2; rw [if_neg (by have := not_of he; omega)] at this; exact this
theorem s21r (M : D) (h : sqM M) : symFun (ctx cc0 reAnn) 3 21 [.dat 26 M] (.int .i64 (moS M M.len)) := by
 rw [me21]
 have hl := h.len
 refine ⟨⟨0, Nat.zero_le _, ⟨rfl, rfl, trivial⟩, trivial⟩, fun x hx => ⟨limS (by omega), fun hlt => ⟨⟨0, Nat.zero_le _, ⟨rfl, rfl, trivial⟩, trivial⟩, fun y hy => ?_⟩, fun hge => ?_⟩⟩
 ·have hx : x ≤ M.len := hx
  have hy : y ≤ x := hy
  have hr := h.row x (by omega)
  refine ⟨limS (by omega), fun hlt2 => ⟨by omega, hlt, by omega, by omega, ⟨by omega, by omega⟩, y + 1, (by omega : y + 1 ≤ x), by omega, ⟨by omega, rfl, trivial⟩, trivial⟩, fun hge => ⟨⟨by omega, by omega⟩, x + 1, (by omega : x + 1 ≤ M.len), by omega, ⟨by omega, ?_, trivial⟩, trivial⟩⟩
  rw [show y = x by have := not_of hge; omega]; rfl
 ·have hx : x ≤ M.len := hx
  rw [show x = M.len by have := not_of hge; omega]
theorem s22r (M : D) (h : sqM M) : symFun (ctx re4 reAnn) 3 22 [.dat 26 M] (.int .i64 (leS M (moS M M.len) M.len)) := by
 rw [me22]
 have hl := h.len
 refine ⟨h, ⟨0, Nat.zero_le _, ⟨rfl, rfl, trivial⟩, trivial⟩, fun x hx => ⟨limS (by omega), fun hlt => ⟨⟨0, Nat.zero_le _, ⟨rfl, rfl, trivial⟩, trivial⟩, fun y hy => ?_⟩, fun hge => ?_⟩⟩
 ·have hx : x ≤ M.len := hx
  have hy : y ≤ x := hy
  have hr := h.row x (by omega)
  refine ⟨limS (by omega), fun hlt2 => ⟨by omega, hlt, by omega, by omega, ⟨by omega, by omega⟩, y + 1, (by omega : y + 1 ≤ x), by omega, ⟨by omega, rfl, trivial⟩, trivial⟩, fun hge => ⟨⟨by omega, by omega⟩, x + 1, (by omega : x + 1 ≤ M.len), by omega, ⟨by omega, ?_, trivial⟩, trivial⟩⟩
  rw [show y = x by have := not_of hge; omega]; rfl
 ·have hx : x ≤ M.len := hx
  rw [show x = M.len by have := not_of hge; omega]
theorem stR_rng {r : D} {k : Int} {m : Nat} (h : ∀ y, y < m → 0 ≤ nAt r y ∧ nAt r y ≤ 1000000) : ∀ y, y ≤ m → k ≤ stR r k y ∧ stR r k y ≤ k + (y : Nat) * 1000000000000
 | 0, _ => by unfold stR; omega
 | y + 1, hy => by
  unfold stR
  have h1 := stR_rng h (k := k) y (by omega)
  have h2 := h y (by omega)
  have h3 : nAt r y * nAt r y ≤ 1000000 * 1000000 := Int.mul_le_mul h2.2 h2.2 h2.1 (by decide)
  have h4 : 0 ≤ nAt r y * nAt r y := Int.mul_nonneg h2.1 h2.1
  omega
theorem stS_rng {M : D} (h : sqM M) : ∀ x, x ≤ M.len → 0 ≤ stS M x ∧ stS M x ≤ (x : Nat) * 64000000000000
 | 0, _ => by unfold stS; omega
 | x + 1, hx => by
  unfold stS
  have h1 := stS_rng h x (by omega)
  have h2 := stR_rng (r := el M x) (k := stS M x) (m := M.len) (fun y hy => h.rng x y (by omega) hy) x (by omega)
  have := h.len
  omega
theorem s23r (M : D) (h : sqM M) : symFun (ctx cc0 reAnn) 3 23 [.dat 26 M] (.int .i64 (stS M M.len)) := by
 rw [me23]
 have hl := h.len
 refine ⟨⟨0, Nat.zero_le _, ⟨rfl, rfl, trivial⟩, trivial⟩, fun x hx => ⟨limS (by omega), fun hlt => ⟨⟨0, Nat.zero_le _, ⟨rfl, rfl, trivial⟩, trivial⟩, fun y hy => ?_⟩, fun hge => ?_⟩⟩
 ·have hx : x ≤ M.len := hx
  have hy : y ≤ x := hy
  have hr := h.row x (by omega)
  refine ⟨limS (by omega), fun hlt2 => ?_, fun hge => ⟨⟨by omega, by omega⟩, x + 1, (by omega : x + 1 ≤ M.len), by omega, ⟨by omega, ?_, trivial⟩, trivial⟩⟩
  ·have h2 := h.rng x y (by omega) (by omega)
   have h3 : nAt (el M x) y * nAt (el M x) y ≤ 1000000 * 1000000 := Int.mul_le_mul h2.2 h2.2 h2.1 (by decide)
   have h4 : 0 ≤ nAt (el M x) y * nAt (el M x) y := Int.mul_nonneg h2.1 h2.1
   have h5 := stS_rng h x (by omega)
   have h6 := stR_rng (r := el M x) (k := stS M x) (m := M.len) (fun y hy => h.rng x y (by omega) hy) y (by omega)
   exact ⟨by omega, hlt, by omega, by omega, by omega, hlt, by omega, by omega, ⟨by omega, by omega⟩, ⟨by omega, by omega⟩, ⟨by omega, by omega⟩, y + 1, (by omega : y + 1 ≤ x), by omega, ⟨by omega, rfl, trivial⟩, trivial⟩
  ·rw [show y = x by have := not_of hge; omega]; rfl
 ·have hx : x ≤ M.len := hx
  rw [show x = M.len by have := not_of hge; omega]
end Go.Ev
