/-
  Part of the engine that the claim is proved with: it states nothing of the document by itself.
-/
import Derived.Test.YtlihfnfigclbmaaDoorProg
import Derived.Test.YtlihfnfigclbmaaDoorCoreEv
import Derived.Test.YtlihfnfigclbmaaDoorCoreFd
import Derived.Test.YtlihfnfigclbmaaDoorCoreSeF
import Derived.Test.YtlihfnfigclbmaaDoorCoreKit

section
open Go.Proofs
namespace Go.Ev
def el (l : D) (i : Nat) : D := nthD l.asList i
def nAt (l : D) (i : Nat) : Int := (nthD l.asList i).asInt
structure digP (p : Int) (d : List D) : Prop where
 out : ∀ x, x ∈ d → ∃ n : Int, x = .int n ∧ 0 ≤ n ∧ n < p
noncomputable def ctx (con : FuncId → Option Con) (ann : FuncId → Nat → Option Ann) : Ctx := { P := Tryd.prog, con := con, ora := fun g => cond (Nat.beq g 9) (some (.bool true)) none, bits := 42535295865117307932921825928971026431, ann := ann }
instance (con : FuncId → Option Con) (ann : FuncId → Nat → Option Ann) : Nonempty (NoF (ctx con ann)) := ⟨⟨fun _ _ h => by cases h⟩⟩
noncomputable def ctxj (con : FuncId → Option Con) (ann : FuncId → Nat → Option Ann) (join : FuncId → Nat → Option Ann) : Ctx := { ctx con ann with join := join }
instance (con : FuncId → Option Con) (ann join : FuncId → Nat → Option Ann) : Nonempty (NoF (ctxj con ann join)) := ⟨⟨fun _ _ h => by cases h⟩⟩
noncomputable def cc0 : FuncId → Option Con := fun _ => none
end Go.Ev

end

section
open Go.Proofs
namespace Go.Ev
def sumZ (l : D) : Nat → Int
 | 0 => 0
 | n + 1 => sumZ l n + nAt l n
structure fitP (n : Int) (l : D) : Prop where
 out : (∀ i, i < l.len → 1 ≤ nAt l i) ∧ sumZ l l.len = n
structure okS (n : Int) (l : D) : Prop where
 n1 : 1 ≤ n
 n2 : n ≤ 64
 fit : fitP n l
def triZ (k : Int) : Int := (k * (k - 1)).tdiv 2
def triS (l : D) : Nat → Int
 | 0 => 0
 | n + 1 => triS l n + triZ (nAt l n)
open Classical in
noncomputable def shM (n : Int) (l : D) : Int := if okS n l then triS l l.len else 0
open Classical in
noncomputable def shA (n : Int) (l : D) : Int := if okS n l then triZ n else 0
open Classical in
noncomputable def lmZ (n : Int) (l : D) (e : Int) : Int := if ¬ okS n l ∨ e < 1 ∨ triS l l.len = 0 then 0 else (min e 64 * triS l l.len + triZ n - 1).tdiv (triZ n)
open Classical in
noncomputable def meZ (n : Int) (l : D) (o : Int) : Int := if ¬ okS n l ∨ o < 0 then 0 else if triS l l.len = 0 then 64 else min ((min o 64 * triZ n).tdiv (triS l l.len)) 64
structure eqN (a b : D) : Prop where
 out : a.len = b.len ∧ ∀ i, i < a.len → nAt a i = nAt b i
structure sizP (l : D) : Prop where
 out : l.len ≤ 100 ∧ ∀ i, i < l.len → 1 ≤ nAt l i ∧ nAt l i ≤ 64
noncomputable def con14 : Con := fun | [.dat 24 l] => some (l.len ≤ 16777216, .dat 24 l) | _ => none
noncomputable def con19 : Con := fun | [.dat 24 a, .dat 24 b] => some (a.len ≤ 16777216, .prop (eqN a b)) | _ => none
noncomputable def con42 : Con := fun | [.int .i64 n, .dat 24 l] => some ((1 ≤ n ∧ n ≤ 64) ∧ l.len ≤ 16777216, .prop (fitP n l)) | _ => none
noncomputable def con38 : Con := fun | [.int .i64 n, .dat 24 l] => some (l.len ≤ 16777216, .tup [.int .i64 (shM n l), .int .i64 (shA n l), .prop (okS n l)]) | _ => none
noncomputable def con39 : Con := fun | [.int .i64 n, .dat 24 l] => some (l.len ≤ 16777216, .prop (okS n l)) | _ => none
noncomputable def con40 : Con := fun | [.dat 24 l] => some (sizP l, .int .i64 (triS l l.len)) | _ => none
noncomputable def con15 : Con := fun | [.int .i64 n, .dat 24 l, .int .i64 e] => some (l.len ≤ 16777216, .int .i64 (lmZ n l e)) | _ => none
noncomputable def con17 : Con := fun | [.int .i64 n, .dat 24 l, .int .i64 e] => some (l.len ≤ 16777216, .int .i64 (meZ n l e)) | _ => none
noncomputable def ebAnn : FuncId → Nat → Option Ann
 | 19, 4 => some { τ := Nat, slots := fun _ _ x => [(13, .int .i64 x)], blks := fun _ _ _ => [], inv := fun S _ x => x ≤ (slD S 0).len ∧ ∀ i, i < x → nAt (slD S 0) i = nAt (slD S 1) i, meas := fun S _ x => (slD S 0).len - x }
 | 42, 3 => some { τ := Nat, slots := fun S _ x => [(11, .int .i64 x), (5, .int .i64 (slI S 0 - sumZ (slD S 1) x))], blks := fun _ _ _ => [], inv := fun S _ x => x ≤ (slD S 1).len ∧ (∀ i, i < x → 1 ≤ nAt (slD S 1) i) ∧ 0 ≤ sumZ (slD S 1) x ∧ sumZ (slD S 1) x ≤ slI S 0, meas := fun S _ x => (slD S 1).len - x }
 | 38, 4 => some { τ := Nat, slots := fun S _ x => [(20, .int .i64 x), (4, .int .i64 (triS (slD S 1) x))], blks := fun _ _ _ => [], inv := fun S _ x => x ≤ (slD S 1).len, meas := fun S _ x => (slD S 1).len - x }
 | 39, 3 => some { τ := Nat, slots := fun S _ x => [(6, .int .i64 x), (5, .int .i64 (sumZ (slD S 1) x))], blks := fun _ _ _ => [], inv := fun S _ x => x ≤ (slD S 1).len ∧ (∀ i, i < x → 1 ≤ nAt (slD S 1) i) ∧ 0 ≤ sumZ (slD S 1) x ∧ sumZ (slD S 1) x ≤ 128, meas := fun S _ x => (slD S 1).len - x }
 | 40, 3 => some { τ := Nat, slots := fun S _ x => [(4, .int .i64 x), (3, .int .i64 (triS (slD S 0) x))], blks := fun _ _ _ => [], inv := fun S _ x => x ≤ (slD S 0).len, meas := fun S _ x => (slD S 0).len - x }
 | 40, 6 => some { τ := Nat, slots := fun S _ x => [(5, .int .i64 x), (3, .int .i64 (slI S 3 + triZ x))], blks := fun _ _ _ => [], inv := fun S _ x => 1 ≤ x ∧ x ≤ (nAt (slD S 0) (slI S 4).toNat).toNat, meas := fun S _ x => (nAt (slD S 0) (slI S 4).toNat).toNat - x }
 | 16, 5 => some { τ := Nat, slots := fun _ _ x => [(8, .int .i64 x)], blks := fun _ _ _ => [], inv := fun S _ x => x = 0 ∨ ((x : Int) - 1) * triZ (slI S 0) < slI S 7, meas := fun S _ x => (slI S 7).toNat + 1 - x }
 | 18, 4 => some { τ := Nat, slots := fun _ _ x => [(7, .int .i64 x)], blks := fun _ _ _ => [], inv := fun S _ x => x ≤ 64 ∧ (x = 0 ∨ (x : Int) * triS (slD S 1) (slD S 1).len ≤ min (slI S 2) 64 * triZ (slI S 0)), meas := fun _ _ x => 64 - x }
 | _, _ => none
noncomputable def ce0 : FuncId → Option Con
 | 42 => some con42
 | _ => none
noncomputable def ce1 : FuncId → Option Con
 | 42 => some con42
 | 38 => some con38
 | 39 => some con39
 | 40 => some con40
 | _ => none
noncomputable def ce2 : FuncId → Option Con
 | 14 => some con14
 | 19 => some con19
 | 15 => some con15
 | 16 => some con15
 | 17 => some con17
 | 18 => some con17
 | _ => none
end Go.Ev

end

section
open Go.Proofs
namespace Go.Ev
theorem digP.at {p : Int} {l : List D} (h : digP p l) {i : Nat} (hi : i < l.length) : 0 ≤ (nthD l i).asInt ∧ (nthD l i).asInt < p := by
 unfold nthD
 rw [List.getElem?_eq_getElem hi]
 obtain ⟨n, e, h1, h2⟩ := h.out _ (List.getElem_mem hi)
 rw [Option.getD_some, e]; exact ⟨h1, h2⟩
theorem not_of {p : Prop} (h : p → False) : ¬ p := h
theorem lim_of {n : Nat} (h : n ≤ 100000) : n < LIM := by unfold LIM; omega
end Go.Ev

end

section
open Go.Proofs
namespace Go.Ev
set_option maxRecDepth 100000
set_option maxHeartbeats 4000000
theorem vc14 : ∀ (l : D), symFun (ctx cc0 ebAnn) (3 : Nat) (14 : FuncId) [V.dat (24 : TypeId) l] (V.dat (24 : TypeId) l) = ((l.isNil → D.nil = l) ∧ ((l.isNil → False) → (l.len = (0 : Nat) → (0 : Nat)
 + (0 : Nat) ≤ ([] : List D).length ∧ D.list (List.take (0 : Nat) ([] : List D)) = l) ∧ ((0 : Nat) < l.len → (0 : Nat) + (0 : Nat) ≤ ([] : List D).length ∧ (0 : Nat) + l.len ≤ (16777216 : Nat) ∧ ((0 :
 Nat) + l.len ≤ (0 : Nat) → (0 : Nat) + (0 : Nat) + l.len ≤ ([] : List D).length ∧ (0 : Nat) + l.len ≤ (List.take ((0 : Nat) + (0 : Nat)) ([] : List D) ++ l.asList ++ List.drop ((0 : Nat) + (0 : Nat) +
 l.len) []).length ∧ D.list (List.take l.len (List.take ((0 : Nat) + (0 : Nat)) ([] : List D) ++ l.asList ++ List.drop ((0 : Nat) + (0 : Nat) + l.len) [])) = l) ∧ ((0 : Nat) < (0 : Nat) + l.len → (0 :
 Nat) + l.len ≤ (List.take (0 : Nat) ([] : List D) ++ l.asList).length ∧ D.list (List.take l.len (List.take (0 : Nat) ([] : List D) ++ l.asList)) = l)))) := by intros; kernel_rfl
theorem vc19 : ∀ (a b : D), symFun (ctx cc0 ebAnn) (3 : Nat) (19 : FuncId) [V.dat (24 : TypeId) a, V.dat (24 : TypeId) b] (V.prop (eqN a b)) = ((((↑a.len : Int) = (↑b.len : Int) → False) → (false =
 true ↔ eqN a b)) ∧ ((((↑a.len : Int) = (↑b.len : Int) → False) → False) → (∃ (x : Nat), (x ≤ a.len ∧ ∀ (i : Nat), i < x → nAt a i = nAt b i) ∧ ((0 : Int) = (↑x : Int) ∧ True) ∧ True) ∧ ∀ (x : Nat), (x
 ≤ a.len ∧ ∀ (i : Nat), i < x → nAt a i = nAt b i) → a.len - x < LIM ∧ ((↑x : Int) < (↑a.len : Int) → (0 : Int) ≤ (↑x : Int) ∧ (↑x : Int) < (↑a.len : Int) ∧ (0 : Int) ≤ (↑x : Int) ∧ (↑x : Int) <
 (↑b.len : Int) ∧ ((nAt a x = nAt b x → False) → (false = true ↔ eqN a b)) ∧ (((nAt a x = nAt b x → False) → False) → ((-9223372036854775808 : Int) ≤ (↑x : Int) + (1 : Int) ∧ (↑x : Int) + (1 : Int) <
 (9223372036854775808 : Int)) ∧ ∃ (y : Nat), (y ≤ a.len ∧ ∀ (i : Nat), i < y → nAt a i = nAt b i) ∧ a.len - y < a.len - x ∧ ((↑x : Int) + (1 : Int) = (↑y : Int) ∧ True) ∧ True)) ∧ (((↑x : Int) <
 (↑a.len : Int) → False) → (true = true ↔ eqN a b)))) := by intros; kernel_rfl
theorem vc42 : ∀ (n : Int) (l : D), symFun (ctx cc0 ebAnn) (3 : Nat) (42 : FuncId) [V.int IntKind.i64 n, V.dat (24 : TypeId) l] (V.prop (fitP n l)) = ((∃ (x : Nat), (x ≤ l.len ∧ (∀ (i : Nat), i < x →
 (1 : Int) ≤ nAt l i) ∧ (0 : Int) ≤ sumZ l x ∧ sumZ l x ≤ n) ∧ ((0 : Int) = (↑x : Int) ∧ n = n - sumZ l x ∧ True) ∧ True) ∧ ∀ (x : Nat), x ≤ l.len ∧ (∀ (i : Nat), i < x → (1 : Int) ≤ nAt l i) ∧ (0 :
 Int) ≤ sumZ l x ∧ sumZ l x ≤ n → l.len - x < LIM ∧ ((↑x : Int) < (↑l.len : Int) → (0 : Int) ≤ (↑x : Int) ∧ (↑x : Int) < (↑l.len : Int) ∧ ((nAt l x < (1 : Int) → False) → (n - sumZ l x < nAt l x →
 (false = true ↔ fitP n l)) ∧ ((n - sumZ l x < nAt l x → False) → ((-9223372036854775808 : Int) ≤ n - sumZ l x - nAt l x ∧ n - sumZ l x - nAt l x < (9223372036854775808 : Int)) ∧ ((-9223372036854775808
 : Int) ≤ (↑x : Int) + (1 : Int) ∧ (↑x : Int) + (1 : Int) < (9223372036854775808 : Int)) ∧ ∃ (y : Nat), (y ≤ l.len ∧ (∀ (i : Nat), i < y → (1 : Int) ≤ nAt l i) ∧ (0 : Int) ≤ sumZ l y ∧ sumZ l y ≤ n) ∧
 l.len - y < l.len - x ∧ ((↑x : Int) + (1 : Int) = (↑y : Int) ∧ n - sumZ l x - nAt l x = n - sumZ l y ∧ True) ∧ True)) ∧ (nAt l x < (1 : Int) → (false = true ↔ fitP n l))) ∧ (((↑x : Int) < (↑l.len :
 Int) → False) → (n - sumZ l x = (0 : Int) ↔ fitP n l))) := by intros; kernel_rfl
theorem vc38 : ∀ (n : Int) (l : D), symFun (ctx ce0 ebAnn) (4 : Nat) (38 : FuncId) [V.int IntKind.i64 n, V.dat (24 : TypeId) l] (V.tup [V.int IntKind.i64 (shM n l), V.int IntKind.i64 (shA n l), V.prop
 (okS n l)]) = (((1 : Int) ≤ n → (((n ≤ (64 : Int) → False) → False) → (((1 : Int) ≤ n ∧ n ≤ (64 : Int)) ∧ l.len ≤ (16777216 : Nat)) ∧ ((fitP n l → False) → (0 : Int) = shM n l ∧ (0 : Int) = shA n l ∧
 (false = true ↔ okS n l) ∧ True) ∧ (((fitP n l → False) → False) → (∃ (x : Nat), x.le l.len ∧ ((0 : Int) = (↑x : Int) ∧ (0 : Int) = triS l x ∧ True) ∧ True) ∧ ∀ (x : Nat), x.le l.len → l.len - x < LIM
 ∧ ((↑x : Int) < (↑l.len : Int) → (0 : Int) ≤ (↑x : Int) ∧ (↑x : Int) < (↑l.len : Int) ∧ ((-9223372036854775808 : Int) ≤ nAt l x - (1 : Int) ∧ nAt l x - (1 : Int) < (9223372036854775808 : Int)) ∧
 ((-9223372036854775808 : Int) ≤ nAt l x * (nAt l x - (1 : Int)) ∧ nAt l x * (nAt l x - (1 : Int)) < (9223372036854775808 : Int)) ∧ ((2 : Int) = (0 : Int) → False) ∧ ((-9223372036854775808 : Int) ≤
 triZ (nAt l x) ∧ triZ (nAt l x) < (9223372036854775808 : Int)) ∧ ((-9223372036854775808 : Int) ≤ triS l x + triZ (nAt l x) ∧ triS l x + triZ (nAt l x) < (9223372036854775808 : Int)) ∧
 ((-9223372036854775808 : Int) ≤ (↑x : Int) + (1 : Int) ∧ (↑x : Int) + (1 : Int) < (9223372036854775808 : Int)) ∧ ∃ (y : Nat), y.le l.len ∧ l.len - y < l.len - x ∧ ((↑x : Int) + (1 : Int) = (↑y : Int)
 ∧ triS l x + triZ (nAt l x) = triS l y ∧ True) ∧ True) ∧ (((↑x : Int) < (↑l.len : Int) → False) → ((-9223372036854775808 : Int) ≤ n - (1 : Int) ∧ n - (1 : Int) < (9223372036854775808 : Int)) ∧
 ((-9223372036854775808 : Int) ≤ n * (n - (1 : Int)) ∧ n * (n - (1 : Int)) < (9223372036854775808 : Int)) ∧ ((2 : Int) = (0 : Int) → False) ∧ ((-9223372036854775808 : Int) ≤ triZ n ∧ triZ n <
 (9223372036854775808 : Int)) ∧ triS l x = shM n l ∧ triZ n = shA n l ∧ (true = true ↔ okS n l) ∧ True))) ∧ ((n ≤ (64 : Int) → False) → (0 : Int) = shM n l ∧ (0 : Int) = shA n l ∧ (false = true ↔ okS n
 l) ∧ True)) ∧ (((1 : Int) ≤ n → False) → (0 : Int) = shM n l ∧ (0 : Int) = shA n l ∧ (false = true ↔ okS n l) ∧ True)) := by intros; kernel_rfl
theorem vc39 : ∀ (n : Int) (l : D), symFun (ctx cc0 ebAnn) (3 : Nat) (39 : FuncId) [V.int IntKind.i64 n, V.dat (24 : TypeId) l] (V.prop (okS n l)) = ((∃ (x : Nat), (x ≤ l.len ∧ (∀ (i : Nat), i < x →
 (1 : Int) ≤ nAt l i) ∧ (0 : Int) ≤ sumZ l x ∧ sumZ l x ≤ (128 : Int)) ∧ ((0 : Int) = (↑x : Int) ∧ (0 : Int) = sumZ l x ∧ True) ∧ True) ∧ ∀ (x : Nat), x ≤ l.len ∧ (∀ (i : Nat), i < x → (1 : Int) ≤ nAt
 l i) ∧ (0 : Int) ≤ sumZ l x ∧ sumZ l x ≤ (128 : Int) → l.len - x < LIM ∧ ((↑x : Int) < (↑l.len : Int) → (0 : Int) ≤ (↑x : Int) ∧ (↑x : Int) < (↑l.len : Int) ∧ ((nAt l x < (1 : Int) → False) → (0 :
 Int) ≤ (↑x : Int) ∧ (↑x : Int) < (↑l.len : Int) ∧ (((64 : Int) < nAt l x → False) → ((64 : Int) < sumZ l x → (false = true ↔ okS n l)) ∧ (((64 : Int) < sumZ l x → False) → (0 : Int) ≤ (↑x : Int) ∧ (↑x
 : Int) < (↑l.len : Int) ∧ ((-9223372036854775808 : Int) ≤ sumZ l x + nAt l x ∧ sumZ l x + nAt l x < (9223372036854775808 : Int)) ∧ ((-9223372036854775808 : Int) ≤ (↑x : Int) + (1 : Int) ∧ (↑x : Int) +
 (1 : Int) < (9223372036854775808 : Int)) ∧ ∃ (y : Nat), (y ≤ l.len ∧ (∀ (i : Nat), i < y → (1 : Int) ≤ nAt l i) ∧ (0 : Int) ≤ sumZ l y ∧ sumZ l y ≤ (128 : Int)) ∧ l.len - y < l.len - x ∧ ((↑x : Int) +
 (1 : Int) = (↑y : Int) ∧ sumZ l x + nAt l x = sumZ l y ∧ True) ∧ True)) ∧ ((64 : Int) < nAt l x → (false = true ↔ okS n l))) ∧ (nAt l x < (1 : Int) → (false = true ↔ okS n l))) ∧ (((↑x : Int) <
 (↑l.len : Int) → False) → ((1 : Int) ≤ n → (n ≤ (64 : Int) → (sumZ l x = n ↔ okS n l)) ∧ ((n ≤ (64 : Int) → False) → (false = true ↔ okS n l))) ∧ (((1 : Int) ≤ n → False) → (false = true ↔ okS n l)))) := by intros; kernel_rfl
theorem vc40 : ∀ (l : D), symFun (ctx cc0 ebAnn) (3 : Nat) (40 : FuncId) [V.dat (24 : TypeId) l] (V.int IntKind.i64 (triS l l.len)) = ((∃ (x : Nat), x.le l.len ∧ ((0 : Int) = (↑x : Int) ∧ (0 : Int) =
 triS l x ∧ True) ∧ True) ∧ ∀ (x : Nat), x.le l.len → l.len - x < LIM ∧ ((↑x : Int) < (↑l.len : Int) → (∃ (x_1 : Nat), ((1 : Nat) ≤ x_1 ∧ x_1 ≤ (nAt l x).toNat) ∧ ((1 : Int) = (↑x_1 : Int) ∧ triS l x =
 triS l x + triZ (↑x_1 : Int) ∧ True) ∧ True) ∧ ∀ (x_1 : Nat), (1 : Nat) ≤ x_1 ∧ x_1 ≤ (nAt l x).toNat → (nAt l x).toNat - x_1 < LIM ∧ (0 : Int) ≤ (↑x : Int) ∧ (↑x : Int) < (↑l.len : Int) ∧ ((↑x_1 :
 Int) < nAt l x → ((-9223372036854775808 : Int) ≤ triS l x + triZ (↑x_1 : Int) + (↑x_1 : Int) ∧ triS l x + triZ (↑x_1 : Int) + (↑x_1 : Int) < (9223372036854775808 : Int)) ∧ ((-9223372036854775808 :
 Int) ≤ (↑x_1 : Int) + (1 : Int) ∧ (↑x_1 : Int) + (1 : Int) < (9223372036854775808 : Int)) ∧ ∃ (y : Nat), ((1 : Nat) ≤ y ∧ y ≤ (nAt l x).toNat) ∧ (nAt l x).toNat - y < (nAt l x).toNat - x_1 ∧ ((↑x_1 :
 Int) + (1 : Int) = (↑y : Int) ∧ triS l x + triZ (↑x_1 : Int) + (↑x_1 : Int) = triS l x + triZ (↑y : Int) ∧ True) ∧ True) ∧ (((↑x_1 : Int) < nAt l x → False) → ((-9223372036854775808 : Int) ≤ (↑x :
 Int) + (1 : Int) ∧ (↑x : Int) + (1 : Int) < (9223372036854775808 : Int)) ∧ ∃ (y : Nat), y.le l.len ∧ l.len - y < l.len - x ∧ ((↑x : Int) + (1 : Int) = (↑y : Int) ∧ triS l x + triZ (↑x_1 : Int) = triS
 l y ∧ True) ∧ True)) ∧ (((↑x : Int) < (↑l.len : Int) → False) → triS l x = triS l l.len)) := by intros; kernel_rfl
theorem vc15 : ∀ (n : Int) (l : D) (e : Int), symFun (ctx ce1 ebAnn) (3 : Nat) (15 : FuncId) [V.int IntKind.i64 n, V.dat (24 : TypeId) l, V.int IntKind.i64 e] (V.int IntKind.i64 (lmZ n l e)) = (l.len
 ≤ (16777216 : Nat) ∧ (((okS n l → False) → False) → ((e < (1 : Int) → False) → (shM n l = (0 : Int) → (0 : Int) = lmZ n l e) ∧ ((shM n l = (0 : Int) → False) → ((-9223372036854775808 : Int) ≤ min e
 (64 : Int) * shM n l ∧ min e (64 : Int) * shM n l < (9223372036854775808 : Int)) ∧ ((-9223372036854775808 : Int) ≤ min e (64 : Int) * shM n l + shA n l ∧ min e (64 : Int) * shM n l + shA n l <
 (9223372036854775808 : Int)) ∧ ((-9223372036854775808 : Int) ≤ min e (64 : Int) * shM n l + shA n l - (1 : Int) ∧ min e (64 : Int) * shM n l + shA n l - (1 : Int) < (9223372036854775808 : Int)) ∧ (shA
 n l = (0 : Int) → False) ∧ ((-9223372036854775808 : Int) ≤ (min e (64 : Int) * shM n l + shA n l - (1 : Int)).tdiv (shA n l) ∧ (min e (64 : Int) * shM n l + shA n l - (1 : Int)).tdiv (shA n l) <
 (9223372036854775808 : Int)) ∧ (min e (64 : Int) * shM n l + shA n l - (1 : Int)).tdiv (shA n l) = lmZ n l e)) ∧ (e < (1 : Int) → (0 : Int) = lmZ n l e)) ∧ ((okS n l → False) → (0 : Int) = lmZ n l e)) := by intros; kernel_rfl
theorem vc16 : ∀ (n : Int) (l : D) (e : Int), symFun (ctx ce1 ebAnn) (3 : Nat) (16 : FuncId) [V.int IntKind.i64 n, V.dat (24 : TypeId) l, V.int IntKind.i64 e] (V.int IntKind.i64 (lmZ n l e)) = (l.len
 ≤ (16777216 : Nat) ∧ (((okS n l → False) → False) → (e < (1 : Int) → (0 : Int) = lmZ n l e) ∧ ((e < (1 : Int) → False) → sizP l ∧ ((-9223372036854775808 : Int) ≤ min e (64 : Int) * triS l l.len ∧ min
 e (64 : Int) * triS l l.len < (9223372036854775808 : Int)) ∧ (∃ (x : Nat), (x = (0 : Nat) ∨ ((↑x : Int) - (1 : Int)) * triZ n < min e (64 : Int) * triS l l.len) ∧ ((0 : Int) = (↑x : Int) ∧ True) ∧
 True) ∧ ∀ (x : Nat), x = (0 : Nat) ∨ ((↑x : Int) - (1 : Int)) * triZ n < min e (64 : Int) * triS l l.len → (min e (64 : Int) * triS l l.len).toNat + (1 : Nat) - x < LIM ∧ (0 : Nat) + (1 : Nat) ≤
 [D.int n].length ∧ sizP (D.list (List.take (1 : Nat) [D.int n])) ∧ ((-9223372036854775808 : Int) ≤ (↑x : Int) * triS (D.list (List.take (1 : Nat) [D.int n])) (List.take (1 : Nat) [D.int n]).length ∧
 (↑x : Int) * triS (D.list (List.take (1 : Nat) [D.int n])) (List.take (1 : Nat) [D.int n]).length < (9223372036854775808 : Int)) ∧ ((↑x : Int) * triS (D.list (List.take (1 : Nat) [D.int n]))
 (List.take (1 : Nat) [D.int n]).length < min e (64 : Int) * triS l l.len → ((-9223372036854775808 : Int) ≤ (↑x : Int) + (1 : Int) ∧ (↑x : Int) + (1 : Int) < (9223372036854775808 : Int)) ∧ ∃ (y : Nat),
 (y = (0 : Nat) ∨ ((↑y : Int) - (1 : Int)) * triZ n < min e (64 : Int) * triS l l.len) ∧ (min e (64 : Int) * triS l l.len).toNat + (1 : Nat) - y < (min e (64 : Int) * triS l l.len).toNat + (1 : Nat) -
 x ∧ ((↑x : Int) + (1 : Int) = (↑y : Int) ∧ True) ∧ True) ∧ (((↑x : Int) * triS (D.list (List.take (1 : Nat) [D.int n])) (List.take (1 : Nat) [D.int n]).length < min e (64 : Int) * triS l l.len →
 False) → (↑x : Int) = lmZ n l e))) ∧ ((okS n l → False) → (0 : Int) = lmZ n l e)) := by intros; kernel_rfl
theorem vc17 : ∀ (n : Int) (l : D) (e : Int), symFun (ctx ce1 ebAnn) (3 : Nat) (17 : FuncId) [V.int IntKind.i64 n, V.dat (24 : TypeId) l, V.int IntKind.i64 e] (V.int IntKind.i64 (meZ n l e)) = (l.len
 ≤ (16777216 : Nat) ∧ (((okS n l → False) → False) → (e < (0 : Int) → (0 : Int) = meZ n l e) ∧ ((e < (0 : Int) → False) → (shM n l = (0 : Int) → (64 : Int) = meZ n l e) ∧ ((shM n l = (0 : Int) → False)
 → ((-9223372036854775808 : Int) ≤ min e (64 : Int) * shA n l ∧ min e (64 : Int) * shA n l < (9223372036854775808 : Int)) ∧ (shM n l = (0 : Int) → False) ∧ ((-9223372036854775808 : Int) ≤ (min e (64 :
 Int) * shA n l).tdiv (shM n l) ∧ (min e (64 : Int) * shA n l).tdiv (shM n l) < (9223372036854775808 : Int)) ∧ min ((min e (64 : Int) * shA n l).tdiv (shM n l)) (64 : Int) = meZ n l e))) ∧ ((okS n l →
 False) → (0 : Int) = meZ n l e)) := by intros; kernel_rfl
theorem vc18 : ∀ (n : Int) (l : D) (e : Int), symFun (ctx ce1 ebAnn) (3 : Nat) (18 : FuncId) [V.int IntKind.i64 n, V.dat (24 : TypeId) l, V.int IntKind.i64 e] (V.int IntKind.i64 (meZ n l e)) = (l.len
 ≤ (16777216 : Nat) ∧ (((okS n l → False) → False) → (e < (0 : Int) → (0 : Int) = meZ n l e) ∧ ((e < (0 : Int) → False) → (∃ (x : Nat), (x ≤ (64 : Nat) ∧ (x = (0 : Nat) ∨ (↑x : Int) * triS l l.len ≤
 min e (64 : Int) * triZ n)) ∧ ((0 : Int) = (↑x : Int) ∧ True) ∧ True) ∧ ∀ (x : Nat), x ≤ (64 : Nat) ∧ (x = (0 : Nat) ∨ (↑x : Int) * triS l l.len ≤ min e (64 : Int) * triZ n) → (64 : Nat) - x < LIM ∧
 ((↑x : Int) < (64 : Int) → ((-9223372036854775808 : Int) ≤ (↑x : Int) + (1 : Int) ∧ (↑x : Int) + (1 : Int) < (9223372036854775808 : Int)) ∧ sizP l ∧ ((-9223372036854775808 : Int) ≤ ((↑x : Int) + (1 :
 Int)) * triS l l.len ∧ ((↑x : Int) + (1 : Int)) * triS l l.len < (9223372036854775808 : Int)) ∧ (0 : Nat) + (1 : Nat) ≤ [D.int n].length ∧ sizP (D.list (List.take (1 : Nat) [D.int n])) ∧
 ((-9223372036854775808 : Int) ≤ min e (64 : Int) * triS (D.list (List.take (1 : Nat) [D.int n])) (List.take (1 : Nat) [D.int n]).length ∧ min e (64 : Int) * triS (D.list (List.take (1 : Nat) [D.int
 n])) (List.take (1 : Nat) [D.int n]).length < (9223372036854775808 : Int)) ∧ (((↑x : Int) + (1 : Int)) * triS l l.len ≤ min e (64 : Int) * triS (D.list (List.take (1 : Nat) [D.int n])) (List.take (1 :
 Nat) [D.int n]).length → ((-9223372036854775808 : Int) ≤ (↑x : Int) + (1 : Int) ∧ (↑x : Int) + (1 : Int) < (9223372036854775808 : Int)) ∧ ∃ (y : Nat), (y ≤ (64 : Nat) ∧ (y = (0 : Nat) ∨ (↑y : Int) *
 triS l l.len ≤ min e (64 : Int) * triZ n)) ∧ (64 : Nat) - y < (64 : Nat) - x ∧ ((↑x : Int) + (1 : Int) = (↑y : Int) ∧ True) ∧ True) ∧ ((((↑x : Int) + (1 : Int)) * triS l l.len ≤ min e (64 : Int) *
 triS (D.list (List.take (1 : Nat) [D.int n])) (List.take (1 : Nat) [D.int n]).length → False) → (↑x : Int) = meZ n l e)) ∧ (((↑x : Int) < (64 : Int) → False) → (↑x : Int) = meZ n l e))) ∧ ((okS n l →
 False) → (0 : Int) = meZ n l e)) := by intros; kernel_rfl
theorem vc5 : ∀ (n : Int) (l : D) (e o : Int), symFun (ctx ce2 ebAnn) (3 : Nat) (5 : FuncId) [V.int IntKind.i64 n, V.dat (24 : TypeId) l, V.int IntKind.i64 e, V.int IntKind.i64 o] (V.prop True) =
 (((70 : Int) < (↑l.len : Int) → (true = true ↔ True)) ∧ (((70 : Int) < (↑l.len : Int) → False) → l.len ≤ (16777216 : Nat) ∧ l.len ≤ (16777216 : Nat) ∧ l.len ≤ (16777216 : Nat) ∧ (lmZ n l e = lmZ n l e
 → l.len ≤ (16777216 : Nat) ∧ l.len ≤ (16777216 : Nat) ∧ (meZ n l o = meZ n l o → l.len ≤ (16777216 : Nat) ∧ (eqN l l → (true = true ↔ True)) ∧ ((eqN l l → False) → (false = true ↔ True))) ∧ ((meZ n l
 o = meZ n l o → False) → (false = true ↔ True))) ∧ ((lmZ n l e = lmZ n l e → False) → (false = true ↔ True)))) := by intros; kernel_rfl
theorem sum_mono {l : D} {m : Nat} (h : ∀ i, i < m → 1 ≤ nAt l i) : ∀ x, x ≤ m → (x : Int) ≤ sumZ l x
 | 0, _ => Int.le_refl _
 | x + 1, hx => by
  have := sum_mono h x (by omega)
  have := h x (by omega)
  show ((x + 1 : Nat) : Int) ≤ sumZ l x + nAt l x
  omega
theorem sum_rest {l : D} {m : Nat} (h : ∀ i, i < m → 1 ≤ nAt l i) (x : Nat) : ∀ k, x + k ≤ m → sumZ l x + k ≤ sumZ l (x + k)
 | 0, _ => Int.le_of_eq (by simp)
 | k + 1, hk => by
  have := sum_rest h x k (by omega)
  have := h (x + k) (by omega)
  show sumZ l x + ((k + 1 : Nat) : Int) ≤ sumZ l (x + k) + nAt l (x + k)
  omega
theorem fit_le {n : Int} {l : D} (h : fitP n l) {x : Nat} (hx : x < l.len) : sumZ l x + nAt l x ≤ n := by
 have h1 := sum_rest h.out.1 (x + 1) (l.len - (x + 1)) (by omega)
 rw [show x + 1 + (l.len - (x + 1)) = l.len by omega, h.out.2] at h1
 have h2 : sumZ l (x + 1) = sumZ l x + nAt l x := rfl
 omega
theorem fit_sum {n : Int} {l : D} (h : fitP n l) {x : Nat} (hx : x ≤ l.len) : (x : Int) ≤ sumZ l x ∧ sumZ l x ≤ n := by
 have h1 := sum_rest h.out.1 x (l.len - x) (by omega)
 rw [show x + (l.len - x) = l.len by omega, h.out.2] at h1
 exact ⟨sum_mono h.out.1 x hx, by omega⟩
theorem ok_siz {n : Int} {l : D} (h : okS n l) : l.len ≤ 64 ∧ ∀ i, i < l.len → 1 ≤ nAt l i ∧ nAt l i ≤ n := by
 have h1 := fit_sum h.fit (Nat.le_refl _)
 have h2 := h.n2
 refine ⟨by omega, fun i hi => ⟨h.fit.out.1 i hi, ?_⟩⟩
 have h3 := fit_le h.fit hi
 have h4 := fit_sum h.fit (Nat.le_of_lt hi)
 omega
theorem ok_sizP {n : Int} {l : D} (h : okS n l) : sizP l := ⟨by have := (ok_siz h).1; omega, fun i hi => ⟨((ok_siz h).2 i hi).1, by have := ((ok_siz h).2 i hi).2; have := h.n2; omega⟩⟩
theorem one_siz {n : Int} (h1 : 1 ≤ n) (h2 : n ≤ 64) : sizP (.list [.int n]) := ⟨(by show 1 ≤ 100; decide), fun i hi => by
 match i, hi with
 | 0, _ => exact ⟨h1, h2⟩⟩
theorem mul_rng {k : Int} (h1 : 1 ≤ k) (h2 : k ≤ 64) : 0 ≤ k * (k - 1) ∧ k * (k - 1) ≤ 4032 := ⟨Int.mul_nonneg (by omega) (by omega), Int.mul_le_mul h2 (by omega : k - 1 ≤ 63) (by omega) (by decide)⟩
theorem tri_rng {k : Int} (h1 : 1 ≤ k) (h2 : k ≤ 64) : 0 ≤ triZ k ∧ triZ k ≤ 2016 := by
 have := mul_rng h1 h2
 unfold triZ
 rw [Int.tdiv_eq_ediv_of_nonneg this.1]
 omega
theorem tri_succ {k : Int} (h1 : 1 ≤ k) : triZ (k + 1) = triZ k + k := by
 have e0 : 0 ≤ k * (k - 1) := Int.mul_nonneg (by omega) (by omega)
 have e1 : (k + 1) * (k + 1 - 1) = k * (k - 1) + 2 * k := by
  rw [show k + 1 - 1 = k by omega, Int.add_mul, Int.mul_sub, Int.one_mul, Int.mul_one]; omega
 unfold triZ
 rw [Int.tdiv_eq_ediv_of_nonneg e0, Int.tdiv_eq_ediv_of_nonneg (by omega), e1]
 omega
theorem tri_pos {k : Int} (h1 : 2 ≤ k) : 1 ≤ triZ k := by
 have e0 : 2 * 1 ≤ k * (k - 1) := Int.mul_le_mul h1 (by omega) (by decide) (by omega)
 unfold triZ
 rw [Int.tdiv_eq_ediv_of_nonneg (by omega)]
 omega
theorem triS_rng {l : D} {m : Nat} (h : ∀ i, i < m → 1 ≤ nAt l i ∧ nAt l i ≤ 64) : ∀ x, x ≤ m → 0 ≤ triS l x ∧ triS l x ≤ 2016 * x
 | 0, _ => ⟨Int.le_refl _, Int.le_refl _⟩
 | x + 1, hx => by
  have h1 := triS_rng h x (by omega)
  have h2 := tri_rng (h x (by omega)).1 (h x (by omega)).2
  show 0 ≤ triS l x + triZ (nAt l x) ∧ triS l x + triZ (nAt l x) ≤ _
  omega
theorem triS_zero {l : D} {m : Nat} (h : ∀ i, i < m → nAt l i = 1) : ∀ x, x ≤ m → triS l x = 0
 | 0, _ => rfl
 | x + 1, hx => by
  show triS l x + triZ (nAt l x) = 0
  rw [triS_zero h x (by omega), h x (by omega)]; rfl
theorem tri_one (n : Int) : triS (.list [.int n]) (List.length [D.int n]) = triZ n := by
 show 0 + triZ n = _; omega
theorem ok_tri {n : Int} {l : D} (h : okS n l) : (0 ≤ triS l l.len ∧ triS l l.len ≤ 129024) ∧ (0 ≤ triZ n ∧ triZ n ≤ 2016) ∧ (triS l l.len ≠ 0 → 1 ≤ triZ n) := by
 have hs := ok_siz h
 have hz := ok_sizP h
 have h1 := triS_rng hz.out.2 l.len (Nat.le_refl _)
 refine ⟨by omega, tri_rng h.n1 h.n2, fun hne => ?_⟩
 refine tri_pos ?_
 by_cases hn : n ≤ 1
 ·exact absurd (triS_zero (fun i hi => by have := hs.2 i hi; omega) l.len (Nat.le_refl _)) hne
 ·omega
theorem ceil_eq {A Q m : Int} (hA : 0 < A) (hQ : 0 ≤ Q) (h1 : A ≤ m * Q) (h2 : m = 0 ∨ (m - 1) * Q < A) : m = (A + Q - 1).tdiv Q := by
 have hQ' : 0 < Q := by
  rcases Int.lt_or_eq_of_le hQ with h | h
  ·exact h
  ·rw [← h, Int.mul_zero] at h1; omega
 have h3 : (m - 1) * Q < A := by
  rcases h2 with rfl | h
  ·rw [Int.zero_mul] at h1; omega
  ·exact h
 rw [Int.sub_mul, Int.one_mul] at h3
 rw [Int.tdiv_eq_ediv_of_nonneg (by omega)]
 apply Int.le_antisymm
 ·exact Int.le_ediv_of_mul_le hQ' (by omega)
 ·have : (A + Q - 1) / Q < m + 1 := Int.ediv_lt_of_lt_mul hQ' (by rw [Int.add_mul, Int.one_mul]; omega)
  omega
theorem s14 (l : D) (hl : l.len ≤ 16777216) (hf : l = .nil ∨ ∃ xs, l = .list xs) : symFun (ctx cc0 ebAnn) 3 14 [.dat 24 l] (.dat 24 l) := by
 rw [vc14]
 rcases hf with rfl | ⟨xs, rfl⟩
 ·exact ⟨fun _ => rfl, fun h => absurd trivial h⟩
 ·have e : (D.list xs).len = xs.length := rfl
  have ea : (D.list xs).asList = xs := rfl
  refine ⟨fun h => h.elim, fun _ => ⟨fun h0 => ⟨Nat.le_refl _, ?_⟩, fun h0 => ⟨Nat.le_refl _, by omega, fun h1 => absurd h1 (by omega), fun _ => ⟨?_, ?_⟩⟩⟩⟩
  ·rw [e] at h0
   rw [List.eq_nil_of_length_eq_zero h0]; rfl
  ·show 0 + xs.length ≤ ([] ++ xs).length
   rw [List.nil_append]; omega
  ·show D.list (List.take xs.length ([] ++ xs)) = D.list xs
   rw [List.nil_append, List.take_of_length_le (Nat.le_refl _)]
theorem s19 (a b : D) (ha : a.len ≤ 16777216) : symFun (ctx cc0 ebAnn) 3 19 [.dat 24 a, .dat 24 b] (.prop (eqN a b)) := by
 rw [vc19]
 refine ⟨fun h => iff_of_false (fun h => (by cases h)) fun h' => h (by have := h'.out.1; omega), fun h => ?_⟩
 have he := Classical.not_not.1 h
 refine ⟨⟨0, ⟨Nat.zero_le _, fun i hi => absurd hi (Nat.not_lt_zero _)⟩, ⟨rfl, trivial⟩, trivial⟩, fun x hx => ⟨?_, fun hlt => ⟨by omega, by omega, by omega, by omega, fun hn => iff_of_false (fun h => (by cases h)) fun h' => hn (h'.out.2 x (by omega)), fun hn => ⟨⟨by omega, by omega⟩, x + 1, ⟨by omega, fun i hi => ?_⟩, by omega, ⟨by omega, trivial⟩, trivial⟩⟩, fun hge => ?_⟩⟩
 ·unfold LIM; omega
 ·rcases Nat.lt_or_ge i x with h' | h'
  ·exact hx.2 i h'
  ·rw [show i = x by omega]; exact Classical.not_not.1 hn
 ·have hge := not_of hge
  exact iff_of_true rfl ⟨by omega, fun i hi => hx.2 i (by omega)⟩
theorem s42 (n : Int) (l : D) (h1 : 1 ≤ n) (h2 : n ≤ 64) (hl : l.len ≤ 16777216) : symFun (ctx cc0 ebAnn) 3 42 [.int .i64 n, .dat 24 l] (.prop (fitP n l)) := by
 rw [vc42]
 have no : ∀ {p : Prop}, ¬ p → (false = true ↔ p) := fun h => iff_of_false (fun h => (by cases h)) h
 refine And.intro ⟨0, ⟨Nat.zero_le _, fun i hi => absurd hi (Nat.not_lt_zero _), Int.le_refl _, by show (0 : Int) ≤ n; omega⟩, ⟨rfl, by show n = n - 0; omega, trivial⟩, trivial⟩ (fun x hx => ⟨by unfold LIM; omega, fun hlt => ⟨by omega, by omega, fun hs => ⟨fun hb => no fun hf => ?_, fun hb => ?_⟩, fun hs => no fun hf => ?_⟩, fun hge => ?_⟩)
 ·have := fit_le hf (x := x) (by omega); omega
 ·have hs := not_of hs; have hb := not_of hb
  have e : sumZ l (x + 1) = sumZ l x + nAt l x := rfl
  refine ⟨⟨by omega, by omega⟩, ⟨by omega, by omega⟩, x + 1, ⟨by omega, fun i hi => ?_, by omega, by omega⟩, by omega, ⟨by omega, by omega, trivial⟩, trivial⟩
  rcases Nat.lt_or_ge i x with h' | h'
  ·exact hx.2.1 i h'
  ·rw [show i = x by omega]; omega
 ·have := hf.out.1 x (by omega); omega
 ·have hge := not_of hge
  have e : x = l.len := by omega
  subst e
  exact ⟨fun h => ⟨hx.2.1, by omega⟩, fun h => by have := h.out.2; omega⟩
theorem s38 (n : Int) (l : D) (hl : l.len ≤ 16777216) : symFun (ctx ce0 ebAnn) 4 38 [.int .i64 n, .dat 24 l] (.tup [.int .i64 (shM n l), .int .i64 (shA n l), .prop (okS n l)]) := by
 rw [vc38]
 have no : ¬ okS n l → 0 = shM n l ∧ 0 = shA n l ∧ (false = true ↔ okS n l) ∧ True := fun h => ⟨by unfold shM; rw [if_neg h], by unfold shA; rw [if_neg h], iff_of_false (fun h => (by cases h)) h, trivial⟩
 refine ⟨fun h1 => ⟨fun h2 => ?_, fun h2 => no fun h => h2 h.n2⟩, fun h1 => no fun h => h1 h.n1⟩
 have h2 := Classical.not_not.1 h2
 refine ⟨⟨⟨h1, h2⟩, hl⟩, fun hf => no fun h => hf h.fit, fun hf => ?_⟩
 have ok : okS n l := ⟨h1, h2, Classical.not_not.1 hf⟩
 have hs := ok_siz ok
 have hz := ok_sizP ok
 have em : shM n l = triS l l.len := by unfold shM; rw [if_pos ok]
 have ea : shA n l = triZ n := by unfold shA; rw [if_pos ok]
 refine And.intro ⟨0, Nat.zero_le _, ⟨rfl, rfl, trivial⟩, trivial⟩ (fun x hx => ?_)
 have hx : x ≤ l.len := hx
 refine ⟨lim_of (by omega), fun hlt => ?_, fun hge => ?_⟩
 ·have h3 := hz.out.2 x (by omega)
  have h4 := mul_rng h3.1 h3.2
  have h5 := tri_rng h3.1 h3.2
  have h6 := triS_rng hz.out.2 x hx
  exact ⟨by omega, by omega, ⟨by omega, by omega⟩, ⟨by omega, by omega⟩, by omega, ⟨by omega, by omega⟩, ⟨by omega, by omega⟩, ⟨by omega, by omega⟩, x + 1, show x + 1 ≤ l.len by omega, by omega, ⟨by omega, rfl, trivial⟩, trivial⟩
 ·have hge := not_of hge
  have e : x = l.len := by omega
  have h4 := mul_rng h1 h2
  have h5 := tri_rng h1 h2
  exact ⟨⟨by omega, by omega⟩, ⟨by omega, by omega⟩, by omega, ⟨by omega, by omega⟩, by rw [em, e], ea.symm, iff_of_true rfl ok, trivial⟩
theorem s39 (n : Int) (l : D) (hl : l.len ≤ 16777216) : symFun (ctx cc0 ebAnn) 3 39 [.int .i64 n, .dat 24 l] (.prop (okS n l)) := by
 rw [vc39]
 have no : ∀ {p : Prop}, ¬ p → (false = true ↔ p) := fun h => iff_of_false (fun h => (by cases h)) h
 refine And.intro ⟨0, ⟨Nat.zero_le _, fun i hi => absurd hi (Nat.not_lt_zero _), Int.le_refl _, by show (0 : Int) ≤ 128; omega⟩, ⟨rfl, rfl, trivial⟩, trivial⟩ (fun x hx => ⟨by unfold LIM; omega, fun hlt => ⟨by omega, by omega, fun hs => ⟨by omega, by omega, fun hb => ⟨fun hc => no fun h => ?_, fun hc => ?_⟩, fun hb => no fun h => ?_⟩, fun hs => no fun h => ?_⟩, fun hge => ⟨fun h1 => ⟨fun h2 => ?_, fun h2 => no fun h => h2 h.n2⟩, fun h1 => no fun h => h1 h.n1⟩⟩)
 ·have := fit_sum h.fit (x := x) (by omega); have := h.n2; omega
 ·have hs := not_of hs; have hb := not_of hb; have hc := not_of hc
  have e : sumZ l (x + 1) = sumZ l x + nAt l x := rfl
  refine ⟨by omega, by omega, ⟨by omega, by omega⟩, ⟨by omega, by omega⟩, x + 1, ⟨by omega, fun i hi => ?_, by omega, by omega⟩, by omega, ⟨by omega, by omega, trivial⟩, trivial⟩
  rcases Nat.lt_or_ge i x with h' | h'
  ·exact hx.2.1 i h'
  ·rw [show i = x by omega]; omega
 ·have := (ok_siz h).2 x (by omega); have := h.n2; omega
 ·have := (ok_siz h).2 x (by omega); omega
 ·have hge := not_of hge
  have e : x = l.len := by omega
  subst e
  exact ⟨fun h => ⟨h1, h2, ⟨hx.2.1, h⟩⟩, fun h => h.fit.out.2⟩
theorem s40 (l : D) (h : sizP l) : symFun (ctx cc0 ebAnn) 3 40 [.dat 24 l] (.int .i64 (triS l l.len)) := by
 rw [vc40]
 have hl := h.out.1
 refine And.intro ⟨0, Nat.zero_le _, ⟨rfl, rfl, trivial⟩, trivial⟩ (fun x hx => ?_)
 have hx : x ≤ l.len := hx
 have h6 := triS_rng h.out.2 x hx
 refine ⟨lim_of (by omega), fun hlt => ?_, fun hge => ?_⟩
 ·have h3 := h.out.2 x (by omega)
  refine And.intro ⟨1, ⟨Nat.le_refl _, by omega⟩, ⟨rfl, by show triS l x = triS l x + 0; omega, trivial⟩, trivial⟩ (fun k hk => ⟨lim_of (by omega), by omega, by omega, fun hlt2 => ?_, fun hge => ?_⟩)
  ·have h5 := tri_rng (k := (k : Int)) (by omega) (by omega)
   have e := tri_succ (k := (k : Int)) (by omega)
   exact ⟨⟨by omega, by omega⟩, ⟨by omega, by omega⟩, k + 1, ⟨by omega, by omega⟩, by omega, ⟨by omega, by rw [show ((k + 1 : Nat) : Int) = (k : Int) + 1 by omega]; omega, trivial⟩, trivial⟩
  ·have hge := not_of hge
   have e : (k : Int) = nAt l x := by omega
   exact ⟨⟨by omega, by omega⟩, x + 1, show x + 1 ≤ l.len by omega, by omega, ⟨by omega, by rw [e]; rfl, trivial⟩, trivial⟩
 ·have hge := not_of hge
  rw [show x = l.len by omega]
section
variable {n e : Int} {l : D}
theorem lm_zero (h : ¬ okS n l ∨ e < 1 ∨ triS l l.len = 0) : 0 = lmZ n l e := by unfold lmZ; rw [if_pos h]
theorem lm_some (h : okS n l) (h1 : ¬ e < 1) (h2 : triS l l.len ≠ 0) : lmZ n l e = (min e 64 * triS l l.len + triZ n - 1).tdiv (triZ n) := by unfold lmZ; rw [if_neg fun h' => h'.elim (fun k => k h) fun h' => h'.elim h1 h2]
theorem me_zero (h : ¬ okS n l ∨ e < 0) : 0 = meZ n l e := by unfold meZ; rw [if_pos h]
theorem me_full (h : okS n l) (h1 : ¬ e < 0) (h2 : triS l l.len = 0) : meZ n l e = 64 := by unfold meZ; rw [if_neg fun h' => h'.elim (fun k => k h) h1, if_pos h2]
theorem me_some (h : okS n l) (h1 : ¬ e < 0) (h2 : triS l l.len ≠ 0) : meZ n l e = min ((min e 64 * triZ n).tdiv (triS l l.len)) 64 := by unfold meZ; rw [if_neg fun h' => h'.elim (fun k => k h) h1, if_neg h2]
theorem prod_rng {a b c d : Int} (ha : 0 ≤ a) (hb : 0 ≤ b) (hac : a ≤ c) (hbd : b ≤ d) : 0 ≤ a * b ∧ a * b ≤ c * d := ⟨Int.mul_nonneg ha hb, Int.mul_le_mul hac hbd hb (by omega)⟩
end
theorem s15 (n : Int) (l : D) (e : Int) (hl : l.len ≤ 16777216) : symFun (ctx ce1 ebAnn) 3 15 [.int .i64 n, .dat 24 l, .int .i64 e] (.int .i64 (lmZ n l e)) := by
 rw [vc15]
 refine ⟨hl, fun h => ⟨fun h1 => ⟨fun h2 => ?_, fun h2 => ?_⟩, fun h1 => lm_zero (.inr (.inl h1))⟩, fun h => lm_zero (.inl h)⟩
 ·have ok := Classical.not_not.1 h
  have em : shM n l = triS l l.len := by unfold shM; rw [if_pos ok]
  exact lm_zero (.inr (.inr (em ▸ h2)))
 ·have ok := Classical.not_not.1 h
  have em : shM n l = triS l l.len := by unfold shM; rw [if_pos ok]
  have ea : shA n l = triZ n := by unfold shA; rw [if_pos ok]
  rw [em, ea]
  rw [em] at h2
  have h1 := not_of h1
  have ht := ok_tri ok
  have hq := ht.2.2 h2
  have h3 := prod_rng (a := min e 64) (b := triS l l.len) (c := 64) (d := 129024) (by omega) ht.1.1 (by omega) ht.1.2
  have h4 : 0 ≤ (min e 64 * triS l l.len + triZ n - 1).tdiv (triZ n) ∧ (min e 64 * triS l l.len + triZ n - 1).tdiv (triZ n) ≤ min e 64 * triS l l.len + triZ n - 1 := ⟨Int.tdiv_nonneg (by omega) (by omega), Int.tdiv_le_self _ (by omega)⟩
  exact ⟨⟨by omega, by omega⟩, ⟨by omega, by omega⟩, ⟨by omega, by omega⟩, by omega, ⟨by omega, by omega⟩, (lm_some ok h1 h2).symm⟩
theorem s16 (n : Int) (l : D) (e : Int) (hl : l.len ≤ 16777216) : symFun (ctx ce1 ebAnn) 3 16 [.int .i64 n, .dat 24 l, .int .i64 e] (.int .i64 (lmZ n l e)) := by
 rw [vc16]
 refine ⟨hl, fun h => ⟨fun h1 => lm_zero (.inr (.inl h1)), fun h1 => ?_⟩, fun h => lm_zero (.inl h)⟩
 have ok := Classical.not_not.1 h
 have h1 := not_of h1
 have ht := ok_tri ok
 have h3 := prod_rng (a := min e 64) (b := triS l l.len) (c := 64) (d := 129024) (by omega) ht.1.1 (by omega) ht.1.2
 have e1 : triS (D.list (List.take 1 [D.int n])) (List.take 1 [D.int n]).length = triZ n := tri_one n
 rw [e1]
 refine ⟨ok_sizP ok, ⟨by omega, by omega⟩, ⟨0, .inl rfl, ⟨rfl, trivial⟩, trivial⟩, fun x hx => ?_⟩
 have hxb : (x : Int) ≤ min e 64 * triS l l.len + 1 := by
  rcases hx with rfl | hx
  ·omega
  ·rcases Int.lt_or_eq_of_le ht.2.1.1 with hq | hq
   ·by_cases h0 : (x : Int) - 1 ≤ 0
    ·omega
    ·have := Int.mul_le_mul (Int.le_refl ((x : Int) - 1)) (show 1 ≤ triZ n by omega) (by decide) (by omega)
     rw [Int.mul_one] at this
     omega
   ·rw [← hq, Int.mul_zero] at hx
    have : triS l l.len = 0 := by
     by_cases h0 : triS l l.len = 0
     ·exact h0
     ·have := ht.2.2 h0; omega
    rw [this, Int.mul_zero] at hx
    omega
 have h5 := prod_rng (a := (x : Int)) (b := triZ n) (c := 8257537) (d := 2016) (by omega) ht.2.1.1 (by omega) ht.2.1.2
 refine ⟨?_, Nat.le_refl _, one_siz ok.n1 ok.n2, ⟨by omega, by omega⟩, fun hlt => ?_, fun hge => ?_⟩
 ·unfold LIM; omega
 ·refine ⟨⟨by omega, by omega⟩, x + 1, .inr ?_, ?_, ⟨by omega, trivial⟩, trivial⟩
  ·rw [show ((x + 1 : Nat) : Int) - 1 = (x : Int) by omega]; exact hlt
  ·have : (x : Int) ≤ min e 64 * triS l l.len := by
    rcases Int.lt_or_eq_of_le ht.2.1.1 with hq | hq
    ·have := Int.mul_le_mul (Int.le_refl (x : Int)) (show 1 ≤ triZ n by omega) (by decide) (by omega)
     rw [Int.mul_one] at this
     omega
    ·rw [← hq, Int.mul_zero] at hlt
     have : triS l l.len = 0 := by
      by_cases h0 : triS l l.len = 0
      ·exact h0
      ·have := ht.2.2 h0; omega
     rw [this, Int.mul_zero] at hlt
     omega
   omega
 ·have hge := not_of hge
  by_cases h0 : triS l l.len = 0
  ·have : x = 0 := by
    rcases hx with rfl | hx
    ·rfl
    ·rw [h0, Int.mul_zero] at hx
     by_cases h0 : x = 0
     ·exact h0
     ·have := Int.mul_nonneg (show 0 ≤ (x : Int) - 1 by omega) ht.2.1.1; omega
   rw [this]; exact lm_zero (.inr (.inr h0))
  ·rw [lm_some ok h1 h0]
   have hm : 0 < min e 64 * triS l l.len := Int.mul_pos (by omega) (by omega)
   exact ceil_eq hm ht.2.1.1 (by omega) (hx.imp (fun h => by omega) id)
theorem s17 (n : Int) (l : D) (e : Int) (hl : l.len ≤ 16777216) : symFun (ctx ce1 ebAnn) 3 17 [.int .i64 n, .dat 24 l, .int .i64 e] (.int .i64 (meZ n l e)) := by
 rw [vc17]
 refine ⟨hl, fun h => ⟨fun h1 => me_zero (.inr h1), fun h1 => ?_⟩, fun h => me_zero (.inl h)⟩
 have ok := Classical.not_not.1 h
 have h1 := not_of h1
 have em : shM n l = triS l l.len := by unfold shM; rw [if_pos ok]
 have ea : shA n l = triZ n := by unfold shA; rw [if_pos ok]
 rw [em, ea]
 have ht := ok_tri ok
 have h3 := prod_rng (a := min e 64) (b := triZ n) (c := 64) (d := 2016) (by omega) ht.2.1.1 (by omega) ht.2.1.2
 refine ⟨fun h2 => (me_full ok h1 h2).symm, fun h2 => ?_⟩
 have h4 : 0 ≤ (min e 64 * triZ n).tdiv (triS l l.len) ∧ (min e 64 * triZ n).tdiv (triS l l.len) ≤ min e 64 * triZ n := ⟨Int.tdiv_nonneg (by omega) (by omega), Int.tdiv_le_self _ (by omega)⟩
 exact ⟨⟨by omega, by omega⟩, h2, ⟨by omega, by omega⟩, (me_some ok h1 h2).symm⟩
theorem s18 (n : Int) (l : D) (e : Int) (hl : l.len ≤ 16777216) : symFun (ctx ce1 ebAnn) 3 18 [.int .i64 n, .dat 24 l, .int .i64 e] (.int .i64 (meZ n l e)) := by
 rw [vc18]
 refine ⟨hl, fun h => ⟨fun h1 => me_zero (.inr h1), fun h1 => ?_⟩, fun h => me_zero (.inl h)⟩
 have ok := Classical.not_not.1 h
 have h1 := not_of h1
 have ht := ok_tri ok
 have h3 := prod_rng (a := min e 64) (b := triZ n) (c := 64) (d := 2016) (by omega) ht.2.1.1 (by omega) ht.2.1.2
 have e1 : triS (D.list (List.take 1 [D.int n])) (List.take 1 [D.int n]).length = triZ n := tri_one n
 rw [e1]
 refine ⟨⟨0, ⟨Nat.zero_le _, .inl rfl⟩, ⟨rfl, trivial⟩, trivial⟩, fun x hx => ⟨lim_of (by omega), fun hlt => ?_, fun hge => ?_⟩⟩
 ·have h5 := prod_rng (a := (x : Int) + 1) (b := triS l l.len) (c := 64) (d := 129024) (by omega) ht.1.1 (by omega) ht.1.2
  refine ⟨⟨by omega, by omega⟩, ok_sizP ok, ⟨by omega, by omega⟩, Nat.le_refl _, one_siz ok.n1 ok.n2, ⟨by omega, by omega⟩, fun hle => ⟨⟨by omega, by omega⟩, x + 1, ⟨by omega, .inr ?_⟩, by omega, ⟨by omega, trivial⟩, trivial⟩, fun hgt => ?_⟩
  ·rw [show ((x + 1 : Nat) : Int) = (x : Int) + 1 by omega]; exact hle
  ·have hgt := not_of hgt
   have hne : triS l l.len ≠ 0 := fun h0 => by rw [h0, Int.mul_zero] at hgt; omega
   rw [me_some ok h1 hne, Int.tdiv_eq_ediv_of_nonneg h3.1]
   have k1 : (min e 64 * triZ n) / triS l l.len < (x : Int) + 1 := Int.ediv_lt_of_lt_mul (by omega) (by omega)
   have k2 : (x : Int) ≤ (min e 64 * triZ n) / triS l l.len := Int.le_ediv_of_mul_le (by omega) (by
    rcases hx.2 with h0 | h0
    ·rw [h0]; show (0 : Int) * _ ≤ _; rw [Int.zero_mul]; exact h3.1
    ·exact h0)
   omega
 ·have hge := not_of hge
  have hx64 : x = 64 := by omega
  subst hx64
  by_cases h0 : triS l l.len = 0
  ·rw [me_full ok h1 h0]; rfl
  ·rw [me_some ok h1 h0, Int.tdiv_eq_ediv_of_nonneg h3.1]
   have k2 : ((64 : Nat) : Int) ≤ (min e 64 * triZ n) / triS l l.len := Int.le_ediv_of_mul_le (by omega) (hx.2.resolve_left (by omega))
   omega
theorem sl5 (n : Int) (l : D) (e o : Int) : symFun (ctx ce2 ebAnn) 3 5 [.int .i64 n, .dat 24 l, .int .i64 e, .int .i64 o] (.prop True) := by
 rw [vc5]
 have yes : (true = true ↔ True) := iff_of_true rfl trivial
 refine ⟨fun _ => yes, fun h => ?_⟩
 have h := not_of h
 have hl : l.len ≤ 16777216 := by omega
 exact ⟨hl, hl, hl, fun _ => ⟨hl, hl, fun _ => ⟨hl, fun _ => yes, fun h => absurd ⟨rfl, fun _ _ => rfl⟩ h⟩, fun h => absurd rfl h⟩, fun h => absurd rfl h⟩
end Go.Ev

end
