/-
  Part of the engine that the claim is proved with: it states nothing of the document by itself.
-/
import Derived.Test.YtenmglepjkflhaaDoorCoreG27
import Derived.Test.YtenmglepjkflhaaDoorCoreQpM

section
open Go.Proofs
namespace Go.Ev
set_option maxRecDepth 100000
set_option maxHeartbeats 4000000
theorem vc34 : ∀ (t : D) (x : Int), symFun (ctx cc0 hasAnn) 3 (34 : FuncId) [V.dat (25 : TypeId) t, V.int IntKind.i64 x] (V.prop (hasT t x)) = ((∃ (x_1 : Nat), (x_1 ≤ t.len ∧ ∀ (k : Nat), k < x_1 → nAt t k = x → False) ∧
(0 = (x_1 : Int) ∧ True) ∧ True) ∧ ∀ (x_1 : Nat), (x_1 ≤ t.len ∧ ∀ (k : Nat), k < x_1 → nAt t k = x → False) → t.len - x_1 < LIM ∧ ((x_1 : Int) < (t.len : Int) → 0 ≤ (x_1 : Int) ∧ (x_1 : Int) < (t.len : Int) ∧ (x = nAt t
x_1 → (0 ≤ (x_1 : Int) ↔ hasT t x)) ∧ ((x = nAt t x_1 → False) → fits64 ((x_1 : Int) + 1) ∧ ∃ (y : Nat), (y ≤ t.len ∧ ∀ (k : Nat), k < y → nAt t k = x → False) ∧ t.len - y < t.len - x_1 ∧ ((x_1 : Int) + 1 = (y : Int) ∧
True) ∧ True)) ∧ (((x_1 : Int) < (t.len : Int) → False) → (false = true ↔ hasT t x))) := by intros; kernel_rfl
theorem vc13t : ∀ (n : Int) (s : D) (a b : Int), symFun (ctx tg1 (togAnn a b)) 6 (13 : FuncId) [V.int IntKind.i64 n, V.dat (24 : TypeId) s, V.int IntKind.i64 a, V.int IntKind.i64 b] (V.dat (25 : TypeId) (togD s a b)) =
(((a = b → False) → bigP s ∧ (((chk n D.nil s).snd = 0 → False) → D.nil = togD s a b) ∧ ((((chk n D.nil s).snd = 0 → False) → False) → ((∃ (x : Nat × List D), (x.fst ≤ s.len ∧ x.snd = togL s a b x.fst ∧ x.snd = []) ∧ (0
= (x.fst : Int) ∧ True ∧ True) ∧ True) ∨ ∃ (x : Nat × List D), (x.fst ≤ s.len ∧ x.snd = togL s a b x.fst ∧ (x.snd = [] → False)) ∧ (0 = (x.fst : Int) ∧ False ∧ True) ∧ False ∧ True) ∧ (∀ (x : Nat × List D), x.fst ≤ s.len
∧ x.snd = togL s a b x.fst ∧ x.snd = [] → s.len - x.fst < LIM ∧ ((x.fst : Int) < (s.len : Int) → 0 ≤ (x.fst : Int) ∧ (x.fst : Int) < (s.len : Int) ∧ (∃ (x_1 : Nat), (x_1 ≤ (el s x.fst).len ∧ ∀ (j : Nat), j < x_1 → bothT
(el (el s x.fst) j) a b → False) ∧ (0 = (x_1 : Int) ∧ True) ∧ True) ∧ ∀ (x_1 : Nat), (x_1 ≤ (el s x.fst).len ∧ ∀ (j : Nat), j < x_1 → bothT (el (el s x.fst) j) a b → False) → (el s x.fst).len - x_1 < LIM ∧ ((x_1 : Int) <
(↑(el s x.fst).len : Int) → 0 ≤ (x_1 : Int) ∧ (x_1 : Int) < (↑(el s x.fst).len : Int) ∧ (el (el s x.fst) x_1).len ≤ 1000 ∧ (hasT (el (el s x.fst) x_1) a → (el (el s x.fst) x_1).len ≤ 1000 ∧ (hasT (el (el s x.fst) x_1) b
→ (0 ≤ (x_1 : Int) → 0 + 1 ≤ [D.int (x.fst : Int)].length ∧ (1 : Nat) ≤ 16777216 ∧ fits64 ((x.fst : Int) + 1) ∧ ((∃ (y : Nat × List D), (y.fst ≤ s.len ∧ y.snd = togL s a b y.fst ∧ y.snd = []) ∧ s.len - y.fst < s.len -
x.fst ∧ ((x.fst : Int) + 1 = (y.fst : Int) ∧ False ∧ True) ∧ True) ∨ ∃ (y : Nat × List D), (y.fst ≤ s.len ∧ y.snd = togL s a b y.fst ∧ (y.snd = [] → False)) ∧ s.len - y.fst < s.len - x.fst ∧ ((x.fst : Int) + 1 = (y.fst :
Int) ∧ ((0 : Nat) = 0 ∧ 1 = y.snd.length ∧ True) ∧ True) ∧ List.take 1 [D.int (x.fst : Int)] = y.snd ∧ True)) ∧ ((0 ≤ (x_1 : Int) → False) → fits64 ((x.fst : Int) + 1) ∧ ((∃ (y : Nat × List D), (y.fst ≤ s.len ∧ y.snd =
togL s a b y.fst ∧ y.snd = []) ∧ s.len - y.fst < s.len - x.fst ∧ ((x.fst : Int) + 1 = (y.fst : Int) ∧ True ∧ True) ∧ True) ∨ ∃ (y : Nat × List D), (y.fst ≤ s.len ∧ y.snd = togL s a b y.fst ∧ (y.snd = [] → False)) ∧ s.len
- y.fst < s.len - x.fst ∧ ((x.fst : Int) + 1 = (y.fst : Int) ∧ False ∧ True) ∧ False ∧ True))) ∧ ((hasT (el (el s x.fst) x_1) b → False) → fits64 ((x_1 : Int) + 1) ∧ ∃ (y : Nat), (y ≤ (el s x.fst).len ∧ ∀ (j : Nat), j <
y → bothT (el (el s x.fst) j) a b → False) ∧ (el s x.fst).len - y < (el s x.fst).len - x_1 ∧ ((x_1 : Int) + 1 = (y : Int) ∧ True) ∧ True)) ∧ ((hasT (el (el s x.fst) x_1) a → False) → fits64 ((x_1 : Int) + 1) ∧ ∃ (y :
Nat), (y ≤ (el s x.fst).len ∧ ∀ (j : Nat), j < y → bothT (el (el s x.fst) j) a b → False) ∧ (el s x.fst).len - y < (el s x.fst).len - x_1 ∧ ((x_1 : Int) + 1 = (y : Int) ∧ True) ∧ True)) ∧ (((x_1 : Int) < (↑(el s
x.fst).len : Int) → False) → fits64 ((x.fst : Int) + 1) ∧ ((∃ (y : Nat × List D), (y.fst ≤ s.len ∧ y.snd = togL s a b y.fst ∧ y.snd = []) ∧ s.len - y.fst < s.len - x.fst ∧ ((x.fst : Int) + 1 = (y.fst : Int) ∧ True ∧
True) ∧ True) ∨ ∃ (y : Nat × List D), (y.fst ≤ s.len ∧ y.snd = togL s a b y.fst ∧ (y.snd = [] → False)) ∧ s.len - y.fst < s.len - x.fst ∧ ((x.fst : Int) + 1 = (y.fst : Int) ∧ False ∧ True) ∧ False ∧ True))) ∧ (((x.fst :
Int) < (s.len : Int) → False) → D.nil = togD s a b)) ∧ ∀ (x : Nat × List D), x.fst ≤ s.len ∧ x.snd = togL s a b x.fst ∧ (x.snd = [] → False) → s.len - x.fst < LIM ∧ ((x.fst : Int) < (s.len : Int) → 0 ≤ (x.fst : Int) ∧
(x.fst : Int) < (s.len : Int) ∧ (∃ (x_1 : Nat), (x_1 ≤ (el s x.fst).len ∧ ∀ (j : Nat), j < x_1 → bothT (el (el s x.fst) j) a b → False) ∧ (0 = (x_1 : Int) ∧ True) ∧ True) ∧ ∀ (x_1 : Nat), (x_1 ≤ (el s x.fst).len ∧ ∀ (j :
Nat), j < x_1 → bothT (el (el s x.fst) j) a b → False) → (el s x.fst).len - x_1 < LIM ∧ ((x_1 : Int) < (↑(el s x.fst).len : Int) → 0 ≤ (x_1 : Int) ∧ (x_1 : Int) < (↑(el s x.fst).len : Int) ∧ (el (el s x.fst) x_1).len ≤
1000 ∧ (hasT (el (el s x.fst) x_1) a → (el (el s x.fst) x_1).len ≤ 1000 ∧ (hasT (el (el s x.fst) x_1) b → (0 ≤ (x_1 : Int) → 0 + 1 ≤ [D.int (x.fst : Int)].length ∧ 0 + x.snd.length ≤ x.snd.length ∧ x.snd.length + 1 ≤
16777216 ∧ fits64 ((x.fst : Int) + 1) ∧ ((∃ (y : Nat × List D), (y.fst ≤ s.len ∧ y.snd = togL s a b y.fst ∧ y.snd = []) ∧ s.len - y.fst < s.len - x.fst ∧ ((x.fst : Int) + 1 = (y.fst : Int) ∧ False ∧ True) ∧ True) ∨ ∃ (y
: Nat × List D), (y.fst ≤ s.len ∧ y.snd = togL s a b y.fst ∧ (y.snd = [] → False)) ∧ s.len - y.fst < s.len - x.fst ∧ ((x.fst : Int) + 1 = (y.fst : Int) ∧ ((0 : Nat) = 0 ∧ x.snd.length + 1 = y.snd.length ∧ True) ∧ True) ∧
List.take x.snd.length x.snd ++ List.take 1 [D.int (x.fst : Int)] = y.snd ∧ True)) ∧ ((0 ≤ (x_1 : Int) → False) → fits64 ((x.fst : Int) + 1) ∧ ((∃ (y : Nat × List D), (y.fst ≤ s.len ∧ y.snd = togL s a b y.fst ∧ y.snd =
[]) ∧ s.len - y.fst < s.len - x.fst ∧ ((x.fst : Int) + 1 = (y.fst : Int) ∧ False ∧ True) ∧ True) ∨ ∃ (y : Nat × List D), (y.fst ≤ s.len ∧ y.snd = togL s a b y.fst ∧ (y.snd = [] → False)) ∧ s.len - y.fst < s.len - x.fst ∧
((x.fst : Int) + 1 = (y.fst : Int) ∧ ((0 : Nat) = 0 ∧ x.snd.length = y.snd.length ∧ True) ∧ True) ∧ x.snd = y.snd ∧ True))) ∧ ((hasT (el (el s x.fst) x_1) b → False) → fits64 ((x_1 : Int) + 1) ∧ ∃ (y : Nat), (y ≤ (el s
x.fst).len ∧ ∀ (j : Nat), j < y → bothT (el (el s x.fst) j) a b → False) ∧ (el s x.fst).len - y < (el s x.fst).len - x_1 ∧ ((x_1 : Int) + 1 = (y : Int) ∧ True) ∧ True)) ∧ ((hasT (el (el s x.fst) x_1) a → False) → fits64
((x_1 : Int) + 1) ∧ ∃ (y : Nat), (y ≤ (el s x.fst).len ∧ ∀ (j : Nat), j < y → bothT (el (el s x.fst) j) a b → False) ∧ (el s x.fst).len - y < (el s x.fst).len - x_1 ∧ ((x_1 : Int) + 1 = (y : Int) ∧ True) ∧ True)) ∧
(((x_1 : Int) < (↑(el s x.fst).len : Int) → False) → fits64 ((x.fst : Int) + 1) ∧ ((∃ (y : Nat × List D), (y.fst ≤ s.len ∧ y.snd = togL s a b y.fst ∧ y.snd = []) ∧ s.len - y.fst < s.len - x.fst ∧ ((x.fst : Int) + 1 =
(y.fst : Int) ∧ False ∧ True) ∧ True) ∨ ∃ (y : Nat × List D), (y.fst ≤ s.len ∧ y.snd = togL s a b y.fst ∧ (y.snd = [] → False)) ∧ s.len - y.fst < s.len - x.fst ∧ ((x.fst : Int) + 1 = (y.fst : Int) ∧ ((0 : Nat) = 0 ∧
x.snd.length = y.snd.length ∧ True) ∧ True) ∧ x.snd = y.snd ∧ True))) ∧ (((x.fst : Int) < (s.len : Int) → False) → 0 + x.snd.length ≤ x.snd.length ∧ D.list (List.take x.snd.length x.snd) = togD s a b))) ∧ (a = b → D.nil
= togD s a b)) := by intros; kernel_rfl
theorem s34 (t : D) (x : Int) (h : t.len ≤ 1000) : symFun (ctx cc0 hasAnn) 3 34 [.dat 25 t, .int .i64 x] (.prop (hasT t x)) := by
 rw [vc34]
 refine ⟨⟨0, ⟨Nat.zero_le _, fun k hk => absurd hk (Nat.not_lt_zero _)⟩, ⟨rfl, trivial⟩, trivial⟩, fun y ⟨hy, hn⟩ => ⟨limS (by omega), fun hlt => ⟨by omega, hlt, fun e => ⟨fun _ => ⟨y, by omega, e.symm⟩, fun _ => by omega⟩, fun hne => ⟨⟨by omega, by omega⟩, y + 1, ⟨by omega, fun k hk => ?_⟩, by omega, ⟨by omega, trivial⟩, trivial⟩⟩, fun hge => ?_⟩⟩
 ·by_cases e : k = y
  ·subst e; exact fun h => hne h.symm
  ·exact hn k (by omega)
 ·have hge := not_of hge
  refine iff_of_false (fun h => (by cases h)) fun ⟨⟨k, hk, e⟩⟩ => hn k (by omega) e
theorem togL_len (s : D) (a b : Int) : ∀ x, (togL s a b x).length ≤ x
 | 0 => Nat.le_refl _
 | x + 1 => by
  have ih := togL_len s a b x
  unfold togL
  split
  ·rw [List.length_append]; show _ + 1 ≤ _; omega
  ·omega
theorem togL_yes {s : D} {a b : Int} {x j : Nat} (hj : j < (el s x).len) (h : bothT (el (el s x) j) a b) : togL s a b (x + 1) = togL s a b x ++ [.int (x : Nat)] := by
 rw [togL, if_pos ⟨⟨j, hj, h⟩⟩]
theorem togL_no {s : D} {a b : Int} {x : Nat} (h : ∀ j, j < (el s x).len → ¬ bothT (el (el s x) j) a b) : togL s a b (x + 1) = togL s a b x := by
 rw [togL, if_neg (fun ⟨⟨j, hj, hb⟩⟩ => h j hj hb)]
theorem s13t (n : Int) (s : D) (a b : Int) (h : goodS n s) : symFun (ctx tg1 (togAnn a b)) 6 13 [.int .i64 n, .dat 24 s, .int .i64 a, .int .i64 b] (.dat 25 (togD s a b)) := by
 rw [vc13t]
 have hb := h.big.out.1
 refine ⟨fun hab => ?_, fun hab => by unfold togD; rw [if_pos hab]⟩
 refine ⟨h.big, fun k => (k (by rw [h.chk])).elim, fun _ => ?_⟩
 have hD : togD s a b = listD (togL s a b s.len) := by unfold togD; rw [if_neg hab]
 refine ⟨.inl ⟨(0, []), ⟨Nat.zero_le _, rfl, rfl⟩, ⟨rfl, trivial, trivial⟩, trivial⟩, fun x ⟨hx, he, h0⟩ => ?_, fun x ⟨hx, he, h0⟩ => ?_⟩
 ·refine ⟨limS (by omega), fun hlt => ⟨by omega, hlt, ⟨0, ⟨Nat.zero_le _, fun j hj => absurd hj (Nat.not_lt_zero _)⟩, ⟨rfl, trivial⟩, trivial⟩, fun y ⟨hy, hn⟩ => ?_⟩, fun hge => ?_⟩
  ·have hxs : x.1 < s.len := by omega
   have hev := (h.big.out.2 x.1 hxs).out
   have step : ∀ y, y < (el s x.1).len → ¬ bothT (el (el s x.1) y) a b → (∀ j, j < y → ¬ bothT (el (el s x.1) j) a b) → ∀ j, j < y + 1 → ¬ bothT (el (el s x.1) j) a b := fun y _ h1 h2 j hj => by
    by_cases e : j = y
    ·subst e; exact h1
    ·exact h2 j (by omega)
   refine ⟨limS (by omega), fun hlt2 => ⟨by omega, hlt2, hev.2 y (by omega), fun ha => ⟨hev.2 y (by omega), fun hb2 => ⟨fun _ => ⟨Nat.le_refl _, by decide, ⟨by omega, by omega⟩, .inr ⟨(x.1 + 1, togL s a b (x.1 + 1)), ⟨by show x.1 + 1 ≤ _; omega, rfl, ?_⟩, by show s.len - (x.1 + 1) < _; omega, ⟨by show (x.1 : Int) + 1 = ((x.1 + 1 : Nat) : Int); omega, ⟨rfl, ?_, trivial⟩, trivial⟩, ?_, trivial⟩⟩, fun k => (k (by omega)).elim⟩, fun hb2 => ⟨⟨by omega, by omega⟩, y + 1, ⟨by omega, step y (by omega) (fun q => hb2 q.r) hn⟩, by omega, ⟨by omega, trivial⟩, trivial⟩⟩, fun ha => ⟨⟨by omega, by omega⟩, y + 1, ⟨by omega, step y (by omega) (fun q => ha q.l) hn⟩, by omega, ⟨by omega, trivial⟩, trivial⟩⟩, fun hge2 => ?_⟩
   ·show togL s a b (x.1 + 1) ≠ []
    rw [togL_yes (show y < (el s x.1).len by omega) ⟨ha, hb2⟩]; simp
   ·show 1 = (togL s a b (x.1 + 1)).length
    rw [togL_yes (show y < (el s x.1).len by omega) ⟨ha, hb2⟩, ← he, h0]; rfl
   ·show List.take 1 [D.int (x.1 : Int)] = togL s a b (x.1 + 1)
    rw [togL_yes (show y < (el s x.1).len by omega) ⟨ha, hb2⟩, ← he, h0]; rfl
   ·have hge2 := not_of hge2
    refine ⟨⟨by omega, by omega⟩, .inl ⟨(x.1 + 1, []), ⟨by show x.1 + 1 ≤ _; omega, ?_, rfl⟩, by show s.len - (x.1 + 1) < _; omega, ⟨by show (x.1 : Int) + 1 = ((x.1 + 1 : Nat) : Int); omega, trivial, trivial⟩, trivial⟩⟩
    show [] = togL s a b (x.1 + 1)
    rw [togL_no (fun j hj => hn j (by omega)), ← he, h0]
  ·have hge := not_of hge
   rw [hD, show s.len = x.1 by omega, ← he, h0]; rfl
 ·have hl := togL_len s a b x.1
  rw [← he] at hl
  refine ⟨limS (by omega), fun hlt => ⟨by omega, hlt, ⟨0, ⟨Nat.zero_le _, fun j hj => absurd hj (Nat.not_lt_zero _)⟩, ⟨rfl, trivial⟩, trivial⟩, fun y ⟨hy, hn⟩ => ?_⟩, fun hge => ?_⟩
  ·have hxs : x.1 < s.len := by omega
   have hev := (h.big.out.2 x.1 hxs).out
   have step : ∀ y, y < (el s x.1).len → ¬ bothT (el (el s x.1) y) a b → (∀ j, j < y → ¬ bothT (el (el s x.1) j) a b) → ∀ j, j < y + 1 → ¬ bothT (el (el s x.1) j) a b := fun y _ h1 h2 j hj => by
    by_cases e : j = y
    ·subst e; exact h1
    ·exact h2 j (by omega)
   refine ⟨limS (by omega), fun hlt2 => ⟨by omega, hlt2, hev.2 y (by omega), fun ha => ⟨hev.2 y (by omega), fun hb2 => ⟨fun _ => ⟨Nat.le_refl _, by omega, by omega, ⟨by omega, by omega⟩, .inr ⟨(x.1 + 1, togL s a b (x.1 + 1)), ⟨by show x.1 + 1 ≤ _; omega, rfl, ?_⟩, by show s.len - (x.1 + 1) < _; omega, ⟨by show (x.1 : Int) + 1 = ((x.1 + 1 : Nat) : Int); omega, ⟨rfl, ?_, trivial⟩, trivial⟩, ?_, trivial⟩⟩, fun k => (k (by omega)).elim⟩, fun hb2 => ⟨⟨by omega, by omega⟩, y + 1, ⟨by omega, step y (by omega) (fun q => hb2 q.r) hn⟩, by omega, ⟨by omega, trivial⟩, trivial⟩⟩, fun ha => ⟨⟨by omega, by omega⟩, y + 1, ⟨by omega, step y (by omega) (fun q => ha q.l) hn⟩, by omega, ⟨by omega, trivial⟩, trivial⟩⟩, fun hge2 => ?_⟩
   ·show togL s a b (x.1 + 1) ≠ []
    rw [togL_yes (show y < (el s x.1).len by omega) ⟨ha, hb2⟩]; simp
   ·show x.2.length + 1 = (togL s a b (x.1 + 1)).length
    rw [togL_yes (show y < (el s x.1).len by omega) ⟨ha, hb2⟩, ← he, List.length_append]; rfl
   ·show List.take x.2.length x.2 ++ List.take 1 [D.int (x.1 : Int)] = togL s a b (x.1 + 1)
    rw [togL_yes (show y < (el s x.1).len by omega) ⟨ha, hb2⟩, ← he, List.take_of_length_le (Nat.le_refl _)]; rfl
   ·have hge2 := not_of hge2
    refine ⟨⟨by omega, by omega⟩, .inr ⟨(x.1 + 1, x.2), ⟨by show x.1 + 1 ≤ _; omega, ?_, h0⟩, by show s.len - (x.1 + 1) < _; omega, ⟨by show (x.1 : Int) + 1 = ((x.1 + 1 : Nat) : Int); omega, ⟨rfl, rfl, trivial⟩, trivial⟩, rfl, trivial⟩⟩
    show x.2 = togL s a b (x.1 + 1)
    rw [togL_no (fun j hj => hn j (by omega)), ← he]
  ·have hge := not_of hge
   refine ⟨by omega, ?_⟩
   rw [hD, show s.len = x.1 by omega, ← he, List.take_of_length_le (Nat.le_refl _)]
   cases hx2 : x.2 with
   | nil => exact absurd hx2 h0
   | cons a l => rfl
end Go.Ev

end

section
open Go.Proofs
namespace Go.Ev
set_option maxRecDepth 100000
set_option maxHeartbeats 4000000
def sR (f : Nat → Nat → Int) (x : Nat) : Nat → Int
 | 0 => 0
 | y + 1 => sR f x y + f x y
def sP (f : Nat → Nat → Int) : Nat → Int
 | 0 => 0
 | x + 1 => sP f x + sR f x x
def s2 (f : Nat → Nat → Int) (m : Nat) : Nat → Int
 | 0 => 0
 | x + 1 => s2 f m x + sR f x m
theorem sR_add (f g : Nat → Nat → Int) (x : Nat) : ∀ y, sR (fun a b => f a b + g a b) x y = sR f x y + sR g x y
 | 0 => rfl
 | y + 1 => by
  show sR _ x y + (f x y + g x y) = sR f x y + f x y + (sR g x y + g x y)
  rw [sR_add f g x y]; omega
theorem sP_add (f g : Nat → Nat → Int) : ∀ x, sP (fun a b => f a b + g a b) x = sP f x + sP g x
 | 0 => rfl
 | x + 1 => by
  show sP _ x + sR _ x x = sP f x + sR f x x + (sP g x + sR g x x)
  rw [sP_add f g x, sR_add]; omega
theorem sR_zero (x : Nat) : ∀ y, sR (fun _ _ => 0) x y = 0
 | 0 => rfl
 | y + 1 => by show sR _ x y + 0 = 0; rw [sR_zero x y]; rfl
theorem sP_zero : ∀ x, sP (fun _ _ => 0) x = 0
 | 0 => rfl
 | x + 1 => by show sP _ x + sR _ x x = 0; rw [sP_zero x, sR_zero]; rfl
theorem sR_ind {u v x : Nat} (huv : u ≠ v) : ∀ y, y ≤ x → sR (indN (u : Int) (v : Int)) x y = if (x = u ∧ v < y) ∨ (x = v ∧ u < y) then 1 else 0
 | 0, _ => by rw [if_neg (by omega)]; rfl
 | y + 1, hy => by
  show sR _ x y + indN (u : Int) (v : Int) x y = _
  rw [sR_ind huv y (by omega)]
  unfold indN
  by_cases h1 : (x = u ∧ v < y) ∨ (x = v ∧ u < y)
  ·rw [if_pos h1, if_neg (by omega), if_neg (by omega), if_pos (by omega)]; rfl
  ·rw [if_neg h1]
   by_cases h2 : (u : Int) = x ∧ (v : Int) = y
   ·rw [if_pos h2, if_neg (by omega), if_pos (by omega)]; rfl
   ·rw [if_neg h2]
    by_cases h3 : (v : Int) = x ∧ (u : Int) = y
    ·rw [if_pos h3, if_pos (by omega)]; rfl
    ·rw [if_neg h3, if_neg (by omega)]; rfl
theorem sP_ind {u v : Nat} (huv : u ≠ v) : ∀ x, sP (indN (u : Int) (v : Int)) x = if u < x ∧ v < x then 1 else 0
 | 0 => by rw [if_neg (by omega)]; rfl
 | x + 1 => by
  show sP _ x + sR _ x x = _
  rw [sP_ind huv x, sR_ind huv x (Nat.le_refl _)]
  by_cases h1 : u < x ∧ v < x
  ·rw [if_pos h1, if_neg (by omega), if_pos (by omega)]; rfl
  ·rw [if_neg h1]
   by_cases h2 : (x = u ∧ v < x) ∨ (x = v ∧ u < x)
   ·rw [if_pos h2, if_pos (by omega)]; rfl
   ·rw [if_neg h2, if_neg (by omega)]; rfl
theorem sR_le {f : Nat → Nat → Int} {m : Int} {x : Nat} : ∀ y, (∀ b, b < y → f x b ≤ m) → sR f x y ≤ m * (y : Nat)
 | 0, _ => by show (0 : Int) ≤ m * 0; omega
 | y + 1, h => by
  show sR f x y + f x y ≤ _
  have := sR_le y fun b hb => h b (by omega)
  have := h y (by omega)
  rw [Int.natCast_add, Int.mul_add]; simp; omega
theorem sP_le {f : Nat → Nat → Int} {m : Int} : ∀ x, (∀ a b, b < a → a < x → f a b ≤ m) → sP f x ≤ m * triZ (x : Nat)
 | 0, _ => by show (0 : Int) ≤ m * 0; omega
 | 1, _ => by show (0 : Int) + 0 ≤ m * 0; omega
 | x + 2, h => by
  show sP f (x + 1) + sR f (x + 1) (x + 1) ≤ _
  have h1 := sP_le (x + 1) fun a b h1 h2 => h a b h1 (by omega)
  have h2 := sR_le (f := f) (m := m) (x := x + 1) (x + 1) fun b hb => h (x + 1) b hb (by omega)
  rw [show ((x + 2 : Nat) : Int) = ((x + 1 : Nat) : Int) + 1 by omega, tri_succ (by omega), Int.mul_add]
  omega
theorem s2_succ {f : Nat → Nat → Int} {m : Nat} (hs : ∀ a b, f a b = f b a) : ∀ x, s2 f (m + 1) x = s2 f m x + sR f m x
 | 0 => rfl
 | x + 1 => by
  show s2 f (m + 1) x + (sR f x m + f x m) = s2 f m x + sR f x m + (sR f m x + f m x)
  rw [s2_succ hs x, hs x m]; omega
theorem s2_two {f : Nat → Nat → Int} (hs : ∀ a b, f a b = f b a) (h0 : ∀ a, f a a = 0) : ∀ n, s2 f n n = 2 * sP f n
 | 0 => rfl
 | n + 1 => by
  show s2 f (n + 1) n + (sR f n n + f n n) = 2 * (sP f n + sR f n n)
  rw [s2_succ hs n, s2_two hs h0 n, h0 n]; omega
theorem indN_sym (x y : Int) (a b : Nat) : indN x y a b = indN x y b a := by
 unfold indN
 split <;> split <;> split <;> split <;> omega
theorem mtI_sym (t : D) (i a b : Nat) : ∀ j, mtI t i j a b = mtI t i j b a
 | 0 => rfl
 | j + 1 => by show mtI t i j a b + _ = mtI t i j b a + _; rw [mtI_sym t i a b j, indN_sym]
theorem mtN_sym (t : D) (a b : Nat) : ∀ i, mtN t i a b = mtN t i b a
 | 0 => rfl
 | i + 1 => by show mtN t i a b + _ = mtN t i b a + _; rw [mtN_sym t a b i, mtI_sym]
theorem mtE_sym (ev : D) (a b : Nat) : ∀ j, mtE ev j a b = mtE ev j b a
 | 0 => rfl
 | j + 1 => by show mtE ev j a b + _ = mtE ev j b a + _; rw [mtE_sym ev a b j, mtN_sym]
theorem mtS_sym (s : D) (a b : Nat) : ∀ i, mtS s i a b = mtS s i b a
 | 0 => rfl
 | i + 1 => by show mtS s i a b + _ = mtS s i b a + _; rw [mtS_sym s a b i, mtE_sym]
def oneZ (x y : Int) : Int := if x = y then 1 else 0
theorem oneZ_ne {x a b : Int} (h : a ≠ b) : oneZ x a * oneZ x b = 0 := by
 unfold oneZ
 by_cases e : x = a
 ·rw [if_neg (show ¬ x = b by omega), Int.mul_zero]
 ·rw [if_neg e, Int.zero_mul]
theorem indN_one (x y : Int) (a b : Nat) : indN x y a b = oneZ y a * oneZ x b + oneZ y b * oneZ x a := by
 unfold indN oneZ
 split <;> split <;> split <;> split <;> split <;> split <;> omega
theorem cnt_step {l : List D} {i : Nat} (hi : i < l.length) (x : Int) : cntF (l.take (i + 1)) x = cntF (l.take i) x + oneZ (nthD l i).asInt x := cntF_succ hi x
theorem mtI_cnt {t : D} {i : Nat} (a b : Nat) : ∀ j, j ≤ t.len → mtI t i j a b = oneZ (nAt t i) a * cntF (t.asList.take j) b + oneZ (nAt t i) b * cntF (t.asList.take j) a
 | 0, _ => by show (0 : Int) = _ * 0 + _ * 0; omega
 | j + 1, hj => by
  show mtI t i j a b + indN (nAt t j) (nAt t i) a b = _
  rw [mtI_cnt a b j (by omega), indN_one, cnt_step (show j < t.asList.length from hj), cnt_step (show j < t.asList.length from hj)]
  show _ = oneZ (nAt t i) a * (_ + oneZ (nAt t j) b) + oneZ (nAt t i) b * (_ + oneZ (nAt t j) a)
  rw [Int.mul_add, Int.mul_add]; omega
theorem mtN_cnt {t : D} {a b : Nat} (hab : a ≠ b) : ∀ i, i ≤ t.len → mtN t i a b = cntF (t.asList.take i) a * cntF (t.asList.take i) b
 | 0, _ => rfl
 | i + 1, hi => by
  show mtN t i a b + mtI t i i a b = _
  have h0 := oneZ_ne (x := nAt t i) (show (a : Int) ≠ (b : Int) by omega)
  rw [mtN_cnt hab i (by omega), mtI_cnt a b i (by omega), cnt_step (show i < t.asList.length from hi), cnt_step (show i < t.asList.length from hi)]
  show _ = (_ + oneZ (nAt t i) a) * (_ + oneZ (nAt t i) b)
  generalize cntF (t.asList.take i) a = p
  generalize cntF (t.asList.take i) b = q
  generalize oneZ (nAt t i) a = u at h0 ⊢
  generalize oneZ (nAt t i) b = v at h0 ⊢
  rw [Int.add_mul, Int.mul_add, Int.mul_add, h0, Int.mul_comm p v]; omega
theorem cnt_pos {x : Int} : ∀ {l : List D}, 0 < cntF l x ↔ ∃ k, k < l.length ∧ (nthD l k).asInt = x
 | [] => ⟨fun h => absurd h (by show ¬ (0 : Int) < 0; omega), fun ⟨k, hk, _⟩ => absurd hk (Nat.not_lt_zero _)⟩
 | d :: l => by
  rw [cntF_cons]
  have ih := cnt_pos (x := x) (l := l)
  have hr := cntF_rng l x
  constructor
  ·intro h
   by_cases e : d.asInt = x
   ·exact ⟨0, Nat.zero_lt_succ _, e⟩
   ·rw [if_neg e] at h
    obtain ⟨k, hk, he⟩ := ih.1 (by omega)
    exact ⟨k + 1, Nat.succ_lt_succ hk, he⟩
  ·rintro ⟨k, hk, he⟩
   cases k with
   | zero => rw [if_pos (show d.asInt = x from he)]; omega
   | succ k =>
    have := ih.2 ⟨k, Nat.lt_of_succ_lt_succ hk, he⟩
    split <;> omega
theorem hasT_cnt {t : D} {a : Int} : hasT t a ↔ 0 < cntF t.asList a := ⟨fun ⟨h⟩ => cnt_pos.2 h, fun h => ⟨cnt_pos.1 h⟩⟩
theorem flat_cnt (ev : D) (x : Int) {j : Nat} : ∀ m, j < m → cntF (el ev j).asList x ≤ cntF (flatL ev m) x
 | 0, h => absurd h (Nat.not_lt_zero _)
 | m + 1, h => by
  show _ ≤ cntF (flatL ev m ++ (el ev m).asList) x
  rw [cntF_app]
  have h1 := cntF_rng (flatL ev m) x
  have h2 := cntF_rng (el ev m).asList x
  by_cases e : j = m
  ·subst e; omega
  ·have := flat_cnt ev x (j := j) m (by omega); omega
theorem mtE_one {ev : D} {a b : Nat} (hab : a ≠ b) : ∀ m, cntF (flatL ev m) a ≤ 1 → cntF (flatL ev m) b ≤ 1 → (mtE ev m a b = 1 ∧ ∃ j, j < m ∧ bothT (el ev j) a b) ∨ (mtE ev m a b = 0 ∧ ∀ j, j < m → ¬ bothT (el ev j) a b)
 | 0, _, _ => .inr ⟨rfl, fun j hj => absurd hj (Nat.not_lt_zero _)⟩
 | m + 1, ha, hb => by
  have ha' : cntF (flatL ev m ++ (el ev m).asList) a ≤ 1 := ha
  have hb' : cntF (flatL ev m ++ (el ev m).asList) b ≤ 1 := hb
  rw [cntF_app] at ha' hb'
  have r1 := cntF_rng (flatL ev m) a
  have r2 := cntF_rng (flatL ev m) b
  have r3 := cntF_rng (el ev m).asList a
  have r4 := cntF_rng (el ev m).asList b
  have e1 : mtE ev (m + 1) a b = mtE ev m a b + cntF (el ev m).asList a * cntF (el ev m).asList b := by
   show mtE ev m a b + mtN (el ev m) (el ev m).len a b = _
   rw [mtN_cnt hab _ (Nat.le_refl _)]
   show _ + cntF (List.take (el ev m).asList.length _) _ * cntF (List.take (el ev m).asList.length _) _ = _
   rw [List.take_length]
  by_cases hA : 0 < cntF (el ev m).asList a
  ·by_cases hB : 0 < cntF (el ev m).asList b
   ·left
    refine ⟨?_, m, by omega, hasT_cnt.2 hA, hasT_cnt.2 hB⟩
    rcases mtE_one (ev := ev) hab m (by omega) (by omega) with ⟨_, j, hj, hl, _⟩ | ⟨h0, _⟩
    ·have := flat_cnt ev a m hj
     have := hasT_cnt.1 hl
     omega
    ·rw [e1, h0, show cntF (el ev m).asList a = 1 by omega, show cntF (el ev m).asList b = 1 by omega]; rfl
   ·have hz : cntF (el ev m).asList b = 0 := by omega
    rw [e1, hz, Int.mul_zero, Int.add_zero]
    rcases mtE_one (ev := ev) hab m (by omega) (by omega) with ⟨h1, j, hj, hq⟩ | ⟨h0, hq⟩
    ·exact .inl ⟨h1, j, by omega, hq⟩
    ·refine .inr ⟨h0, fun j hj hq' => ?_⟩
     by_cases e : j = m
     ·subst e; exact hB (hasT_cnt.1 hq'.r)
     ·exact hq j (by omega) hq'
  ·have hz : cntF (el ev m).asList a = 0 := by omega
   rw [e1, hz, Int.zero_mul, Int.add_zero]
   rcases mtE_one (ev := ev) hab m (by omega) (by omega) with ⟨h1, j, hj, hq⟩ | ⟨h0, hq⟩
   ·exact .inl ⟨h1, j, by omega, hq⟩
   ·refine .inr ⟨h0, fun j hj hq' => ?_⟩
    by_cases e : j = m
    ·subst e; exact hA (hasT_cnt.1 hq'.l)
    ·exact hq j (by omega) hq'
theorem good_cnt {n : Int} {s : D} (h : goodS n s) {i : Nat} (hi : i < s.len) {v : Nat} (hv : (v : Int) < n) : cntF (flatL (el s i) (el s i).len) v ≤ 1 := (errG_all (errE_all (good_err h hi)).2).2.1 v hv
theorem mtE_good {n : Int} {s : D} (h : goodS n s) {i : Nat} (hi : i < s.len) {a b : Nat} (hab : a ≠ b) (ha : (a : Int) < n) (hb : (b : Int) < n) :
  (mtE (el s i) (el s i).len a b = 1 ∧ bothE (el s i) a b) ∨ (mtE (el s i) (el s i).len a b = 0 ∧ ¬ bothE (el s i) a b) := by
 rcases mtE_one hab (ev := el s i) _ (good_cnt h hi ha) (good_cnt h hi hb) with ⟨h1, hq⟩ | ⟨h0, hq⟩
 ·exact .inl ⟨h1, ⟨hq⟩⟩
 ·exact .inr ⟨h0, fun ⟨⟨j, hj, hq'⟩⟩ => hq j hj hq'⟩
theorem tog_len {n : Int} {s : D} (h : goodS n s) {a b : Nat} (hab : a ≠ b) (ha : (a : Int) < n) (hb : (b : Int) < n) : ∀ x, x ≤ s.len → ((togL s a b x).length : Int) = mtS s x a b
 | 0, _ => rfl
 | x + 1, hx => by
  have ih := tog_len h hab ha hb x (by omega)
  show _ = mtS s x a b + mtE (el s x) (el s x).len a b
  rw [togL]
  rcases mtE_good h (show x < s.len by omega) hab ha hb with ⟨h1, hq⟩ | ⟨h0, hq⟩
  ·rw [if_pos hq, h1, List.length_append, Int.natCast_add, ih]; rfl
  ·rw [if_neg hq, h0, ih]; omega
theorem mtS_rng {n : Int} {s : D} (h : goodS n s) {a b : Nat} (hab : a ≠ b) (ha : (a : Int) < n) (hb : (b : Int) < n) : ∀ x, x ≤ s.len → 0 ≤ mtS s x a b ∧ mtS s x a b ≤ x
 | 0, _ => ⟨Int.le_refl _, Int.le_refl _⟩
 | x + 1, hx => by
  have ih := mtS_rng h hab ha hb x (by omega)
  show 0 ≤ mtS s x a b + mtE (el s x) (el s x).len a b ∧ mtS s x a b + mtE (el s x) (el s x).len a b ≤ _
  rcases mtE_good h (show x < s.len by omega) hab ha hb with ⟨h1, _⟩ | ⟨h0, _⟩ <;> omega
theorem cnt_two {l : List D} {p q : Nat} (hpq : p < q) (hq : q < l.length) (he : (nthD l p).asInt = (nthD l q).asInt) : 2 ≤ cntF l (nthD l q).asInt := by
 have h1 := cnt_step hq (nthD l q).asInt
 have h2 := cntF_take l (q + 1) (nthD l q).asInt
 have h3 : 0 < cntF (l.take q) (nthD l q).asInt := cnt_pos.2 ⟨p, by rw [List.length_take]; omega, by
  rw [← he]; unfold nthD; rw [List.getElem?_take, if_pos hpq]⟩
 rw [show oneZ (nthD l q).asInt (nthD l q).asInt = 1 by unfold oneZ; rw [if_pos rfl]] at h1
 omega
theorem good_ne {n : Int} {s : D} (h : goodS n s) {i j : Nat} (hi : i < s.len) (hj : j < (el s i).len) {p q : Nat} (hpq : p < q) (hq : q < (el (el s i) j).len) : nAt (el (el s i) j) p ≠ nAt (el (el s i) j) q := fun he => by
 have h1 := cnt_two (l := (el (el s i) j).asList) hpq hq he
 have hr := (good_tab h hi hj).rng q hq
 have h2 := good_cnt h hi (v := (nAt (el (el s i) j) q).toNat) (by omega)
 have h3 := flat_cnt (el s i) (nAt (el (el s i) j) q) _ hj
 rw [show (((nAt (el (el s i) j) q).toNat : Nat) : Int) = nAt (el (el s i) j) q by omega] at h2
 have h4 : 2 ≤ cntF (el (el s i) j).asList (nAt (el (el s i) j) q) := h1
 omega
theorem sP_mtI {N : Nat} {t : D} (hr : ∀ k, k < t.len → 0 ≤ nAt t k ∧ nAt t k < N) (hd : ∀ p q, p < q → q < t.len → nAt t p ≠ nAt t q) {i : Nat} (hi : i < t.len) : ∀ j, j ≤ i → sP (mtI t i j) N = (j : Nat)
 | 0, _ => sP_zero N
 | j + 1, hj => by
  have e : sP (mtI t i (j + 1)) N = sP (fun a b => mtI t i j a b + indN (nAt t j) (nAt t i) a b) N := rfl
  rw [e, sP_add, sP_mtI hr hd hi j (by omega)]
  have r1 := hr j (by omega)
  have r2 := hr i hi
  have hne := hd j i (by omega) hi
  have := sP_ind (u := (nAt t j).toNat) (v := (nAt t i).toNat) (by omega) N
  rw [show (((nAt t j).toNat : Nat) : Int) = nAt t j by omega, show (((nAt t i).toNat : Nat) : Int) = nAt t i by omega, if_pos (by omega)] at this
  show _ + sP (fun a b => indN (nAt t j) (nAt t i) a b) N = _
  rw [show sP (fun a b => indN (nAt t j) (nAt t i) a b) N = sP (indN (nAt t j) (nAt t i)) N from rfl, this]; rfl
theorem sP_mtN {N : Nat} {t : D} (hr : ∀ k, k < t.len → 0 ≤ nAt t k ∧ nAt t k < N) (hd : ∀ p q, p < q → q < t.len → nAt t p ≠ nAt t q) : ∀ i, i ≤ t.len → sP (mtN t i) N = triZ (i : Nat)
 | 0, _ => sP_zero N
 | i + 1, hi => by
  have e : sP (mtN t (i + 1)) N = sP (fun a b => mtN t i a b + mtI t i i a b) N := rfl
  rw [e, sP_add, sP_mtN hr hd i (by omega)]
  show _ + sP (fun a b => mtI t i i a b) N = _
  rw [show sP (fun a b => mtI t i i a b) N = sP (mtI t i i) N from rfl, sP_mtI hr hd (show i < t.len by omega) i (Nat.le_refl _)]
  cases i with
  | zero => rfl
  | succ i => rw [show ((i + 1 + 1 : Nat) : Int) = ((i + 1 : Nat) : Int) + 1 by omega, tri_succ (by omega)]
def trE (ev : D) : Nat → Int
 | 0 => 0
 | j + 1 => trE ev j + triZ ((el ev j).len : Nat)
theorem sP_mtE {n : Int} {s : D} (h : goodS n s) {i : Nat} (hi : i < s.len) : ∀ j, j ≤ (el s i).len → sP (mtE (el s i) j) n.toNat = trE (el s i) j
 | 0, _ => sP_zero _
 | j + 1, hj => by
  have e : sP (mtE (el s i) (j + 1)) n.toNat = sP (fun a b => mtE (el s i) j a b + mtN (el (el s i) j) (el (el s i) j).len a b) n.toNat := rfl
  have hn := h.n1
  rw [e, sP_add, sP_mtE h hi j (by omega)]
  show _ + sP (fun a b => mtN (el (el s i) j) (el (el s i) j).len a b) n.toNat = _
  rw [show sP (fun a b => mtN (el (el s i) j) (el (el s i) j).len a b) n.toNat = sP (mtN (el (el s i) j) (el (el s i) j).len) n.toNat from rfl,
   sP_mtN (fun k hk => by have := (good_tab h hi (show j < (el s i).len by omega)).rng k hk; omega) (fun p q hpq hq => good_ne h hi (show j < (el s i).len by omega) hpq hq) _ (Nat.le_refl _)]
  rfl
theorem sP_mtS {n : Int} {s : D} {M : Int} (h : goodS n s) (hM : ∀ i, i < s.len → trE (el s i) (el s i).len = M) : ∀ x, x ≤ s.len → sP (mtS s x) n.toNat = (x : Nat) * M
 | 0, _ => by rw [show sP (mtS s 0) n.toNat = 0 from sP_zero _]; simp
 | x + 1, hx => by
  have e : sP (mtS s (x + 1)) n.toNat = sP (fun a b => mtS s x a b + mtE (el s x) (el s x).len a b) n.toNat := rfl
  rw [e, sP_add, sP_mtS h hM x (by omega)]
  show _ + sP (fun a b => mtE (el s x) (el s x).len a b) n.toNat = _
  rw [show sP (fun a b => mtE (el s x) (el s x).len a b) n.toNat = sP (mtE (el s x) (el s x).len) n.toNat from rfl, sP_mtE h (show x < s.len by omega) _ (Nat.le_refl _), hM x (by omega), Int.natCast_add, Int.add_mul]; simp
theorem trE_sz {ev sz : D} (h : ∀ j, j < sz.len → ((el ev j).len : Int) = nAt sz j) : ∀ j, j ≤ sz.len → trE ev j = triS sz j
 | 0, _ => rfl
 | j + 1, hj => by
  show trE ev j + triZ ((el ev j).len : Nat) = triS sz j + triZ (nAt sz j)
  rw [trE_sz h j (by omega), h j (by omega)]
theorem mx_ge {l : D} : ∀ x i, i < x → nAt l i ≤ mxZ l x
 | 0, i, h => absurd h (Nat.not_lt_zero _)
 | x + 1, i, h => by
  show _ ≤ max (mxZ l x) (nAt l x)
  by_cases e : i = x
  ·subst e; omega
  ·have := mx_ge (l := l) x i (by omega); omega
theorem mx_nn (l : D) : ∀ x, 0 ≤ mxZ l x
 | 0 => Int.le_refl _
 | x + 1 => by show 0 ≤ max (mxZ l x) (nAt l x); have := mx_nn l x; omega
theorem mn_le {l : D} : ∀ x i, i ≤ x → mnZ l x ≤ nAt l i
 | 0, i, h => by have : i = 0 := by omega
                 subst this; exact Int.le_refl _
 | x + 1, i, h => by
  show min (mnZ l x) (nAt l (x + 1)) ≤ _
  by_cases e : i = x + 1
  ·subst e; omega
  ·have := mn_le (l := l) x i (by omega); omega
theorem mt_at {n : Int} {s : D} (h : goodS n s) {a b : Nat} (hb : b < a) (ha : a < n.toNat) : ∃ i, i < (mtL n s).len ∧ nAt (mtL n s) i = mtS s s.len a b := by
 have hm := (mt_mem h (d := .int (mtS s s.len a b))).2 ⟨a, b, hb, ha, rfl⟩
 obtain ⟨i, hi, he⟩ := mem_nthD hm
 exact ⟨i, hi, by unfold nAt; rw [he]; rfl⟩
theorem mt_mx {n : Int} {s : D} (h : goodS n s) {a b : Nat} (hb : b < a) (ha : a < n.toNat) : mtS s s.len a b ≤ mxZ (mtL n s) (mtL n s).len := by
 obtain ⟨i, hi, he⟩ := mt_at h hb ha
 rw [← he]; exact mx_ge _ i hi
theorem mt_mn {n : Int} {s : D} (h : goodS n s) {a b : Nat} (hb : b < a) (ha : a < n.toNat) : leastZ (mtL n s) ≤ mtS s s.len a b := by
 obtain ⟨i, hi, he⟩ := mt_at h hb ha
 unfold leastZ
 rw [if_neg (by omega), ← he]
 exact mn_le _ i (by omega)
def sqL : List D → Int
 | [] => 0
 | d :: l => d.asInt * d.asInt + sqL l
theorem sqL_app : ∀ (a b : List D), sqL (a ++ b) = sqL a + sqL b
 | [], b => by show sqL b = 0 + sqL b; omega
 | d :: a, b => by show d.asInt * d.asInt + sqL (a ++ b) = d.asInt * d.asInt + sqL a + sqL b; rw [sqL_app a b]; omega
theorem sqSum_L (l : D) : ∀ x, x ≤ l.len → sqSum l x = sqL (l.asList.take x)
 | 0, _ => rfl
 | x + 1, hx => by
  show sqSum l x + nAt l x * nAt l x = _
  rw [sqSum_L l x (by omega), take_succ_nth (show x < l.asList.length from hx), sqL_app]
  show _ = _ + ((nthD l.asList x).asInt * (nthD l.asList x).asInt + 0)
  rw [Int.add_zero]; rfl
theorem sqL_hfR {m : Nat} {f : Nat → Nat → Int} {x : Nat} (hx : x < m) : ∀ y, y ≤ m → sqL (hfR (sqD m f) x y) = sR (fun a b => f a b * f a b) x y
 | 0, _ => rfl
 | y + 1, hy => by
  have ih := sqL_hfR (f := f) hx y (by omega)
  rw [hfR_sq hx (by omega)] at ih
  rw [hfR_sq hx hy, List.range_succ, List.map_append, sqL_app, ih]
  show _ + (f x y * f x y + 0) = _ + f x y * f x y
  rw [Int.add_zero]
theorem sqL_hfL {m : Nat} {f : Nat → Nat → Int} : ∀ x, x ≤ m → sqL (hfL (sqD m f) x) = sP (fun a b => f a b * f a b) x
 | 0, _ => rfl
 | x + 1, hx => by
  show sqL (hfL (sqD m f) x ++ hfR (sqD m f) x x) = sP _ x + sR _ x x
  rw [sqL_app, sqL_hfL x (by omega), sqL_hfR (by omega) x (by omega)]
theorem mt_sqs {n : Int} {s : D} (h : goodS n s) : sqSum (mtL n s) (mtL n s).len = sP (fun a b => mtS s s.len a b * mtS s s.len a b) n.toNat := by
 rw [sqSum_L _ _ (Nat.le_refl _)]
 show sqL (List.take (mtL n s).asList.length (mtL n s).asList) = _
 rw [List.take_length]
 unfold mtL
 rw [listD_list, (mt_sq h).eq, sqL_hfL _ (Nat.le_refl _)]
end Go.Ev

end

section
open Go.Proofs
namespace Go.Ev
set_option maxRecDepth 100000
set_option maxHeartbeats 4000000
theorem vc3p : ∀ (c w : D) (k : Int), symFun (ctxj pg1 pgAnn pgJoin) 4 (3 : FuncId) [V.dat (22 : TypeId) c, V.dat (23 : TypeId) w, V.int IntKind.u8 k] (V.prop True) = ((u8L c ∧ u8W w) ∧ ((szD c).len ≤ 1000 ∧ bigP (madeD
c w)) ∧ ((((chk (nD c) (szD c) (madeD c w)).fst = 0 → False) → False) → (((chk (nD c) (szD c) (madeD c w)).snd = 0 → False) → (false = true ↔ True)) ∧ ((((chk (nD c) (szD c) (madeD c w)).snd = 0 → False) → False) → ((21
: Int) = 0 → False) ∧ goodS (nD c) (madeD c w) ∧ (szD c).len ≤ 16777216 ∧ (((mxZ (mtL (nD c) (madeD c w)) (mtL (nD c) (madeD c w)).len < lmZ (nD c) (szD c) (↑(madeD c w).len : Int) → False) → (szD c).len ≤ 16777216 ∧
(meZ (nD c) (szD c) (IntKind.i64.wrap (k.tmod 21)) < (↑(madeD c w).len : Int) → ((mxZ (mtL (nD c) (madeD c w)) (mtL (nD c) (madeD c w)).len ≤ IntKind.i64.wrap (k.tmod 21) → False) → (0 < lmZ (nD c) (szD c) (↑(madeD c
w).len : Int) → fits64 (lmZ (nD c) (szD c) (↑(madeD c w).len : Int) - 1) ∧ (szD c).len ≤ 16777216 ∧ (((↑(madeD c w).len : Int) ≤ meZ (nD c) (szD c) (lmZ (nD c) (szD c) (↑(madeD c w).len : Int) - 1) → False) → (szD c).len
≤ 16777216 ∧ ∃ (x : Prop), (x → False) ∧ ((meZ (nD c) (szD c) (lmZ (nD c) (szD c) (↑(madeD c w).len : Int)) < (↑(madeD c w).len : Int) ↔ x) ∧ True) ∧ True) ∧ ((↑(madeD c w).len : Int) ≤ meZ (nD c) (szD c) (lmZ (nD c)
(szD c) (↑(madeD c w).len : Int) - 1) → ∃ (x : Prop), (x → False) ∧ ((true = true ↔ x) ∧ True) ∧ True)) ∧ ((0 < lmZ (nD c) (szD c) (↑(madeD c w).len : Int) → False) → (szD c).len ≤ 16777216 ∧ ∃ (x : Prop), (x → False) ∧
((meZ (nD c) (szD c) (lmZ (nD c) (szD c) (↑(madeD c w).len : Int)) < (↑(madeD c w).len : Int) ↔ x) ∧ True) ∧ True)) ∧ (mxZ (mtL (nD c) (madeD c w)) (mtL (nD c) (madeD c w)).len ≤ IntKind.i64.wrap (k.tmod 21) → ∃ (x :
Prop), (x → False) ∧ ((true = true ↔ x) ∧ True) ∧ True)) ∧ ((meZ (nD c) (szD c) (IntKind.i64.wrap (k.tmod 21)) < (↑(madeD c w).len : Int) → False) → (0 < lmZ (nD c) (szD c) (↑(madeD c w).len : Int) → fits64 (lmZ (nD c)
(szD c) (↑(madeD c w).len : Int) - 1) ∧ (szD c).len ≤ 16777216 ∧ (((↑(madeD c w).len : Int) ≤ meZ (nD c) (szD c) (lmZ (nD c) (szD c) (↑(madeD c w).len : Int) - 1) → False) → (szD c).len ≤ 16777216 ∧ ∃ (x : Prop), (x →
False) ∧ ((meZ (nD c) (szD c) (lmZ (nD c) (szD c) (↑(madeD c w).len : Int)) < (↑(madeD c w).len : Int) ↔ x) ∧ True) ∧ True) ∧ ((↑(madeD c w).len : Int) ≤ meZ (nD c) (szD c) (lmZ (nD c) (szD c) (↑(madeD c w).len : Int) -
1) → ∃ (x : Prop), (x → False) ∧ ((true = true ↔ x) ∧ True) ∧ True)) ∧ ((0 < lmZ (nD c) (szD c) (↑(madeD c w).len : Int) → False) → (szD c).len ≤ 16777216 ∧ ∃ (x : Prop), (x → False) ∧ ((meZ (nD c) (szD c) (lmZ (nD c)
(szD c) (↑(madeD c w).len : Int)) < (↑(madeD c w).len : Int) ↔ x) ∧ True) ∧ True))) ∧ (mxZ (mtL (nD c) (madeD c w)) (mtL (nD c) (madeD c w)).len < lmZ (nD c) (szD c) (↑(madeD c w).len : Int) → ∃ (x : Prop), (x → False) ∧
((true = true ↔ x) ∧ True) ∧ True)) ∧ ∀ (x : Prop), (x → False) → (x → (false = true ↔ True)) ∧ ((x → False) → (goodS (nD c) (madeD c w) ∧ ∃ (x : D), x = D.list (pqS (zrL (nD c).toNat (nD c).toNat) (madeD c w) (madeD c
w).len) ∧ (D.list (pqS (zrL (nD c).toNat (nD c).toNat) (madeD c w) (madeD c w).len) = x ∧ True) ∧ True) ∧ ∀ (x : D), x = D.list (pqS (zrL (nD c).toNat (nD c).toNat) (madeD c w) (madeD c w).len) → (((x.len : Int) = nD c →
False) → (false = true ↔ True)) ∧ ((((x.len : Int) = nD c → False) → False) → (∃ (x : Nat), x.le (szD c).len ∧ (0 = (x : Int) ∧ 0 = pzS (szD c) x ∧ True) ∧ True) ∧ ∀ (x_1 : Nat), x_1.le (szD c).len → (szD c).len - x_1 <
LIM ∧ ((x_1 : Int) < (↑(szD c).len : Int) → 0 ≤ (x_1 : Int) ∧ (x_1 : Int) < (↑(szD c).len : Int) ∧ fits64 (nAt (szD c) x_1 - 1) ∧ fits64 (nAt (szD c) x_1 * (nAt (szD c) x_1 - 1)) ∧ fits64 (pzS (szD c) x_1 + nAt (szD c)
x_1 * (nAt (szD c) x_1 - 1)) ∧ fits64 ((x_1 : Int) + 1) ∧ ∃ (y : Nat), y.le (szD c).len ∧ (szD c).len - y < (szD c).len - x_1 ∧ ((x_1 : Int) + 1 = (y : Int) ∧ pzS (szD c) x_1 + nAt (szD c) x_1 * (nAt (szD c) x_1 - 1) =
pzS (szD c) y ∧ True) ∧ True) ∧ (((x_1 : Int) < (↑(szD c).len : Int) → False) → (∃ (x_2 : Nat), x_2.le x.len ∧ (0 = (x_2 : Int) ∧ 0 = alS x x_2 ∧ 0 = alQ x x_2 ∧ True) ∧ True) ∧ ∀ (x_2 : Nat), x_2.le x.len → x.len - x_2
< LIM ∧ ((x_2 : Int) < (x.len : Int) → 0 ≤ (x_2 : Int) ∧ (x_2 : Int) < (x.len : Int) ∧ ((((↑(el x x_2).len : Int) = nD c → False) → False) → 0 ≤ (x_2 : Int) ∧ (x_2 : Int) < (↑(el x x_2).len : Int) ∧ ((nAt (el x x_2) x_2
= 0 → False) → (false = true ↔ True)) ∧ (((nAt (el x x_2) x_2 = 0 → False) → False) → (∃ (x_3 : Nat), x_3.le (el x x_2).len ∧ (0 = (x_3 : Int) ∧ alS x x_2 = alS x x_2 + rwS x x_2 x_3 ∧ alQ x x_2 = alQ x x_2 + rwQ x x_2
x_3 ∧ True) ∧ True) ∧ ∀ (x_3 : Nat), x_3.le (el x x_2).len → (el x x_2).len - x_3 < LIM ∧ ((x_3 : Int) < (↑(el x x_2).len : Int) → 0 ≤ (x_3 : Int) ∧ (x_3 : Int) < (↑(el x x_2).len : Int) ∧ 0 ≤ (x_3 : Int) ∧ (x_3 : Int) <
(x.len : Int) ∧ 0 ≤ (x_2 : Int) ∧ (x_2 : Int) < (↑(el x x_3).len : Int) ∧ (((nAt (el x x_2) x_3 = nAt (el x x_3) x_2 → False) → False) → ((mxZ (mtL (nD c) (madeD c w)) (mtL (nD c) (madeD c w)).len < nAt (el x x_2) x_3 →
False) → (((x_2 : Int) = (x_3 : Int) → False) → goodS (nD c) (madeD c w) ∧ ((nAt (el x x_2) x_3 < leastZ (mtL (nD c) (madeD c w)) → False) → goodS (nD c) (madeD c w) ∧ (((↑(togD (madeD c w) (x_2 : Int) (x_3 : Int)).len :
Int) = nAt (el x x_2) x_3 → False) → (false = true ↔ True)) ∧ ((((↑(togD (madeD c w) (x_2 : Int) (x_3 : Int)).len : Int) = nAt (el x x_2) x_3 → False) → False) → fits64 (alS x x_2 + rwS x x_2 x_3 + nAt (el x x_2) x_3) ∧
fits64 (nAt (el x x_2) x_3 * nAt (el x x_2) x_3) ∧ fits64 (alQ x x_2 + rwQ x x_2 x_3 + nAt (el x x_2) x_3 * nAt (el x x_2) x_3) ∧ fits64 ((x_3 : Int) + 1) ∧ ∃ (y : Nat), y.le (el x x_2).len ∧ (el x x_2).len - y < (el x
x_2).len - x_3 ∧ ((x_3 : Int) + 1 = (y : Int) ∧ alS x x_2 + rwS x x_2 x_3 + nAt (el x x_2) x_3 = alS x x_2 + rwS x x_2 y ∧ alQ x x_2 + rwQ x x_2 x_3 + nAt (el x x_2) x_3 * nAt (el x x_2) x_3 = alQ x x_2 + rwQ x x_2 y ∧
True) ∧ True)) ∧ (nAt (el x x_2) x_3 < leastZ (mtL (nD c) (madeD c w)) → (false = true ↔ True))) ∧ ((((x_2 : Int) = (x_3 : Int) → False) → False) → fits64 (alS x x_2 + rwS x x_2 x_3 + nAt (el x x_2) x_3) ∧ fits64 (nAt
(el x x_2) x_3 * nAt (el x x_2) x_3) ∧ fits64 (alQ x x_2 + rwQ x x_2 x_3 + nAt (el x x_2) x_3 * nAt (el x x_2) x_3) ∧ fits64 ((x_3 : Int) + 1) ∧ ∃ (y : Nat), y.le (el x x_2).len ∧ (el x x_2).len - y < (el x x_2).len -
x_3 ∧ ((x_3 : Int) + 1 = (y : Int) ∧ alS x x_2 + rwS x x_2 x_3 + nAt (el x x_2) x_3 = alS x x_2 + rwS x x_2 y ∧ alQ x x_2 + rwQ x x_2 x_3 + nAt (el x x_2) x_3 * nAt (el x x_2) x_3 = alQ x x_2 + rwQ x x_2 y ∧ True) ∧
True)) ∧ (mxZ (mtL (nD c) (madeD c w)) (mtL (nD c) (madeD c w)).len < nAt (el x x_2) x_3 → (false = true ↔ True))) ∧ ((nAt (el x x_2) x_3 = nAt (el x x_3) x_2 → False) → (false = true ↔ True))) ∧ (((x_3 : Int) < (↑(el x
x_2).len : Int) → False) → fits64 ((x_2 : Int) + 1) ∧ ∃ (y : Nat), y.le x.len ∧ x.len - y < x.len - x_2 ∧ ((x_2 : Int) + 1 = (y : Int) ∧ alS x x_2 + rwS x x_2 x_3 = alS x y ∧ alQ x x_2 + rwQ x x_2 x_3 = alQ x y ∧ True) ∧
True))) ∧ (((↑(el x x_2).len : Int) = nD c → False) → (false = true ↔ True))) ∧ (((x_2 : Int) < (x.len : Int) → False) → fits64 (pzS (szD c) x_1 * (↑(madeD c w).len : Int)) ∧ (alS x x_2 = pzS (szD c) x_1 * (↑(madeD c
w).len : Int) → goodS (nD c) (madeD c w) ∧ fits64 (2 * sqSum (mtL (nD c) (madeD c w)) (mtL (nD c) (madeD c w)).len) ∧ (alQ x x_2 = 2 * sqSum (mtL (nD c) (madeD c w)) (mtL (nD c) (madeD c w)).len → (true = true ↔ True)) ∧
((alQ x x_2 = 2 * sqSum (mtL (nD c) (madeD c w)) (mtL (nD c) (madeD c w)).len → False) → (false = true ↔ True))) ∧ ((alS x x_2 = pzS (szD c) x_1 * (↑(madeD c w).len : Int) → False) → (false = true ↔ True)))))))) ∧ (((chk
(nD c) (szD c) (madeD c w)).fst = 0 → False) → (false = true ↔ True))) := by intros; kernel_rfl
theorem cnt_perm {l l' : List D} (p : l.Perm l') (x : Int) : cntF l x = cntF l' x := by
 induction p with
 | nil => rfl
 | cons a _ ih => rw [cntF_cons, cntF_cons, ih]
 | swap a b l => rw [cntF_cons, cntF_cons, cntF_cons, cntF_cons]; omega
 | trans _ _ h1 h2 => exact h1.trans h2
theorem cnt_id (x : Int) : ∀ m : Nat, cntF (idL m) x = if 0 ≤ x ∧ x < m then 1 else 0
 | 0 => by rw [if_neg (by omega)]; rfl
 | m + 1 => by
  rw [← id_succ, cntF_app, cnt_id x m]
  show _ + (0 + if (m : Int) = x then 1 else 0) = _
  by_cases h1 : (m : Int) = x
  ·rw [if_pos h1, if_neg (by omega), if_pos (by omega)]; rfl
  ·rw [if_neg h1]
   by_cases h2 : 0 ≤ x ∧ x < m
   ·rw [if_pos h2, if_pos (by omega)]; rfl
   ·rw [if_neg h2, if_neg (by omega)]; rfl
theorem flat_map (ev : D) : ∀ n, n ≤ ev.len → flatL ev n = ((ev.asList.take n).map D.asList).flatten
 | 0, _ => rfl
 | n + 1, h => by
  show flatL ev n ++ (el ev n).asList = _
  rw [flat_map ev n (by omega), take_succ_nth (show n < ev.asList.length from h), List.map_append, List.flatten_append]
  show _ = _ ++ ([(nthD ev.asList n).asList].flatten)
  simp [el]
theorem scan_zero {n : Int} {sz s : D} : ∀ f i, (∀ k, i ≤ k → k < i + f → errE n sz (el s k) = 0) → scanK n sz s f i = (0, 0)
 | 0, _, _ => rfl
 | f + 1, i, h => by
  unfold scanK
  rw [if_neg (fun hne => hne (h i (Nat.le_refl _) (by omega)))]
  exact scan_zero f (i + 1) fun k h1 h2 => h k (by omega) (by omega)
theorem off_sum (sz : D) : ∀ x, offZ sz x = sumZ sz x
 | 0 => rfl
 | x + 1 => by show offZ sz x + nAt sz x = sumZ sz x + nAt sz x; rw [off_sum sz x]
structure pigF (n : Int) (sz s : D) : Prop where
 good : goodS n s
 ok : okS n sz
 chk1 : chk n sz s = (0, 0)
 tab : ∀ i, i < s.len → (el s i).len = sz.len ∧ ∀ j, j < sz.len → ((el (el s i) j).len : Int) = nAt sz j
theorem made_pig {c w : D} (hc : u8L c) (hw : u8W w) : pigF (nD c) (szD c) (madeD c w) := by
 have hz := sz_p hc
 have hn := hz.n1
 have hml := made_len c w
 have h10 := sub10_len w
 have hevl : ∀ i, i < (madeD c w).len → (el (madeD c w) i).len = (szD c).len := fun i hi => by
  rw [made_el hi]; exact tab_len _ _ _
 have hl1 := hz.l1
 have hfit : fitP (nD c) (szD c) := ⟨fun i hi => (hz.at1 i hi).1, by rw [← off_sum, hz.all]⟩
 have hev : ∀ sz, (0 < sz.len → sz = szD c) → ∀ i, i < (madeD c w).len → errE (nD c) sz (el (madeD c w) i) = 0 := fun sz hsz i hi => by
  have h1 : ¬ emptyP (el (madeD c w) i) := fun ⟨j, hj, h0⟩ => by
   have h2 := made_tab (w := w) hc hi (j := j) (by rw [hevl i hi] at hj; exact hj)
   have h3 := hz.at1 j (by rw [hevl i hi] at hj; exact hj)
   omega
  rw [errE_g (n := nD c) (sz := sz) h1 (fun h => by
   rw [hsz h]
   exact ⟨hevl i hi, fun j hj => made_tab (w := w) hc hi (by rw [hevl i hi] at hj; exact hj)⟩)]
  have hp := made_flat hc hw hi
  have hf := flat_map (el (madeD c w) i) _ (Nat.le_refl _)
  rw [show (el (madeD c w) i).asList.take (el (madeD c w) i).len = (el (madeD c w) i).asList from List.take_length] at hf
  rw [← hf] at hp
  refine errG_0 (fun ⟨a, ha, hna⟩ => hna ?_) (fun v hv => ?_) (fun v hv => ?_)
  ·obtain ⟨k, hk, rfl⟩ := List.mem_map.1 (hp.mem_iff.1 ha)
   have hk := List.mem_range.1 hk
   show 0 ≤ (k : Int) ∧ (k : Int) < nD c
   omega
  ·rw [cnt_perm hp, cnt_id]; split <;> omega
  ·rw [cnt_perm hp, cnt_id, if_pos (by omega)]; decide
 have hbig : bigP (madeD c w) := ⟨by omega, fun i hi => ⟨by rw [hevl i hi]; omega, fun j hj => by
  have h2 := made_tab (w := w) hc hi (j := j) (by rw [hevl i hi] at hj; exact hj)
  have h3 := hz.at1 j (by rw [hevl i hi] at hj; exact hj)
  omega⟩⟩
 refine ⟨⟨⟨by omega, by omega⟩, hbig, ?_⟩, ⟨by omega, by omega, hfit⟩, ?_, fun i hi => ⟨hevl i hi, fun j hj => made_tab (w := w) hc hi hj⟩⟩
 ·unfold chk
  rw [if_neg (fun h => by rcases h with h | h; exact h ⟨by omega, by omega⟩; exact absurd h.1 (Nat.lt_irrefl 0)), if_neg (by omega)]
  exact scan_zero _ _ fun k _ hk => hev .nil (fun h => absurd h (Nat.lt_irrefl 0)) k (by omega)
 ·unfold chk
  rw [if_neg (fun h => by rcases h with h | h; exact h ⟨by omega, by omega⟩; exact h.2 hfit), if_neg (by omega)]
  exact scan_zero _ _ fun k _ hk => hev _ (fun _ => rfl) k (by omega)
section
variable {n : Int} {sz s : D}
theorem pig_M (h : pigF n sz s) : 0 ≤ triS sz sz.len := (ok_tri h.ok).1.1
theorem pig_A (h : pigF n sz s) : 0 ≤ triZ n ∧ triZ n ≤ 2016 := (ok_tri h.ok).2.1
theorem pig_L (h : pigF n sz s) : s.len ≤ 64 := good_lim h.good
theorem pig_tr (h : pigF n sz s) : ∀ i, i < s.len → trE (el s i) (el s i).len = triS sz sz.len := fun i hi => by
 rw [(h.tab i hi).1]; exact trE_sz (h.tab i hi).2 _ (Nat.le_refl _)
theorem pig_sum (h : pigF n sz s) : sP (mtS s s.len) n.toNat = (s.len : Nat) * triS sz sz.len := sP_mtS h.good (pig_tr h) _ (Nat.le_refl _)
theorem pig_toNat (h : pigF n sz s) : ((n.toNat : Nat) : Int) = n := by have := h.good.n1; omega
theorem pig_mx (h : pigF n sz s) : (s.len : Nat) * triS sz sz.len ≤ mxZ (mtL n s) (mtL n s).len * triZ n := by
 have := sP_le (f := mtS s s.len) (m := mxZ (mtL n s) (mtL n s).len) n.toNat fun a b h1 h2 => mt_mx h.good h1 h2
 rw [pig_sum h, pig_toNat h] at this
 exact this
theorem pig_MA (h : pigF n sz s) (hL : 0 < s.len) : triS sz sz.len ≤ triZ n := by
 have hn := h.good.n1
 have := sP_le (f := mtE (el s 0) (el s 0).len) (m := 1) n.toNat fun a b h1 h2 => by
  rcases mtE_good h.good hL (a := a) (b := b) (by omega) (by omega) (by omega) with ⟨q, _⟩ | ⟨q, _⟩ <;> omega
 rw [sP_mtE h.good hL _ (Nat.le_refl _), pig_tr h 0 hL, pig_toNat h, Int.one_mul] at this
 exact this
theorem lm_spec (h : pigF n sz s) : 0 ≤ lmZ n sz (s.len : Nat) ∧ (s.len : Nat) * triS sz sz.len ≤ lmZ n sz (s.len : Nat) * triZ n ∧ (lmZ n sz (s.len : Nat) = 0 ∨ (1 ≤ lmZ n sz (s.len : Nat) ∧ 0 < triS sz sz.len ∧ 0 < s.len ∧ (lmZ n sz (s.len : Nat) - 1) * triZ n < (s.len : Nat) * triS sz sz.len)) := by
 have hM := pig_M h
 have hA := pig_A h
 have hL := pig_L h
 by_cases h0 : ((s.len : Nat) : Int) < 1 ∨ triS sz sz.len = 0
 ·rw [← lm_zero (n := n) (l := sz) (e := (s.len : Nat)) (h0.elim (fun k => .inr (.inl k)) (fun k => .inr (.inr k)))]
  refine ⟨Int.le_refl _, ?_, .inl rfl⟩
  rw [Int.zero_mul]
  rcases h0 with k | k
  ·rw [show ((s.len : Nat) : Int) = 0 by omega, Int.zero_mul]; exact Int.le_refl _
  ·rw [k, Int.mul_zero]; exact Int.le_refl _
 ·have h1 : ¬ ((s.len : Nat) : Int) < 1 := fun k => h0 (.inl k)
  have h2 : triS sz sz.len ≠ 0 := fun k => h0 (.inr k)
  have hA1 := (ok_tri h.ok).2.2 h2
  rw [lm_some h.ok h1 h2, show min ((s.len : Nat) : Int) 64 = (s.len : Nat) by omega]
  have hX : 1 ≤ (s.len : Nat) * triS sz sz.len := by
   have := Int.mul_le_mul (show (1 : Int) ≤ (s.len : Nat) by omega) (show (1 : Int) ≤ triS sz sz.len by omega) (by omega) (by omega)
   omega
  generalize ((s.len : Nat) : Int) * triS sz sz.len = X at hX ⊢
  generalize triZ n = A at hA1 hA ⊢
  rw [Int.tdiv_eq_ediv_of_nonneg (by omega)]
  have hd := Int.mul_ediv_add_emod (X + A - 1) A
  have hr := Int.emod_lt_of_pos (X + A - 1) (show 0 < A by omega)
  have hr0 := Int.emod_nonneg (X + A - 1) (show A ≠ 0 by omega)
  have hq1 : 1 ≤ (X + A - 1) / A := (Int.le_ediv_iff_mul_le (show 0 < A by omega)).2 (by omega)
  generalize (X + A - 1) / A = q at hd hq1 ⊢
  rw [Int.mul_comm A q] at hd
  refine ⟨by omega, by omega, .inr ⟨hq1, by omega, by omega, ?_⟩⟩
  rw [Int.sub_mul]; omega
theorem me_spec (h : pigF n sz s) {k : Int} (hk : 0 ≤ k) : (triS sz sz.len = 0 ∧ meZ n sz k = 64) ∨ (0 < triS sz sz.len ∧ meZ n sz k = min ((min k 64 * triZ n) / triS sz sz.len) 64) := by
 have hM := pig_M h
 have hA := pig_A h
 by_cases h2 : triS sz sz.len = 0
 ·exact .inl ⟨h2, me_full h.ok (by omega) h2⟩
 ·refine .inr ⟨by omega, ?_⟩
  rw [me_some h.ok (by omega) h2, Int.tdiv_eq_ediv_of_nonneg (Int.mul_nonneg (by omega) hA.1)]
theorem pig_b1 (h : pigF n sz s) : ¬ mxZ (mtL n s) (mtL n s).len < lmZ n sz (s.len : Nat) := fun hlt => by
 have hm := pig_mx h
 have hn := mx_nn (mtL n s) (mtL n s).len
 have hA := pig_A h
 obtain ⟨_, _, h0 | ⟨h1, _, _, h2⟩⟩ := lm_spec h
 ·omega
 ·have := Int.mul_le_mul_of_nonneg_right (show mxZ (mtL n s) (mtL n s).len ≤ lmZ n sz (s.len : Nat) - 1 by omega) hA.1
  omega
theorem pig_b2 (h : pigF n sz s) {k : Int} (hk0 : 0 ≤ k) (hk : k ≤ 20) (h1 : meZ n sz k < (s.len : Nat)) : ¬ mxZ (mtL n s) (mtL n s).len ≤ k := fun h2 => by
 have hm := pig_mx h
 have hA := pig_A h
 have hL := pig_L h
 rcases me_spec h hk0 with ⟨_, e⟩ | ⟨hM, e⟩
 ·omega
 ·rw [e, show min k 64 = k by omega] at h1
  have h3 : (k * triZ n) / triS sz sz.len < (s.len : Nat) := by omega
  have h4 := (Int.ediv_lt_iff_lt_mul hM).1 h3
  have h5 := Int.mul_le_mul_of_nonneg_right h2 hA.1
  omega
theorem pig_b3 (h : pigF n sz s) (h0 : 0 < lmZ n sz (s.len : Nat)) : ¬ ((s.len : Nat) : Int) ≤ meZ n sz (lmZ n sz (s.len : Nat) - 1) := fun h1 => by
 have hA := pig_A h
 obtain ⟨_, _, hz | ⟨_, hM, _, h2⟩⟩ := lm_spec h
 ·omega
 ·rcases me_spec h (k := lmZ n sz (s.len : Nat) - 1) (by omega) with ⟨e, _⟩ | ⟨_, e⟩
  ·omega
  ·rw [e] at h1
   have h3 := (Int.le_ediv_iff_mul_le hM).1 (show ((s.len : Nat) : Int) ≤ (min (lmZ n sz (s.len : Nat) - 1) 64 * triZ n) / triS sz sz.len by omega)
   have h5 := Int.mul_le_mul_of_nonneg_right (show min (lmZ n sz (s.len : Nat) - 1) 64 ≤ lmZ n sz (s.len : Nat) - 1 by omega) hA.1
   omega
theorem pig_b4 (h : pigF n sz s) : ¬ meZ n sz (lmZ n sz (s.len : Nat)) < (s.len : Nat) := fun h1 => by
 have hA := pig_A h
 have hL := pig_L h
 have hM0 := pig_M h
 obtain ⟨hb0, hb1, hb⟩ := lm_spec h
 rcases me_spec h hb0 with ⟨_, e⟩ | ⟨hM, e⟩
 ·omega
 ·rw [e] at h1
  have hd : 0 ≤ (min (lmZ n sz (s.len : Nat)) 64 * triZ n) / triS sz sz.len := Int.ediv_nonneg (Int.mul_nonneg (by omega) hA.1) hM0
  have hpos : 0 < s.len := by omega
  have hMA := pig_MA h hpos
  have h64 : lmZ n sz (s.len : Nat) ≤ 64 := by
   rcases hb with hz | ⟨_, _, _, h2⟩
   ·omega
   ·have h3 := Int.mul_le_mul_of_nonneg_left hMA (show (0 : Int) ≤ (s.len : Nat) by omega)
    have h4 : (lmZ n sz (s.len : Nat) - 1) * triZ n < (s.len : Nat) * triZ n := by omega
    have h5 := Int.lt_of_mul_lt_mul_right h4 hA.1
    omega
  rw [show min (lmZ n sz (s.len : Nat)) 64 = lmZ n sz (s.len : Nat) by omega] at h1
  have h3 := (Int.le_ediv_iff_mul_le hM).2 hb1
  omega
theorem mtI_diag {t : D} (hd : ∀ p q, p < q → q < t.len → nAt t p ≠ nAt t q) {i : Nat} (hi : i < t.len) (a : Nat) : ∀ j, j ≤ i → mtI t i j a a = 0
 | 0, _ => rfl
 | j + 1, hj => by
  have hne := hd j i (by omega) hi
  show mtI t i j a a + indN (nAt t j) (nAt t i) a a = 0
  rw [mtI_diag hd hi a j (by omega)]
  unfold indN
  rw [if_neg (by omega), if_neg (by omega)]; rfl
theorem mtN_diag {t : D} (hd : ∀ p q, p < q → q < t.len → nAt t p ≠ nAt t q) (a : Nat) : ∀ i, i ≤ t.len → mtN t i a a = 0
 | 0, _ => rfl
 | i + 1, hi => by show mtN t i a a + mtI t i i a a = 0; rw [mtN_diag hd a i (by omega), mtI_diag hd (by omega) a i (Nat.le_refl _)]; rfl
theorem mtE_diag (h : goodS n s) {i : Nat} (hi : i < s.len) (a : Nat) : ∀ j, j ≤ (el s i).len → mtE (el s i) j a a = 0
 | 0, _ => rfl
 | j + 1, hj => by
  show mtE (el s i) j a a + mtN (el (el s i) j) (el (el s i) j).len a a = 0
  rw [mtE_diag h hi a j (by omega), mtN_diag (fun p q hpq hq => good_ne h hi (show j < (el s i).len by omega) hpq hq) a _ (Nat.le_refl _)]; rfl
theorem mtS_diag (h : goodS n s) (a : Nat) : ∀ x, x ≤ s.len → mtS s x a a = 0
 | 0, _ => rfl
 | x + 1, hx => by
  show mtS s x a a + mtE (el s x) (el s x).len a a = 0
  rw [mtS_diag h a x (by omega), mtE_diag h (show x < s.len by omega) a _ (Nat.le_refl _)]; rfl
theorem f_rng (h : goodS n s) {a b : Nat} (ha : a < n.toNat) (hb : b < n.toNat) : 0 ≤ mtS s s.len a b ∧ mtS s s.len a b ≤ 64 := by
 have hL := good_lim h
 have hn := h.n1
 by_cases e : a = b
 ·subst e; rw [mtS_diag h a _ (Nat.le_refl _)]; omega
 ·have := mtS_rng h e (by omega) (by omega) s.len (Nat.le_refl _)
  omega
end
theorem sq_el {m : Nat} {f : Nat → Nat → Int} {x : Nat} (hx : x < m) : el (.list (sqD m f)) x = .list (rowF m f x) := sqD_at f hx
theorem sq_nAt {m : Nat} {f : Nat → Nat → Int} {x y : Nat} (hx : x < m) (hy : y < m) : nAt (el (.list (sqD m f)) x) y = f x y := by
 rw [sq_el hx]; unfold nAt; show (nthD (rowF m f x) y).asInt = _; rw [rowF_at f x hy]; rfl
theorem sq_len {m : Nat} {f : Nat → Nat → Int} {x : Nat} (hx : x < m) : (el (.list (sqD m f)) x).len = m := by rw [sq_el hx]; exact rowF_len m f x
theorem rwS_sq {m : Nat} {f : Nat → Nat → Int} {x : Nat} (hx : x < m) : ∀ y, y ≤ m → rwS (.list (sqD m f)) x y = sR f x y
 | 0, _ => rfl
 | y + 1, hy => by show rwS _ x y + nAt (el _ x) y = sR f x y + f x y; rw [rwS_sq hx y (by omega), sq_nAt hx (by omega)]
theorem rwQ_sq {m : Nat} {f : Nat → Nat → Int} {x : Nat} (hx : x < m) : ∀ y, y ≤ m → rwQ (.list (sqD m f)) x y = sR (fun a b => f a b * f a b) x y
 | 0, _ => rfl
 | y + 1, hy => by show rwQ _ x y + nAt (el _ x) y * nAt (el _ x) y = sR _ x y + f x y * f x y; rw [rwQ_sq hx y (by omega), sq_nAt hx (by omega)]
theorem alS_sq {m : Nat} {f : Nat → Nat → Int} : ∀ x, x ≤ m → alS (.list (sqD m f)) x = s2 f m x
 | 0, _ => rfl
 | x + 1, hx => by show alS _ x + rwS _ x (el _ x).len = s2 f m x + sR f x m; rw [alS_sq x (by omega), sq_len (by omega), rwS_sq (by omega) m (Nat.le_refl _)]
theorem alQ_sq {m : Nat} {f : Nat → Nat → Int} : ∀ x, x ≤ m → alQ (.list (sqD m f)) x = s2 (fun a b => f a b * f a b) m x
 | 0, _ => rfl
 | x + 1, hx => by show alQ _ x + rwQ _ x (el _ x).len = s2 _ m x + sR _ x m; rw [alQ_sq x (by omega), sq_len (by omega), rwQ_sq (by omega) m (Nat.le_refl _)]
theorem sR_rng {f : Nat → Nat → Int} {K : Int} {x : Nat} : ∀ y, (∀ b, b < y → 0 ≤ f x b ∧ f x b ≤ K) → 0 ≤ sR f x y ∧ sR f x y ≤ K * (y : Nat)
 | 0, _ => ⟨Int.le_refl _, by show (0 : Int) ≤ K * 0; omega⟩
 | y + 1, h => by
  have ih := sR_rng y fun b hb => h b (by omega)
  have := h y (by omega)
  show 0 ≤ sR f x y + f x y ∧ sR f x y + f x y ≤ _
  rw [Int.natCast_add, Int.mul_add]; simp; omega
theorem s2_rng {f : Nat → Nat → Int} {K B : Int} {m : Nat} (hB : K * (m : Nat) ≤ B) : ∀ x, (∀ a b, a < x → b < m → 0 ≤ f a b ∧ f a b ≤ K) → 0 ≤ s2 f m x ∧ s2 f m x ≤ B * (x : Nat)
 | 0, _ => ⟨Int.le_refl _, by show (0 : Int) ≤ B * 0; omega⟩
 | x + 1, h => by
  have ih := s2_rng hB x fun a b ha hb => h a b (by omega) hb
  have := sR_rng (f := f) (K := K) (x := x) m fun b hb => h x b (by omega) hb
  show 0 ≤ s2 f m x + sR f x m ∧ s2 f m x + sR f x m ≤ _
  rw [Int.natCast_add, Int.mul_add]; simp; omega
theorem tri_two : ∀ k : Nat, 1 ≤ k → 2 * triZ (k : Int) = (k : Int) * ((k : Int) - 1)
 | 1, _ => rfl
 | k + 2, _ => by
  have ih := tri_two (k + 1) (by omega)
  rw [show ((k + 2 : Nat) : Int) = ((k + 1 : Nat) : Int) + 1 by omega, tri_succ (by omega), Int.mul_add, ih]
  generalize ((k + 1 : Nat) : Int) = j
  rw [show j + 1 - 1 = j by omega, Int.mul_sub, Int.add_mul, Int.mul_one, Int.one_mul]; omega
theorem pz_tri {sz : D} (h : ∀ i, i < sz.len → 1 ≤ nAt sz i ∧ nAt sz i ≤ 64) : ∀ x, x ≤ sz.len → pzS sz x = 2 * triS sz x
 | 0, _ => rfl
 | x + 1, hx => by
  have hr := h x (by omega)
  have := tri_two (nAt sz x).toNat (by omega)
  rw [show (((nAt sz x).toNat : Nat) : Int) = nAt sz x by omega] at this
  show pzS sz x + nAt sz x * (nAt sz x - 1) = 2 * (triS sz x + triZ (nAt sz x))
  rw [pz_tri h x (by omega), Int.mul_add, this]
theorem tt : (true = true ↔ True) := ⟨fun _ => trivial, fun _ => rfl⟩
theorem sl3p (c w : D) (k : Int) (hc : u8L c) (hw : u8W w) (hk0 : 0 ≤ k) (hk1 : k < 256) : symFun (ctxj pg1 pgAnn pgJoin) 4 3 [.dat 22 c, .dat 23 w, .int .u8 k] (.prop True) := by
 rw [vc3p]
 have hp := made_pig hc hw
 have hmod : IntKind.i64.wrap (k.tmod 21) = k % 21 := by
  rw [Int.tmod_eq_emod_of_nonneg hk0]
  exact IntWalk.i64_in _ ⟨by omega, by omega⟩
 rw [hmod]
 have hkr : 0 ≤ k % 21 ∧ k % 21 ≤ 20 := by omega
 generalize k % 21 = K at hkr ⊢
 refine ⟨⟨hc, hw⟩, ?_⟩
 generalize madeD c w = s at hp ⊢
 generalize szD c = sz at hp ⊢
 generalize nD c = n at hp ⊢
 have hg := hp.good
 have hn := hg.n1
 have hsl := (ok_siz hp.ok).1
 have hsr := (ok_siz hp.ok).2
 have hbw := lm_spec hp
 have b4 := pig_b4 hp
 have hend : ∃ x : Prop, (x → False) ∧ ((meZ n sz (lmZ n sz (s.len : Nat)) < ((s.len : Nat) : Int) ↔ x) ∧ True) ∧ True := ⟨False, fun h => h, ⟨⟨fun h => b4 h, fun h => h.elim⟩, trivial⟩, trivial⟩
 have hlm : lmZ n sz (s.len : Nat) ≤ 100000 := by
  have hA := pig_A hp
  rcases hbw.2.2 with hz | ⟨h1, h2, h3, h4⟩
  ·omega
  ·have hMA := pig_MA hp h3
   have hL := pig_L hp
   have h5 := Int.mul_le_mul_of_nonneg_left hMA (show (0 : Int) ≤ (s.len : Nat) by omega)
   have h6 : (lmZ n sz (s.len : Nat) - 1) * triZ n < (s.len : Nat) * triZ n := by omega
   have h7 := Int.lt_of_mul_lt_mul_right h6 hA.1
   omega
 have hmid : (0 < lmZ n sz (s.len : Nat) → ((-9223372036854775808 : Int) ≤ lmZ n sz (s.len : Nat) - 1 ∧ lmZ n sz (s.len : Nat) - 1 < 9223372036854775808) ∧ sz.len ≤ 16777216 ∧ ((((s.len : Nat) : Int) ≤ meZ n sz (lmZ n sz (s.len : Nat) - 1) → False) → sz.len ≤ 16777216 ∧ ∃ x : Prop, (x → False) ∧ ((meZ n sz (lmZ n sz (s.len : Nat)) < ((s.len : Nat) : Int) ↔ x) ∧ True) ∧ True) ∧ (((s.len : Nat) : Int) ≤ meZ n sz (lmZ n sz (s.len : Nat) - 1) → ∃ x : Prop, (x → False) ∧ ((true = true ↔ x) ∧ True) ∧ True)) ∧ ((0 < lmZ n sz (s.len : Nat) → False) → sz.len ≤ 16777216 ∧ ∃ x : Prop, (x → False) ∧ ((meZ n sz (lmZ n sz (s.len : Nat)) < ((s.len : Nat) : Int) ↔ x) ∧ True) ∧ True) :=
  ⟨fun h0 => ⟨⟨by omega, by omega⟩, by omega, fun _ => ⟨by omega, hend⟩, fun h1 => (pig_b3 hp h0 h1).elim⟩, fun _ => ⟨by omega, hend⟩⟩
 have hc1 := hp.chk1
 refine ⟨⟨by omega, hg.big⟩, fun _ => ⟨fun h => (h (by rw [hc1])).elim, fun _ => ⟨fun h => by omega, hg, by omega, ⟨fun _ => ⟨by omega, fun h1 => ⟨fun _ => hmid, fun h2 => (pig_b2 hp hkr.1 hkr.2 h1 h2).elim⟩, fun _ => hmid⟩, fun h1 => (pig_b1 hp h1).elim⟩, ?_⟩⟩, fun h => (h (by rw [hc1])).elim⟩
 refine fun x hx => ⟨fun h => (hx h).elim, fun _ => ⟨⟨hg, _, rfl, ⟨rfl, trivial⟩, trivial⟩, fun q hq => ?_⟩⟩
 rw [(mt_sq hg).eq] at hq
 subst hq
 have hS := pig_sum hp
 have hL := pig_L hp
 have hsq := mt_sqs hg
 have hF : ∀ a b, a < n.toNat → b < n.toNat → 0 ≤ mtS s s.len a b ∧ mtS s s.len a b ≤ 64 := fun a b ha hb => f_rng hg ha hb
 have hsym : ∀ a b, mtS s s.len a b = mtS s s.len b a := fun a b => mtS_sym s a b _
 have hdg : ∀ a, mtS s s.len a a = 0 := fun a => mtS_diag hg a _ (Nat.le_refl _)
 have hmx : ∀ a b, a < n.toNat → b < n.toNat → mtS s s.len a b ≤ mxZ (mtL n s) (mtL n s).len := fun a b ha hb => by
  rcases Nat.lt_trichotomy a b with h | h | h
  ·rw [hsym]; exact mt_mx hg h hb
  ·subst h; rw [hdg]; exact mx_nn _ _
  ·exact mt_mx hg h ha
 have hmn : ∀ a b, a ≠ b → a < n.toNat → b < n.toNat → leastZ (mtL n s) ≤ mtS s s.len a b := fun a b hab ha hb => by
  rcases Nat.lt_trichotomy a b with h | h | h
  ·rw [hsym]; exact mt_mn hg h hb
  ·exact absurd h hab
  ·exact mt_mn hg h ha
 have htg : ∀ a b : Nat, a ≠ b → a < n.toNat → b < n.toNat → ((togD s (a : Int) (b : Int)).len : Int) = mtS s s.len a b := fun a b hab ha hb => by
  unfold togD
  rw [if_neg (show ¬ (a : Int) = (b : Int) by omega), listD_len]
  exact tog_len hg hab (by omega) (by omega) _ (Nat.le_refl _)
 generalize mtS s s.len = f at hS hsq hF hsym hdg hmx hmn htg ⊢
 have hql : (D.list (sqD n.toNat f)).len = n.toNat := sqD_len _ _
 have hG : ∀ a b, a < n.toNat → b < n.toNat → 0 ≤ f a b * f a b ∧ f a b * f a b ≤ 4096 := fun a b ha hb => by
  have := hF a b ha hb
  have := sq_rng this.1 this.2
  omega
 rw [hql]
 refine ⟨fun h => (h (by omega)).elim, fun _ => ⟨⟨0, Nat.zero_le _, ⟨rfl, rfl, trivial⟩, trivial⟩, fun y hy => ?_⟩⟩
 have hy : y ≤ sz.len := hy
 have hpz := pz_tri (sz := sz) (fun i hi => ⟨(hsr i hi).1, by have := (hsr i hi).2; omega⟩) y hy
 have hts := triS_rng (l := sz) (fun i hi => ⟨(hsr i hi).1, by have := (hsr i hi).2; omega⟩) y hy
 refine ⟨limS (by omega), fun hlt => ?_, fun hge => ?_⟩
 ·have hr := hsr y (by omega)
  have hm := mul_rng hr.1 (show nAt sz y ≤ 64 by omega)
  exact ⟨by omega, hlt, ⟨by omega, by omega⟩, ⟨by omega, by omega⟩, ⟨by omega, by omega⟩, ⟨by omega, by omega⟩, y + 1, by show y + 1 ≤ _; omega, by omega, ⟨by omega, rfl, trivial⟩, trivial⟩
 ·have hge := not_of hge
  have ey : y = sz.len := by omega
  subst ey
  refine ⟨⟨0, Nat.zero_le _, ⟨rfl, rfl, rfl, trivial⟩, trivial⟩, fun a ha => ?_⟩
  have ha : a ≤ n.toNat := ha
  have hA := alS_sq (f := f) a ha
  have hQ := alQ_sq (f := f) a ha
  have hAr := s2_rng (f := f) (K := 64) (B := 4096) (m := n.toNat) (by omega) a fun p q hp' hq' => hF p q (by omega) hq'
  have hQr := s2_rng (f := fun a b => f a b * f a b) (K := 4096) (B := 262144) (m := n.toNat) (by omega) a fun p q hp' hq' => hG p q (by omega) hq'
  rw [hA, hQ]
  refine ⟨limS (by omega), fun hlt => ?_, fun hge2 => ?_⟩
  ·have haN : a < n.toNat := by omega
   rw [sq_len haN, sq_nAt haN haN, hdg]
   refine ⟨by omega, hlt, fun _ => ⟨by omega, by omega, fun h => (h rfl).elim, fun _ => ⟨⟨0, Nat.zero_le _, ⟨rfl, by show _ = _ + (0 : Int); omega, by show _ = _ + (0 : Int); omega, trivial⟩, trivial⟩, fun b hb => ?_⟩⟩, fun h => (h (by omega)).elim⟩
   have hb : b ≤ n.toNat := hb
   have hR := rwS_sq (f := f) haN b hb
   have hRQ := rwQ_sq (f := f) haN b hb
   have hRr := sR_rng (f := f) (K := 64) (x := a) b fun q hq' => hF a q haN (by omega)
   have hRQr := sR_rng (f := fun a b => f a b * f a b) (K := 4096) (x := a) b fun q hq' => hG a q haN (by omega)
   refine ⟨limS (by omega), fun hlt3 => ?_, fun hge3 => ?_⟩
   ·have hbN : b < n.toNat := by omega
    have e1 : nAt (el (.list (sqD n.toNat f)) a) b = f a b := sq_nAt haN hbN
    have e2 : nAt (el (.list (sqD n.toNat f)) b) a = f b a := sq_nAt hbN haN
    have r1 := hF a b haN hbN
    have r2 := hG a b haN hbN
    have hnext : ∃ y : Nat, y.le n.toNat ∧ n.toNat - y < n.toNat - b ∧ ((b : Int) + 1 = (y : Int) ∧ s2 f n.toNat a + sR f a b + f a b = s2 f n.toNat a + rwS (.list (sqD n.toNat f)) a y ∧ s2 (fun a b => f a b * f a b) n.toNat a + sR (fun a b => f a b * f a b) a b + f a b * f a b = s2 (fun a b => f a b * f a b) n.toNat a + rwQ (.list (sqD n.toNat f)) a y ∧ True) ∧ True :=
     ⟨b + 1, by show b + 1 ≤ _; omega, by omega, ⟨by omega, by rw [rwS_sq haN (b + 1) (by omega)]; show _ = _ + (sR f a b + f a b); omega, by rw [rwQ_sq haN (b + 1) (by omega)]; show _ = _ + (sR (fun a b => f a b * f a b) a b + f a b * f a b); omega, trivial⟩, trivial⟩
    rw [sq_len hbN, e1, e2, hR, hRQ, hsym b a]
    refine ⟨by omega, hlt3, by omega, by omega, by omega, by omega, fun _ => ⟨fun _ => ⟨fun hab => ?_, fun _ => ⟨⟨by omega, by omega⟩, ⟨by omega, by omega⟩, ⟨by omega, by omega⟩, ⟨by omega, by omega⟩, hnext⟩⟩, fun h => absurd (hmx a b haN hbN) (by omega)⟩, fun h => (h rfl).elim⟩
    have hne : a ≠ b := fun e => hab (by rw [e])
    rw [htg a b hne haN hbN]
    exact ⟨hg, fun _ => ⟨hg, fun h => (h rfl).elim, fun _ => ⟨⟨by omega, by omega⟩, ⟨by omega, by omega⟩, ⟨by omega, by omega⟩, ⟨by omega, by omega⟩, hnext⟩⟩, fun h => absurd (hmn a b hne haN hbN) (by omega)⟩
   ·have hge3 := not_of hge3
    have eb : b = n.toNat := by omega
    refine ⟨⟨by omega, by omega⟩, a + 1, by show a + 1 ≤ _; omega, by omega, ⟨by omega, ?_, ?_, trivial⟩, trivial⟩
    ·rw [alS_sq (f := f) (a + 1) (by omega), hR, eb]; rfl
    ·rw [alQ_sq (f := f) (a + 1) (by omega), hRQ, eb]; rfl
  ·have hge2 := not_of hge2
   have ea : a = n.toNat := by omega
   have hf1 : s2 f n.toNat n.toNat = 2 * sP f n.toNat := s2_two hsym hdg _
   have hf2 : s2 (fun a b => f a b * f a b) n.toNat n.toNat = 2 * sP (fun a b => f a b * f a b) n.toNat := s2_two (fun a b => by show f a b * f a b = f b a * f b a; rw [hsym]) (fun a => by show f a a * f a a = 0; rw [hdg]; rfl) _
   have hM1 := pig_M hp
   have hM2 := hts.2
   have hprod := Int.mul_le_mul (show pzS sz sz.len ≤ 300000 by omega) (show ((s.len : Nat) : Int) ≤ 64 by omega) (by omega) (by omega)
   have hprod0 : 0 ≤ pzS sz sz.len * ((s.len : Nat) : Int) := Int.mul_nonneg (by omega) (by omega)
   have h1 : s2 f n.toNat a = pzS sz sz.len * ((s.len : Nat) : Int) := by
    rw [ea, hf1, hS, hpz, Int.mul_comm ((s.len : Nat) : Int), Int.mul_assoc]
   have h2 : s2 (fun a b => f a b * f a b) n.toNat a = 2 * sqSum (mtL n s) (mtL n s).len := by rw [ea, hf2, hsq]
   exact ⟨⟨by omega, by omega⟩, fun _ => ⟨hg, ⟨by omega, by omega⟩, fun _ => tt, fun h => (h h2).elim⟩, fun h => (h h1).elim⟩
end Go.Ev

end
