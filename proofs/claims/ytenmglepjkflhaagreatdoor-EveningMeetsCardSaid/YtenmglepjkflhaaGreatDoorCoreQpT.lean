/-
  Part of the engine that the claim is proved with: it states nothing of the document by itself.
-/
import Derived.Test.YtenmglepjkflhaaGreatDoorCoreOqA
import Derived.Test.YtenmglepjkflhaaGreatDoorCoreQpDefs
open Go.Proofs
namespace Go.Ev
set_option maxRecDepth 100000
set_option maxHeartbeats 4000000
theorem vc34 : ∀ (t : D) (x : Int), symFun (ctx cc0 hasAnn) 3 (37 : FuncId) [V.dat (27 : TypeId) t, V.int IntKind.i64 x] (V.prop (hasT t x)) = ((∃ (x_1 : Nat), (x_1 ≤ t.len ∧ ∀ (k : Nat), k < x_1 → nAt t k = x → False) ∧
(0 = (x_1 : Int) ∧ True) ∧ True) ∧ ∀ (x_1 : Nat), (x_1 ≤ t.len ∧ ∀ (k : Nat), k < x_1 → nAt t k = x → False) → t.len - x_1 < LIM ∧ ((x_1 : Int) < (t.len : Int) → 0 ≤ (x_1 : Int) ∧ (x_1 : Int) < (t.len : Int) ∧ (x = nAt t
x_1 → (0 ≤ (x_1 : Int) ↔ hasT t x)) ∧ ((x = nAt t x_1 → False) → fits64 ((x_1 : Int) + 1) ∧ ∃ (y : Nat), (y ≤ t.len ∧ ∀ (k : Nat), k < y → nAt t k = x → False) ∧ t.len - y < t.len - x_1 ∧ ((x_1 : Int) + 1 = (y : Int) ∧
True) ∧ True)) ∧ (((x_1 : Int) < (t.len : Int) → False) → (false = true ↔ hasT t x))) := by intros; kernel_rfl
theorem vc13t : ∀ (n : Int) (s : D) (a b : Int), symFun (ctx tg1 (togAnn a b)) 6 (10 : FuncId) [V.int IntKind.i64 n, V.dat (22 : TypeId) s, V.int IntKind.i64 a, V.int IntKind.i64 b] (V.dat (27 : TypeId) (togD s a b)) =
(((a = b → False) → bigP s ∧ (((chk n D.nil s).snd = 0 → False) → D.nil = togD s a b) ∧ ((((chk n D.nil s).snd = 0 → False) → False) → ((∃ (x : Nat × List D), (x.fst ≤ s.len ∧ x.snd = togL s a b x.fst ∧ x.snd = []) ∧ (0
= (x.fst : Int) ∧ True ∧ True) ∧ True) ∨ ∃ (x : Nat × List D), (x.fst ≤ s.len ∧ x.snd = togL s a b x.fst ∧ (x.snd = [] → False)) ∧ (0 = (x.fst : Int) ∧ False ∧ True) ∧ False ∧ True) ∧ (∀ (x : Nat × List D), x.fst ≤ s.len
∧ x.snd = togL s a b x.fst ∧ x.snd = [] → s.len - x.fst < LIM ∧ ((x.fst : Int) < (s.len : Int) → 0 ≤ (x.fst : Int) ∧ (x.fst : Int) < (s.len : Int) ∧ (∃ (x_1 : Nat), (x_1 ≤ (el s x.fst).len ∧ ∀ (j : Nat), j < x_1 → bothT
(el (el s x.fst) j) a b → False) ∧ (0 = (x_1 : Int) ∧ True) ∧ True) ∧ ∀ (x_1 : Nat), (x_1 ≤ (el s x.fst).len ∧ ∀ (j : Nat), j < x_1 → bothT (el (el s x.fst) j) a b → False) → (el s x.fst).len - x_1 < LIM ∧ ((x_1 : Int) <
(↑(el s x.fst).len : Int) → 0 ≤ (x_1 : Int) ∧ (x_1 : Int) < (↑(el s x.fst).len : Int) ∧ (el (el s x.fst) x_1).len ≤ 1000 ∧ (hasT (el (el s x.fst) x_1) a → (el (el s x.fst) x_1).len ≤ 1000 ∧ (hasT (el (el s x.fst) x_1) b
→ (0 ≤ (x_1 : Int) → 0 + 1 ≤ [D.int (x.fst : Int)].length ∧ (1 : Nat) ≤ 16777216 ∧ fits64 ((x.fst : Int) + 1) ∧ ((∃ (y : Nat × List D), (y.fst ≤ s.len ∧ y.snd = togL s a b y.fst ∧ y.snd = []) ∧ s.len - y.fst < s.len -
x.fst ∧ ((x.fst : Int) + 1 = (y.fst : Int) ∧ False ∧ True) ∧ True) ∨ ∃ (y : Nat × List D), (y.fst ≤ s.len ∧ y.snd = togL s a b y.fst ∧ (y.snd = [] → False)) ∧ s.len - y.fst < s.len - x.fst ∧ ((x.fst : Int) + 1 = (y.fst :
Int) ∧ ((0 : Nat) = 0 ∧ 1 = y.snd.length ∧ True) ∧ True) ∧ List.take 1 [D.int (x.fst : Int)] = y.snd ∧ True)) ∧ ((0 ≤ (x_1 : Int) → False) → fits64 ((x.fst : Int) + 1) ∧ ((∃ (y : Nat × List D), (y.fst ≤ s.len ∧ y.snd =
togL s a b y.fst ∧ y.snd = []) ∧ s.len - y.fst < s.len - x.fst ∧ ((x.fst : Int) + 1 = (y.fst : Int) ∧ True ∧ True) ∧ True) ∨ ∃ (y : Nat × List D), (y.fst ≤ s.len ∧ y.snd = togL s a b y.fst ∧ (y.snd = [] → False)) ∧ s.len
- y.fst < s.len - x.fst ∧ ((x.fst : Int) + 1 = (y.fst : Int) ∧ False ∧ True) ∧ False ∧ True))) ∧ ((hasT (el (el s x.fst) x_1) b → False) → fits64 ((x_1 : Int) + 1) ∧ ∃ (y : Nat), (y ≤ (el s x.fst).len ∧ ∀ (j : Nat), j <
y → bothT (el (el s x.fst) j) a b → False) ∧ (el s x.fst).len - y < (el s x.fst).len - x_1 ∧ ((x_1 : Int) + 1 = (y : Int) ∧ True) ∧ True)) ∧ ((hasT (el (el s x.fst) x_1) a → False) → fits64 ((x_1 : Int) + 1) ∧ ∃ (y :
Nat), (y ≤ (el s x.fst).len ∧ ∀ (j : Nat), j < y → bothT (el (el s x.fst) j) a b → False) ∧ (el s x.fst).len - y < (el s x.fst).len - x_1 ∧ ((x_1 : Int) + 1 = (y : Int) ∧ True) ∧ True)) ∧ (((x_1 : Int) < (↑(el s
x.fst).len : Int) → False) → fits64 ((x.fst : Int) + 1) ∧ ((∃ (y : Nat × List D), (y.fst ≤ s.len ∧ y.snd = togL s a b y.fst ∧ y.snd = []) ∧ s.len - y.fst < s.len - x.fst ∧ ((x.fst : Int) + 1 = (y.fst : Int) ∧ True ∧
True) ∧ True) ∨ ∃ (y : Nat × List D), (y.fst ≤ s.len ∧ y.snd = togL s a b y.fst ∧ (y.snd = [] → False)) ∧ s.len - y.fst < s.len - x.fst ∧ ((x.fst : Int) + 1 = (y.fst : Int) ∧ False ∧ True) ∧ False ∧ True))) ∧ (((x.fst :
Int) < (s.len : Int) → False) → D.nil = togD s a b)) ∧ ∀ (x : Nat × List D), x.fst ≤ s.len ∧ x.snd = togL s a b x.fst ∧ (x.snd = [] → False) → s.len - x.fst < LIM ∧ ((x.fst : Int) < (s.len : Int) → 0 ≤ (x.fst : Int) ∧
(x.fst : Int) < (s.len : Int) ∧ (∃ (x_1 : Nat), (x_1 ≤ (el s x.fst).len ∧ ∀ (j : Nat), j < x_1 → bothT (el (el s x.fst) j) a b → False) ∧ (0 = (x_1 : Int) ∧ True) ∧ True) ∧ ∀ (x_1 : Nat), (x_1 ≤ (el s x.fst).len ∧ ∀ (j :
Nat), j < x_1 → bothT (el (el s x.fst) j) a b → False) → (el s x.fst).len - x_1 < LIM ∧ ((x_1 : Int) < (↑(el s x.fst).len : Int) → 0 ≤ (x_1 : Int) ∧ (x_1 : Int) < (↑(el s x.fst).len : Int) ∧ (el (el s x.fst) x_1).len ≤
1000 ∧ (hasT (el (el s x.fst) x_1) a → (el (el s x.fst) x_1).len ≤ 1000 ∧ (hasT (el (el s x.fst) x_1) b → (0 ≤ (x_1 : Int) → 0 + 1 ≤ [D.int (x.fst : Int)].length ∧ 0 + x.snd.length ≤ x.snd.length ∧ x.snd.length + 1 ≤
16777216 ∧ fits64 ((x.fst : Int) + 1) ∧ ((∃ (y : Nat × List D), (y.fst ≤ s.len ∧ y.snd = togL s a b y.fst ∧ y.snd = []) ∧ s.len - y.fst < s.len - x.fst ∧ ((x.fst : Int) + 1 = (y.fst : Int) ∧ False ∧ True) ∧ True) ∨ ∃ (y
: Nat × List D), (y.fst ≤ s.len ∧ y.snd = togL s a b y.fst ∧ (y.snd = [] → False)) ∧ s.len - y.fst < s.len - x.fst ∧ ((x.fst : Int) + 1 = (y.fst : Int) ∧ ((0 : Nat) = 0 ∧ x.snd.length + 1 = y.snd.length ∧ True) ∧ True) ∧
List.take x.snd.length x.snd ++ List.take 1 [D.int (x.fst : Int)] = y.snd ∧ True)) ∧ ((0 ≤ (x_1 : Int) → False) → fits64 ((x.fst : Int) + 1) ∧ ((∃ (y : Nat × List D), (y.fst ≤ s.len ∧ y.snd = togL s a b y.fst ∧ y.snd =
[]) ∧ s.len - y.fst < s.len - x.fst ∧ ((x.fst : Int) + 1 = (y.fst : Int) ∧ False ∧ True) ∧ True) ∨ ∃ (y : Nat × List D), (y.fst ≤ s.len ∧ y.snd = togL s a b y.fst ∧ (y.snd = [] → False)) ∧ s.len - y.fst < s.len - x.fst ∧
((x.fst : Int) + 1 = (y.fst : Int) ∧ ((0 : Nat) = 0 ∧ x.snd.length = y.snd.length ∧ True) ∧ True) ∧ x.snd = y.snd ∧ True))) ∧ ((hasT (el (el s x.fst) x_1) b → False) → fits64 ((x_1 : Int) + 1) ∧ ∃ (y : Nat), (y ≤ (el s
x.fst).len ∧ ∀ (j : Nat), j < y → bothT (el (el s x.fst) j) a b → False) ∧ (el s x.fst).len - y < (el s x.fst).len - x_1 ∧ ((x_1 : Int) + 1 = (y : Int) ∧ True) ∧ True)) ∧ ((hasT (el (el s x.fst) x_1) a → False) → fits64
((x_1 : Int) + 1) ∧ ∃ (y : Nat), (y ≤ (el s x.fst).len ∧ ∀ (j : Nat), j < y → bothT (el (el s x.fst) j) a b → False) ∧ (el s x.fst).len - y < (el s x.fst).len - x_1 ∧ ((x_1 : Int) + 1 = (y : Int) ∧ True) ∧ True)) ∧
(((x_1 : Int) < (↑(el s x.fst).len : Int) → False) → fits64 ((x.fst : Int) + 1) ∧ ((∃ (y : Nat × List D), (y.fst ≤ s.len ∧ y.snd = togL s a b y.fst ∧ y.snd = []) ∧ s.len - y.fst < s.len - x.fst ∧ ((x.fst : Int) + 1 =
(y.fst : Int) ∧ False ∧ True) ∧ True) ∨ ∃ (y : Nat × List D), (y.fst ≤ s.len ∧ y.snd = togL s a b y.fst ∧ (y.snd = [] → False)) ∧ s.len - y.fst < s.len - x.fst ∧ ((x.fst : Int) + 1 = (y.fst : Int) ∧ ((0 : Nat) = 0 ∧
x.snd.length = y.snd.length ∧ True) ∧ True) ∧ x.snd = y.snd ∧ True))) ∧ (((x.fst : Int) < (s.len : Int) → False) → 0 + x.snd.length ≤ x.snd.length ∧ D.list (List.take x.snd.length x.snd) = togD s a b))) ∧ (a = b → D.nil
= togD s a b)) := by intros; kernel_rfl
theorem s34 (t : D) (x : Int) (h : t.len ≤ 1000) : symFun (ctx cc0 hasAnn) 3 37 [.dat 27 t, .int .i64 x] (.prop (hasT t x)) := by
 rw [vc34]
 refine ⟨⟨0, ⟨Nat.zero_le _, fun k hk => absurd hk (Nat.not_lt_zero _)⟩, ⟨rfl, trivial⟩, trivial⟩, fun y ⟨hy, hn⟩ => ⟨limS (by omega), fun hlt => ⟨by omega, hlt, fun e => ⟨fun _ => ⟨y, by omega, e.symm⟩, fun _ => by omega⟩, fun hne => ⟨⟨by omega, by omega⟩, y + 1, ⟨by omega, fun k hk => ?_⟩, by omega, ⟨by omega, trivial⟩, trivial⟩⟩, fun hge => ?_⟩⟩
 ·by_cases e : k = y
  ·subst e; exact fun h => hne h.symm
  ·exact hn k (by omega)
 ·have hge := not_of hge
  refine iff_of_false (fun h => (by cases h)) fun ⟨⟨k, hk, e⟩⟩ => hn k (by omega) e
theorem togL_len (s : D) (a b : Int) : ∀ x, (togL s a b x).length ≤ x
 | 0 => Nat.le_refl _
 | x + 1 => by
  have ih := togL_len s a b x
  unfold togL
  split
  ·rw [List.length_append]; show _ + 1 ≤ _; omega
  ·omega
theorem togL_yes {s : D} {a b : Int} {x j : Nat} (hj : j < (el s x).len) (h : bothT (el (el s x) j) a b) : togL s a b (x + 1) = togL s a b x ++ [.int (x : Nat)] := by
 rw [togL, if_pos ⟨⟨j, hj, h⟩⟩]
theorem togL_no {s : D} {a b : Int} {x : Nat} (h : ∀ j, j < (el s x).len → ¬ bothT (el (el s x) j) a b) : togL s a b (x + 1) = togL s a b x := by
 rw [togL, if_neg (fun ⟨⟨j, hj, hb⟩⟩ => h j hj hb)]
theorem s13t (n : Int) (s : D) (a b : Int) (h : goodS n s) : symFun (ctx tg1 (togAnn a b)) 6 10 [.int .i64 n, .dat 22 s, .int .i64 a, .int .i64 b] (.dat 27 (togD s a b)) := by
 rw [vc13t]
 have hb := h.big.out.1
 refine ⟨fun hab => ?_, fun hab => by unfold togD; rw [if_pos hab]⟩
 refine ⟨h.big, fun k => (k (by rw [h.chk])).elim, fun _ => ?_⟩
 have hD : togD s a b = listD (togL s a b s.len) := by unfold togD; rw [if_neg hab]
 refine ⟨.inl ⟨(0, []), ⟨Nat.zero_le _, rfl, rfl⟩, ⟨rfl, trivial, trivial⟩, trivial⟩, fun x ⟨hx, he, h0⟩ => ?_, fun x ⟨hx, he, h0⟩ => ?_⟩
 ·refine ⟨limS (by omega), fun hlt => ⟨by omega, hlt, ⟨0, ⟨Nat.zero_le _, fun j hj => absurd hj (Nat.not_lt_zero _)⟩, ⟨rfl, trivial⟩, trivial⟩, fun y ⟨hy, hn⟩ => ?_⟩, fun hge => ?_⟩
  ·have hxs : x.1 < s.len := by omega
   have hev := (h.big.out.2 x.1 hxs).out
   have step : ∀ y, y < (el s x.1).len → ¬ bothT (el (el s x.1) y) a b → (∀ j, j < y → ¬ bothT (el (el s x.1) j) a b) → ∀ j, j < y + 1 → ¬ bothT (el (el s x.1) j) a b := fun y _ h1 h2 j hj => by
    by_cases e : j = y
    ·subst e; exact h1
    ·exact h2 j (by omega)
   refine ⟨limS (by omega), fun hlt2 => ⟨by omega, hlt2, hev.2 y (by omega), fun ha => ⟨hev.2 y (by omega), fun hb2 => ⟨fun _ => ⟨Nat.le_refl _, by decide, ⟨by omega, by omega⟩, .inr ⟨(x.1 + 1, togL s a b (x.1 + 1)), ⟨by show x.1 + 1 ≤ _; omega, rfl, ?_⟩, by show s.len - (x.1 + 1) < _; omega, ⟨by show (x.1 : Int) + 1 = ((x.1 + 1 : Nat) : Int); omega, ⟨rfl, ?_, trivial⟩, trivial⟩, ?_, trivial⟩⟩, fun k => (k (by omega)).elim⟩, fun hb2 => ⟨⟨by omega, by omega⟩, y + 1, ⟨by omega, step y (by omega) (fun q => hb2 q.r) hn⟩, by omega, ⟨by omega, trivial⟩, trivial⟩⟩, fun ha => ⟨⟨by omega, by omega⟩, y + 1, ⟨by omega, step y (by omega) (fun q => ha q.l) hn⟩, by omega, ⟨by omega, trivial⟩, trivial⟩⟩, fun hge2 => ?_⟩
   ·show togL s a b (x.1 + 1) ≠ []
    rw [togL_yes (show y < (el s x.1).len by omega) ⟨ha, hb2⟩]; simp
   ·show 1 = (togL s a b (x.1 + 1)).length
    rw [togL_yes (show y < (el s x.1).len by omega) ⟨ha, hb2⟩, ← he, h0]; rfl
   ·show List.take 1 [D.int (x.1 : Int)] = togL s a b (x.1 + 1)
    rw [togL_yes (show y < (el s x.1).len by omega) ⟨ha, hb2⟩, ← he, h0]; rfl
   ·have hge2 := not_of hge2
    refine ⟨⟨by omega, by omega⟩, .inl ⟨(x.1 + 1, []), ⟨by show x.1 + 1 ≤ _; omega, ?_, rfl⟩, by show s.len - (x.1 + 1) < _; omega, ⟨by show (x.1 : Int) + 1 = ((x.1 + 1 : Nat) : Int); omega, trivial, trivial⟩, trivial⟩⟩
    show [] = togL s a b (x.1 + 1)
    rw [togL_no (fun j hj => hn j (by omega)), ← he, h0]
  ·have hge := not_of hge
   rw [hD, show s.len = x.1 by omega, ← he, h0]; rfl
 ·have hl := togL_len s a b x.1
  rw [← he] at hl
  refine ⟨limS (by omega), fun hlt => ⟨by omega, hlt, ⟨0, ⟨Nat.zero_le _, fun j hj => absurd hj (Nat.not_lt_zero _)⟩, ⟨rfl, trivial⟩, trivial⟩, fun y ⟨hy, hn⟩ => ?_⟩, fun hge => ?_⟩
  ·have hxs : x.1 < s.len := by omega
   have hev := (h.big.out.2 x.1 hxs).out
   have step : ∀ y, y < (el s x.1).len → ¬ bothT (el (el s x.1) y) a b → (∀ j, j < y → ¬ bothT (el (el s x.1) j) a b) → ∀ j, j < y + 1 → ¬ bothT (el (el s x.1) j) a b := fun y _ h1 h2 j hj => by
    by_cases e : j = y
    ·subst e; exact h1
    ·exact h2 j (by omega)
   refine ⟨limS (by omega), fun hlt2 => ⟨by omega, hlt2, hev.2 y (by omega), fun ha => ⟨hev.2 y (by omega), fun hb2 => ⟨fun _ => ⟨Nat.le_refl _, by omega, by omega, ⟨by omega, by omega⟩, .inr ⟨(x.1 + 1, togL s a b (x.1 + 1)), ⟨by show x.1 + 1 ≤ _; omega, rfl, ?_⟩, by show s.len - (x.1 + 1) < _; omega, ⟨by show (x.1 : Int) + 1 = ((x.1 + 1 : Nat) : Int); omega, ⟨rfl, ?_, trivial⟩, trivial⟩, ?_, trivial⟩⟩, fun k => (k (by omega)).elim⟩, fun hb2 => ⟨⟨by omega, by omega⟩, y + 1, ⟨by omega, step y (by omega) (fun q => hb2 q.r) hn⟩, by omega, ⟨by omega, trivial⟩, trivial⟩⟩, fun ha => ⟨⟨by omega, by omega⟩, y + 1, ⟨by omega, step y (by omega) (fun q => ha q.l) hn⟩, by omega, ⟨by omega, trivial⟩, trivial⟩⟩, fun hge2 => ?_⟩
   ·show togL s a b (x.1 + 1) ≠ []
    rw [togL_yes (show y < (el s x.1).len by omega) ⟨ha, hb2⟩]; simp
   ·show x.2.length + 1 = (togL s a b (x.1 + 1)).length
    rw [togL_yes (show y < (el s x.1).len by omega) ⟨ha, hb2⟩, ← he, List.length_append]; rfl
   ·show List.take x.2.length x.2 ++ List.take 1 [D.int (x.1 : Int)] = togL s a b (x.1 + 1)
    rw [togL_yes (show y < (el s x.1).len by omega) ⟨ha, hb2⟩, ← he, List.take_of_length_le (Nat.le_refl _)]; rfl
   ·have hge2 := not_of hge2
    refine ⟨⟨by omega, by omega⟩, .inr ⟨(x.1 + 1, x.2), ⟨by show x.1 + 1 ≤ _; omega, ?_, h0⟩, by show s.len - (x.1 + 1) < _; omega, ⟨by show (x.1 : Int) + 1 = ((x.1 + 1 : Nat) : Int); omega, ⟨rfl, rfl, trivial⟩, trivial⟩, rfl, trivial⟩⟩
    show x.2 = togL s a b (x.1 + 1)
    rw [togL_no (fun j hj => hn j (by omega)), ← he]
  ·have hge := not_of hge
   refine ⟨by omega, ?_⟩
   rw [hD, show s.len = x.1 by omega, ← he, List.take_of_length_le (Nat.le_refl _)]
   cases hx2 : x.2 with
   | nil => exact absurd hx2 h0
   | cons a l => rfl
end Go.Ev
