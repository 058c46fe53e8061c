/-
  Part of the engine that the claim is proved with: it states nothing of the document by itself.
-/
import Derived.Test.YtpopdemanadllaaGreatDoorCoreNtA
open Go.Proofs
namespace Go.Ev
set_option maxRecDepth 100000
set_option maxHeartbeats 4000000
theorem vc5 : ∀ (n : Int) (sz s : D), symFun (ctx ck4 ekAnn) 4 (9 : FuncId) [V.int IntKind.i64 n, V.dat (25 : TypeId) sz, V.dat (24 : TypeId) s] (V.tup [V.int IntKind.i64 (chk n sz s).fst, V.int IntKind.i64 (chk n sz
s).snd]) = ((1 ≤ n → (((n ≤ 64 → False) → False) → (0 < (sz.len : Int) → ((1 ≤ n ∧ n ≤ 64) ∧ sz.len ≤ 16777216) ∧ ((fitP n sz → False) → 0 = (chk n sz s).fst ∧ 90 = (chk n sz s).snd ∧ True) ∧ (((fitP n sz → False) →
False) → (64 < (s.len : Int) → 0 = (chk n sz s).fst ∧ 7 = (chk n sz s).snd ∧ True) ∧ ((64 < (s.len : Int) → False) → (∃ (x : Nat), (x ≤ s.len ∧ scanK n sz s (s.len - x) x = scanK n sz s s.len 0) ∧ (0 = (x : Int) ∧ True)
∧ True) ∧ ∀ (x : Nat), x ≤ s.len ∧ scanK n sz s (s.len - x) x = scanK n sz s s.len 0 → s.len - x < LIM ∧ ((x : Int) < (s.len : Int) → 0 ≤ (x : Int) ∧ (x : Int) < (s.len : Int) ∧ ((1 ≤ n ∧ n ≤ 64) ∧ smE (el s x) ∧ sz.len
≤ 1000) ∧ ((errE n sz (el s x) = 0 → False) → (x : Int) = (chk n sz s).fst ∧ errE n sz (el s x) = (chk n sz s).snd ∧ True) ∧ (((errE n sz (el s x) = 0 → False) → False) → fits64 ((x : Int) + 1) ∧ ∃ (y : Nat), (y ≤ s.len
∧ scanK n sz s (s.len - y) y = scanK n sz s s.len 0) ∧ s.len - y < s.len - x ∧ ((x : Int) + 1 = (y : Int) ∧ True) ∧ True)) ∧ (((x : Int) < (s.len : Int) → False) → 0 = (chk n sz s).fst ∧ 0 = (chk n sz s).snd ∧ True)))) ∧
((0 < (sz.len : Int) → False) → (64 < (s.len : Int) → 0 = (chk n sz s).fst ∧ 7 = (chk n sz s).snd ∧ True) ∧ ((64 < (s.len : Int) → False) → (∃ (x : Nat), (x ≤ s.len ∧ scanK n sz s (s.len - x) x = scanK n sz s s.len 0) ∧
(0 = (x : Int) ∧ True) ∧ True) ∧ ∀ (x : Nat), x ≤ s.len ∧ scanK n sz s (s.len - x) x = scanK n sz s s.len 0 → s.len - x < LIM ∧ ((x : Int) < (s.len : Int) → 0 ≤ (x : Int) ∧ (x : Int) < (s.len : Int) ∧ ((1 ≤ n ∧ n ≤ 64) ∧
smE (el s x) ∧ sz.len ≤ 1000) ∧ ((errE n sz (el s x) = 0 → False) → (x : Int) = (chk n sz s).fst ∧ errE n sz (el s x) = (chk n sz s).snd ∧ True) ∧ (((errE n sz (el s x) = 0 → False) → False) → fits64 ((x : Int) + 1) ∧ ∃
(y : Nat), (y ≤ s.len ∧ scanK n sz s (s.len - y) y = scanK n sz s s.len 0) ∧ s.len - y < s.len - x ∧ ((x : Int) + 1 = (y : Int) ∧ True) ∧ True)) ∧ (((x : Int) < (s.len : Int) → False) → 0 = (chk n sz s).fst ∧ 0 = (chk n
sz s).snd ∧ True)))) ∧ ((n ≤ 64 → False) → 0 = (chk n sz s).fst ∧ 90 = (chk n sz s).snd ∧ True)) ∧ ((1 ≤ n → False) → 0 = (chk n sz s).fst ∧ 90 = (chk n sz s).snd ∧ True)) := by intros; kernel_rfl
theorem vc33 : ∀ (ev : D), symFun (ctxj cc0 ekAnn ekJoin) 4 (64 : FuncId) [V.dat (32 : TypeId) ev] (V.dat (25 : TypeId) (listD (flatL ev ev.len))) = ((∃ (x : Nat), x.le ev.len ∧ (0 = (x : Int) ∧ 0 = (↑(totE ev x) : Int)
∧ True) ∧ True) ∧ ∀ (x : Nat), x.le ev.len → ev.len - x < LIM ∧ ((x : Int) < (ev.len : Int) → 0 ≤ (x : Int) ∧ (x : Int) < (ev.len : Int) ∧ fits64 ((↑(totE ev x) : Int) + (↑(el ev x).len : Int)) ∧ ((↑(totE ev x) : Int) +
(↑(el ev x).len : Int) < 0 → False) ∧ (((↑(totE ev x) : Int) + (↑(el ev x).len : Int) < 0 → False) → fits64 ((x : Int) + 1) ∧ ∃ (y : Nat), y.le ev.len ∧ ev.len - y < ev.len - x ∧ ((x : Int) + 1 = (y : Int) ∧ (↑(totE ev
x) : Int) + (↑(el ev x).len : Int) = (↑(totE ev y) : Int) ∧ True) ∧ True)) ∧ (((x : Int) < (ev.len : Int) → False) → (((↑(totE ev x) : Int) < 0 → False) ∧ (((↑(totE ev x) : Int) < 0 → False) → fits64 ((↑(totE ev x) :
Int) - 0) ∧ (0 < (↑(totE ev x) : Int) - 0 → (0 : Int) ≤ 0 ∧ (0 : Int) ≤ 0 ∧ (0 : Int) ≤ 0 ∧ 0 < (↑(totE ev x) : Int) - 0 ∧ (↑(totE ev x) : Int) - 0 ≤ 16777216 ∧ (0 : Int) ≤ 0 ∧ (0 : Int) ≤ 0 ∧ ((↑((↑(totE ev x) : Int) -
0).toNat : Int) - 0).NonNeg ∧ ((∃ (x_1 : List D), (0 - (↑(totE ev x) : Int)).NonNeg ∧ (False ∧ True) ∧ True) ∨ ∃ (x_1 : List D), ((↑(totE ev x) : Int) - (0 + 1)).NonNeg ∧ (((0 : Nat) + 0 = 0 ∧ (0 : Nat) - 0 = 0 ∧ True) ∧
True) ∧ List.replicate ((↑(totE ev x) : Int) - 0).toNat (D.int 0) = x_1 ∧ True)) ∧ ((0 < (↑(totE ev x) : Int) - 0 → False) → (∃ (x_1 : List D), (0 - (↑(totE ev x) : Int)).NonNeg ∧ (True ∧ True) ∧ True) ∨ ∃ (x_1 : List
D), ((↑(totE ev x) : Int) - (0 + 1)).NonNeg ∧ (False ∧ True) ∧ False ∧ True))) ∧ (∀ (x_1 : List D), (0 - (↑(totE ev x) : Int)).NonNeg → ((∃ (x : Nat × List D), (x.fst ≤ ev.len ∧ totE ev ev.len = 0) ∧ (0 = (x.fst : Int) ∧
True ∧ True) ∧ True) ∨ ∃ (x : Nat × List D), (x.fst ≤ ev.len ∧ 0 < totE ev ev.len ∧ totE ev x.fst ≤ x.snd.length ∧ List.take (totE ev x.fst) x.snd = flatL ev x.fst) ∧ (0 = (x.fst : Int) ∧ False ∧ True) ∧ False ∧ True) ∧
(∀ (x : Nat × List D), x.fst ≤ ev.len ∧ totE ev ev.len = 0 → ev.len - x.fst < LIM ∧ ((x.fst : Int) < (ev.len : Int) → 0 ≤ (x.fst : Int) ∧ (x.fst : Int) < (ev.len : Int) ∧ ((el ev x.fst).len = 0 → fits64 ((x.fst : Int) +
1) ∧ ((∃ (y : Nat × List D), (y.fst ≤ ev.len ∧ totE ev ev.len = 0) ∧ ev.len - y.fst < ev.len - x.fst ∧ ((x.fst : Int) + 1 = (y.fst : Int) ∧ True ∧ True) ∧ True) ∨ ∃ (y : Nat × List D), (y.fst ≤ ev.len ∧ 0 < totE ev
ev.len ∧ totE ev y.fst ≤ y.snd.length ∧ List.take (totE ev y.fst) y.snd = flatL ev y.fst) ∧ ev.len - y.fst < ev.len - x.fst ∧ ((x.fst : Int) + 1 = (y.fst : Int) ∧ False ∧ True) ∧ False ∧ True)) ∧ (0 < (el ev x.fst).len →
(el ev x.fst).len ≤ 16777216 ∧ fits64 ((x.fst : Int) + 1) ∧ ((∃ (y : Nat × List D), (y.fst ≤ ev.len ∧ totE ev ev.len = 0) ∧ ev.len - y.fst < ev.len - x.fst ∧ ((x.fst : Int) + 1 = (y.fst : Int) ∧ False ∧ True) ∧ True) ∨ ∃
(y : Nat × List D), (y.fst ≤ ev.len ∧ 0 < totE ev ev.len ∧ totE ev y.fst ≤ y.snd.length ∧ List.take (totE ev y.fst) y.snd = flatL ev y.fst) ∧ ev.len - y.fst < ev.len - x.fst ∧ ((x.fst : Int) + 1 = (y.fst : Int) ∧ ((0 :
Nat) = 0 ∧ (el ev x.fst).len = totE ev y.fst ∧ True) ∧ True) ∧ (el ev x.fst).asList = y.snd ∧ True))) ∧ (((x.fst : Int) < (ev.len : Int) → False) → D.nil = listD (flatL ev ev.len))) ∧ ∀ (x : Nat × List D), x.fst ≤ ev.len
∧ 0 < totE ev ev.len ∧ totE ev x.fst ≤ x.snd.length ∧ List.take (totE ev x.fst) x.snd = flatL ev x.fst → ev.len - x.fst < LIM ∧ ((x.fst : Int) < (ev.len : Int) → 0 ≤ (x.fst : Int) ∧ (x.fst : Int) < (ev.len : Int) ∧ ((el
ev x.fst).len = 0 → fits64 ((x.fst : Int) + 1) ∧ ((∃ (y : Nat × List D), (y.fst ≤ ev.len ∧ totE ev ev.len = 0) ∧ ev.len - y.fst < ev.len - x.fst ∧ ((x.fst : Int) + 1 = (y.fst : Int) ∧ False ∧ True) ∧ True) ∨ ∃ (y : Nat ×
List D), (y.fst ≤ ev.len ∧ 0 < totE ev ev.len ∧ totE ev y.fst ≤ y.snd.length ∧ List.take (totE ev y.fst) y.snd = flatL ev y.fst) ∧ ev.len - y.fst < ev.len - x.fst ∧ ((x.fst : Int) + 1 = (y.fst : Int) ∧ ((0 : Nat) = 0 ∧
totE ev x.fst = totE ev y.fst ∧ True) ∧ True) ∧ x.snd = y.snd ∧ True)) ∧ (0 < (el ev x.fst).len → 0 + totE ev x.fst ≤ x.snd.length ∧ totE ev x.fst + (el ev x.fst).len ≤ 16777216 ∧ fits64 ((x.fst : Int) + 1) ∧ ((∃ (y :
Nat × List D), (y.fst ≤ ev.len ∧ totE ev ev.len = 0) ∧ ev.len - y.fst < ev.len - x.fst ∧ ((x.fst : Int) + 1 = (y.fst : Int) ∧ False ∧ True) ∧ True) ∨ ∃ (y : Nat × List D), (y.fst ≤ ev.len ∧ 0 < totE ev ev.len ∧ totE ev
y.fst ≤ y.snd.length ∧ List.take (totE ev y.fst) y.snd = flatL ev y.fst) ∧ ev.len - y.fst < ev.len - x.fst ∧ ((x.fst : Int) + 1 = (y.fst : Int) ∧ ((0 : Nat) = 0 ∧ totE ev x.fst + (el ev x.fst).len = totE ev y.fst ∧ True)
∧ True) ∧ List.take (totE ev x.fst) x.snd ++ (el ev x.fst).asList = y.snd ∧ True))) ∧ (((x.fst : Int) < (ev.len : Int) → False) → 0 + totE ev x.fst ≤ x.snd.length ∧ D.list (List.take (totE ev x.fst) x.snd) = listD (flatL
ev ev.len))) ∧ ∀ (x_1 : List D), ((↑(totE ev x) : Int) - (0 + 1)).NonNeg → ((∃ (x : Nat × List D), (x.fst ≤ ev.len ∧ totE ev ev.len = 0) ∧ (0 = (x.fst : Int) ∧ False ∧ True) ∧ True) ∨ ∃ (x : Nat × List D), (x.fst ≤
ev.len ∧ 0 < totE ev ev.len ∧ totE ev x.fst ≤ x.snd.length ∧ List.take (totE ev x.fst) x.snd = flatL ev x.fst) ∧ (0 = (x.fst : Int) ∧ ((0 : Nat) = 0 ∧ 0 = totE ev x.fst ∧ True) ∧ True) ∧ x_1 = x.snd ∧ True) ∧ (∀ (x : Nat
× List D), x.fst ≤ ev.len ∧ totE ev ev.len = 0 → ev.len - x.fst < LIM ∧ ((x.fst : Int) < (ev.len : Int) → 0 ≤ (x.fst : Int) ∧ (x.fst : Int) < (ev.len : Int) ∧ ((el ev x.fst).len = 0 → fits64 ((x.fst : Int) + 1) ∧ ((∃ (y
: Nat × List D), (y.fst ≤ ev.len ∧ totE ev ev.len = 0) ∧ ev.len - y.fst < ev.len - x.fst ∧ ((x.fst : Int) + 1 = (y.fst : Int) ∧ True ∧ True) ∧ True) ∨ ∃ (y : Nat × List D), (y.fst ≤ ev.len ∧ 0 < totE ev ev.len ∧ totE ev
y.fst ≤ y.snd.length ∧ List.take (totE ev y.fst) y.snd = flatL ev y.fst) ∧ ev.len - y.fst < ev.len - x.fst ∧ ((x.fst : Int) + 1 = (y.fst : Int) ∧ False ∧ True) ∧ x_1 = y.snd ∧ True)) ∧ (0 < (el ev x.fst).len → (el ev
x.fst).len ≤ 16777216 ∧ fits64 ((x.fst : Int) + 1) ∧ ((∃ (y : Nat × List D), (y.fst ≤ ev.len ∧ totE ev ev.len = 0) ∧ ev.len - y.fst < ev.len - x.fst ∧ ((x.fst : Int) + 1 = (y.fst : Int) ∧ False ∧ True) ∧ True) ∨ ∃ (y :
Nat × List D), (y.fst ≤ ev.len ∧ 0 < totE ev ev.len ∧ totE ev y.fst ≤ y.snd.length ∧ List.take (totE ev y.fst) y.snd = flatL ev y.fst) ∧ ev.len - y.fst < ev.len - x.fst ∧ ((x.fst : Int) + 1 = (y.fst : Int) ∧ ((0 : Nat) =
0 ∧ (el ev x.fst).len = totE ev y.fst ∧ True) ∧ True) ∧ (el ev x.fst).asList = y.snd ∧ True))) ∧ (((x.fst : Int) < (ev.len : Int) → False) → D.nil = listD (flatL ev ev.len))) ∧ ∀ (x : Nat × List D), x.fst ≤ ev.len ∧ 0 <
totE ev ev.len ∧ totE ev x.fst ≤ x.snd.length ∧ List.take (totE ev x.fst) x.snd = flatL ev x.fst → ev.len - x.fst < LIM ∧ ((x.fst : Int) < (ev.len : Int) → 0 ≤ (x.fst : Int) ∧ (x.fst : Int) < (ev.len : Int) ∧ ((el ev
x.fst).len = 0 → fits64 ((x.fst : Int) + 1) ∧ ((∃ (y : Nat × List D), (y.fst ≤ ev.len ∧ totE ev ev.len = 0) ∧ ev.len - y.fst < ev.len - x.fst ∧ False) ∨ ∃ (y : Nat × List D), (y.fst ≤ ev.len ∧ 0 < totE ev ev.len ∧ totE
ev y.fst ≤ y.snd.length ∧ List.take (totE ev y.fst) y.snd = flatL ev y.fst) ∧ ev.len - y.fst < ev.len - x.fst ∧ ((x.fst : Int) + 1 = (y.fst : Int) ∧ ((0 : Nat) = 0 ∧ totE ev x.fst = totE ev y.fst ∧ True) ∧ True) ∧ x.snd
= y.snd ∧ True)) ∧ (0 < (el ev x.fst).len → 0 + totE ev x.fst ≤ x.snd.length ∧ totE ev x.fst + (el ev x.fst).len ≤ 16777216 ∧ fits64 ((x.fst : Int) + 1) ∧ ((∃ (y : Nat × List D), (y.fst ≤ ev.len ∧ totE ev ev.len = 0) ∧
ev.len - y.fst < ev.len - x.fst ∧ False) ∨ ∃ (y : Nat × List D), (y.fst ≤ ev.len ∧ 0 < totE ev ev.len ∧ totE ev y.fst ≤ y.snd.length ∧ List.take (totE ev y.fst) y.snd = flatL ev y.fst) ∧ ev.len - y.fst < ev.len - x.fst ∧
((x.fst : Int) + 1 = (y.fst : Int) ∧ ((0 : Nat) = 0 ∧ totE ev x.fst + (el ev x.fst).len = totE ev y.fst ∧ True) ∧ True) ∧ List.take (totE ev x.fst) x.snd ++ (el ev x.fst).asList = y.snd ∧ True))) ∧ (((x.fst : Int) <
(ev.len : Int) → False) → 0 + totE ev x.fst ≤ x.snd.length ∧ D.list (List.take (totE ev x.fst) x.snd) = listD (flatL ev ev.len)))) := by intros; kernel_rfl
section
variable {n : Int} {sz s : D}
theorem chk_90 (h : ¬ (1 ≤ n ∧ n ≤ 64) ∨ (0 < sz.len ∧ ¬ fitP n sz)) : chk n sz s = (0, 90) := by unfold chk; rw [if_pos h]
theorem chk_7 (h : 1 ≤ n ∧ n ≤ 64) (h1 : 0 < sz.len → fitP n sz) (h2 : 64 < s.len) : chk n sz s = (0, 7) := by unfold chk; rw [if_neg fun h' => h'.elim (fun k => k h) fun k => k.2 (h1 k.1), if_pos h2]
theorem chk_s (h : 1 ≤ n ∧ n ≤ 64) (h1 : 0 < sz.len → fitP n sz) (h2 : ¬ 64 < s.len) : chk n sz s = scanK n sz s s.len 0 := by unfold chk; rw [if_neg fun h' => h'.elim (fun k => k h) fun k => k.2 (h1 k.1), if_neg h2]
end
theorem s5 (n : Int) (sz s : D) (hz : sz.len ≤ 1000) (hs : bigP s) : symFun (ctx ck4 ekAnn) 4 9 [.int .i64 n, .dat 25 sz, .dat 24 s] (.tup [.int .i64 (chk n sz s).1, .int .i64 (chk n sz s).2]) := by
 rw [vc5]
 have bad : (¬ (1 ≤ n ∧ n ≤ 64) ∨ (0 < sz.len ∧ ¬ fitP n sz)) → 0 = (chk n sz s).1 ∧ 90 = (chk n sz s).2 ∧ True := fun h => by rw [chk_90 h]; exact ⟨rfl, rfl, trivial⟩
 refine ⟨fun h1 => ⟨fun h2 => ?_, fun h2 => bad (.inl (by have := not_of h2; omega))⟩, fun h1 => bad (.inl (by have := not_of h1; omega))⟩
 have h2 := Classical.not_not.1 h2
 refine ⟨fun h0 => ⟨⟨⟨h1, h2⟩, by omega⟩, fun hf => bad (.inr ⟨by omega, hf⟩), fun hf => ?_⟩, fun h0 => ?_⟩
 all_goals
  have hfit : 0 < sz.len → fitP n sz := by first | (intro _; exact Classical.not_not.1 hf) | (intro h; exact absurd (show (0 : Int) < (sz.len : Int) by omega) h0)
  refine ⟨fun h3 => by rw [chk_7 ⟨h1, h2⟩ hfit (by omega)]; exact ⟨rfl, rfl, trivial⟩, fun h3 => ?_⟩
  have h3 := not_of h3
  rw [chk_s ⟨h1, h2⟩ hfit (by omega)]
  refine And.intro ⟨0, ⟨Nat.zero_le _, rfl⟩, ⟨rfl, trivial⟩, trivial⟩ (fun x hx => ⟨lim_of (by omega), fun hlt => ?_, fun hge => ?_⟩)
  ·have st := scan_step (n := n) (sz := sz) (s := s) (x := x) (by omega)
   rw [hx.2] at st
   refine ⟨by omega, by omega, ⟨⟨h1, h2⟩, hs.out.2 x (by omega), hz⟩, fun hn => by rw [st, if_pos hn]; exact ⟨rfl, rfl, trivial⟩, fun hn => ⟨⟨by omega, by omega⟩, x + 1, ⟨by omega, ?_⟩, by omega, ⟨by omega, trivial⟩, trivial⟩⟩
   rw [st, if_neg hn]
  ·have hge := not_of hge
   have st := scan_end (n := n) (sz := sz) (s := s) (x := x) (by omega)
   rw [hx.2] at st
   rw [st]; exact ⟨rfl, rfl, trivial⟩
theorem tot0_flat {ev : D} (h : totE ev ev.len = 0) {x : Nat} (hx : x ≤ ev.len) : flatL ev x = [] := by
 have h1 := tot_mono' ev hx
 exact List.eq_nil_of_length_eq_zero (by rw [flat_len]; omega)
theorem nn_of {a b : Int} (h : a ≤ b) : (b - a).NonNeg := h
theorem s33 (ev : D) (he : smE ev) : symFun (ctxj cc0 ekAnn ekJoin) 4 64 [.dat 32 ev] (.dat 25 (listD (flatL ev ev.len))) := by
 rw [vc33]
 have hl := he.out.1
 have ht := tot_le he.out.2
 refine And.intro ⟨0, Nat.zero_le _, ⟨rfl, rfl, trivial⟩, trivial⟩ (fun x hx => ?_)
 have hx : x ≤ ev.len := hx
 have htx := ht x hx
 refine ⟨lim_of (by omega), fun hlt => ?_, fun hge => ?_⟩
 ·have h2 := he.out.2 x (by omega)
  have e : totE ev (x + 1) = totE ev x + (el ev x).len := rfl
  exact ⟨by omega, by omega, ⟨by omega, by omega⟩, fun h => by omega, fun _ => ⟨⟨by omega, by omega⟩, x + 1, show x + 1 ≤ ev.len by omega, by omega, ⟨by omega, by omega, trivial⟩, trivial⟩⟩
 have hge := not_of hge
 have hxe : x = ev.len := by omega
 subst hxe
 refine ⟨⟨fun h => by omega, fun _ => ⟨⟨by omega, by omega⟩, fun hpos => ⟨by omega, by omega, by omega, by omega, by omega, by omega, by omega, nn_of (by omega), Or.inr ⟨_, nn_of (by omega), ⟨⟨rfl, rfl, trivial⟩, trivial⟩, rfl, trivial⟩⟩, fun hz => Or.inl ⟨[], nn_of (by have := not_of hz; omega), ⟨trivial, trivial⟩, trivial⟩⟩⟩, fun r0 hr0 => ?_, fun r0 hr0 => ?_⟩
 ·have hz : (totE ev ev.len : Int) ≤ 0 := hr0
  have h0 : totE ev ev.len = 0 := by omega
  refine ⟨Or.inl ⟨(0, []), ⟨Nat.zero_le _, h0⟩, ⟨rfl, trivial, trivial⟩, trivial⟩, fun y hy => ?_, fun y hy => by have := hy.2.1; omega⟩
  obtain ⟨k, r⟩ := y
  dsimp only at hy ⊢
  obtain ⟨hk, _⟩ := hy
  refine ⟨lim_of (by omega), fun hlt => ⟨by omega, by omega, fun hn => ⟨⟨by omega, by omega⟩, Or.inl ⟨(k + 1, []), ⟨by omega, h0⟩, by omega, ⟨by omega, trivial, trivial⟩, trivial⟩⟩, fun hn => ?_⟩, fun hge => ?_⟩
  ·have e : totE ev (k + 1) = totE ev k + (el ev k).len := rfl
   have := tot_mono' ev (show k + 1 ≤ ev.len by omega)
   exact absurd hn (by omega)
  ·rw [tot0_flat h0 (Nat.le_refl _)]; rfl
 ·have hp0 : (0 : Int) + 1 ≤ (totE ev ev.len : Int) := hr0
  refine ⟨Or.inr ⟨(0, r0), ⟨Nat.zero_le _, by omega, Nat.zero_le _, rfl⟩, ⟨rfl, ⟨rfl, rfl, trivial⟩, trivial⟩, rfl, trivial⟩, fun y hy => by have := hy.2; omega, fun y hy => ?_⟩
  obtain ⟨k, r⟩ := y
  dsimp only at hy ⊢
  obtain ⟨hk, hp, hr, hrt⟩ := hy
  have htk := ht k hk
  refine ⟨lim_of (by omega), fun hlt => ?_, fun hge => ?_⟩
  ·have h2 := he.out.2 k (by omega)
   have e : totE ev (k + 1) = totE ev k + (el ev k).len := rfl
   have ef : flatL ev (k + 1) = flatL ev k ++ (el ev k).asList := rfl
   have el0 : (el ev k).asList.length = (el ev k).len := rfl
   refine ⟨by omega, by omega, fun h0 => ⟨⟨by omega, by omega⟩, Or.inr ⟨(k + 1, r), ⟨by omega, by omega, by dsimp only; omega, ?_⟩, by dsimp only; omega, ⟨by dsimp only; omega, ⟨rfl, by dsimp only; omega, trivial⟩, trivial⟩, rfl, trivial⟩⟩, fun h0 => ⟨by omega, by omega, ⟨by omega, by omega⟩, Or.inr ⟨(k + 1, _), ⟨by dsimp only; omega, by omega, ?_, ?_⟩, by dsimp only; omega, ⟨by dsimp only; omega, ⟨rfl, by dsimp only; omega, trivial⟩, trivial⟩, rfl, trivial⟩⟩⟩
   ·dsimp only
    rw [e, h0, Nat.add_zero, hrt, ef, List.eq_nil_of_length_eq_zero (show (el ev k).asList.length = 0 from h0), List.append_nil]
   ·dsimp only
    rw [List.length_append, hrt, flat_len]
    exact Nat.le_of_eq rfl
   ·dsimp only
    rw [hrt, ef]
    exact List.take_of_length_le (by rw [List.length_append, flat_len]; exact Nat.le_of_eq rfl)
  ·have hge := not_of hge
   have e : k = ev.len := by omega
   subst e
   refine ⟨by omega, ?_⟩
   rw [hrt]
   cases hf : flatL ev ev.len with
   | nil => have := flat_len ev ev.len; rw [hf] at this; exact absurd this.symm (by show ¬ totE ev ev.len = 0; omega)
   | cons a l => rfl
end Go.Ev
