/-
  Part of the engine that the claim is proved with: it states nothing of the document by itself.
-/
import Derived.Test.YtpcokmpipjcndaaGreatDoorCoreG23

section
open Go.Proofs
namespace Go.Ev
set_option maxRecDepth 100000
set_option maxHeartbeats 4000000
theorem vc76 : ∀ (s : List UInt8), symFun (ctx (fun _ => none) hpAnn) (3 : Nat) (76 : FuncId) [V.str s] (V.tup [V.dat (82 : TypeId) (pD (okW s) (D.list (strsD (piecesOf (32 : UInt8) s)))), V.prop (okW
s)]) = (((∃ (x : Nat × Nat × Nat), (((x.fst ≤ s.length ∧ x.snd.fst ≤ x.fst ∧ x.snd.snd ≤ List.count (32 : UInt8) s ∧ (∀ (j : Nat), x.snd.fst ≤ j → j < x.fst → byteAt s j = (32 : Int) → False) ∧
List.drop x.snd.snd (piecesOf (32 : UInt8) s) = piecesOf (32 : UInt8) (List.drop x.snd.fst s) ∧ ∀ (w : List UInt8), List.Mem w (List.take x.snd.snd (piecesOf (32 : UInt8) s)) → w = [] → False) ∨ x.fst
= s.length + (1 : Nat) ∧ x.snd.fst = x.fst ∧ x.snd.snd = List.count (32 : UInt8) s + (1 : Nat) ∧ okW s) ∧ x.snd.snd = (0 : Nat)) ∧ ((0 : Int) = (↑x.fst : Int) ∧ [] = List.drop x.snd.fst (List.take
x.fst s) ∧ True ∧ True) ∧ True) ∨ ∃ (x : Nat × Nat × Nat), (((x.fst ≤ s.length ∧ x.snd.fst ≤ x.fst ∧ x.snd.snd ≤ List.count (32 : UInt8) s ∧ (∀ (j : Nat), x.snd.fst ≤ j → j < x.fst → byteAt s j = (32
: Int) → False) ∧ List.drop x.snd.snd (piecesOf (32 : UInt8) s) = piecesOf (32 : UInt8) (List.drop x.snd.fst s) ∧ ∀ (w : List UInt8), List.Mem w (List.take x.snd.snd (piecesOf (32 : UInt8) s)) → w =
[] → False) ∨ x.fst = s.length + (1 : Nat) ∧ x.snd.fst = x.fst ∧ x.snd.snd = List.count (32 : UInt8) s + (1 : Nat) ∧ okW s) ∧ Nat.le (1 : Nat) x.snd.snd) ∧ ((0 : Int) = (↑x.fst : Int) ∧ [] = List.drop
x.snd.fst (List.take x.fst s) ∧ False ∧ True) ∧ False ∧ True) ∧ (∀ (x : Nat × Nat × Nat), ((x.fst ≤ s.length ∧ x.snd.fst ≤ x.fst ∧ x.snd.snd ≤ List.count (32 : UInt8) s ∧ (∀ (j : Nat), x.snd.fst ≤ j →
j < x.fst → byteAt s j = (32 : Int) → False) ∧ List.drop x.snd.snd (piecesOf (32 : UInt8) s) = piecesOf (32 : UInt8) (List.drop x.snd.fst s) ∧ ∀ (w : List UInt8), List.Mem w (List.take x.snd.snd
(piecesOf (32 : UInt8) s)) → w = [] → False) ∨ x.fst = s.length + (1 : Nat) ∧ x.snd.fst = x.fst ∧ x.snd.snd = List.count (32 : UInt8) s + (1 : Nat) ∧ okW s) ∧ x.snd.snd = (0 : Nat) → s.length + (1 :
Nat) - x.fst < LIM ∧ ((↑x.fst : Int) ≤ (↑s.length : Int) → ((↑x.fst : Int) < (↑s.length : Int) → (0 : Int) ≤ (↑x.fst : Int) ∧ (↑x.fst : Int) < (↑s.length : Int) ∧ ((byteAt s x.fst = (32 : Int) →
False) → ((-9223372036854775808 : Int) ≤ (↑x.fst : Int) + (1 : Int) ∧ (↑x.fst : Int) + (1 : Int) < (9223372036854775808 : Int)) ∧ (0 : Int) ≤ (↑x.fst : Int) ∧ (↑x.fst : Int) ≤ (↑x.fst : Int) + (1 :
Int) ∧ (↑x.fst : Int) + (1 : Int) ≤ (↑s.length : Int) ∧ (List.drop x.snd.fst (List.take x.fst s)).length + (List.take (((↑x.fst : Int) + (1 : Int)).toNat - x.fst) (List.drop x.fst s)).length <
(9223372036854775808 : Nat) ∧ ((-9223372036854775808 : Int) ≤ (↑x.fst : Int) + (1 : Int) ∧ (↑x.fst : Int) + (1 : Int) < (9223372036854775808 : Int)) ∧ ((∃ (y : Nat × Nat × Nat), (((y.fst ≤ s.length ∧
y.snd.fst ≤ y.fst ∧ y.snd.snd ≤ List.count (32 : UInt8) s ∧ (∀ (j : Nat), y.snd.fst ≤ j → j < y.fst → byteAt s j = (32 : Int) → False) ∧ List.drop y.snd.snd (piecesOf (32 : UInt8) s) = piecesOf (32 :
UInt8) (List.drop y.snd.fst s) ∧ ∀ (w : List UInt8), List.Mem w (List.take y.snd.snd (piecesOf (32 : UInt8) s)) → w = [] → False) ∨ y.fst = s.length + (1 : Nat) ∧ y.snd.fst = y.fst ∧ y.snd.snd =
List.count (32 : UInt8) s + (1 : Nat) ∧ okW s) ∧ y.snd.snd = (0 : Nat)) ∧ s.length + (1 : Nat) - y.fst < s.length + (1 : Nat) - x.fst ∧ ((↑x.fst : Int) + (1 : Int) = (↑y.fst : Int) ∧ List.drop
x.snd.fst (List.take x.fst s) ++ List.take (((↑x.fst : Int) + (1 : Int)).toNat - x.fst) (List.drop x.fst s) = List.drop y.snd.fst (List.take y.fst s) ∧ True ∧ True) ∧ True) ∨ ∃ (y : Nat × Nat × Nat),
(((y.fst ≤ s.length ∧ y.snd.fst ≤ y.fst ∧ y.snd.snd ≤ List.count (32 : UInt8) s ∧ (∀ (j : Nat), y.snd.fst ≤ j → j < y.fst → byteAt s j = (32 : Int) → False) ∧ List.drop y.snd.snd (piecesOf (32 :
UInt8) s) = piecesOf (32 : UInt8) (List.drop y.snd.fst s) ∧ ∀ (w : List UInt8), List.Mem w (List.take y.snd.snd (piecesOf (32 : UInt8) s)) → w = [] → False) ∨ y.fst = s.length + (1 : Nat) ∧ y.snd.fst
= y.fst ∧ y.snd.snd = List.count (32 : UInt8) s + (1 : Nat) ∧ okW s) ∧ Nat.le (1 : Nat) y.snd.snd) ∧ s.length + (1 : Nat) - y.fst < s.length + (1 : Nat) - x.fst ∧ ((↑x.fst : Int) + (1 : Int) = (↑y.fst
: Int) ∧ List.drop x.snd.fst (List.take x.fst s) ++ List.take (((↑x.fst : Int) + (1 : Int)).toNat - x.fst) (List.drop x.fst s) = List.drop y.snd.fst (List.take y.fst s) ∧ False ∧ True) ∧ False ∧
True)) ∧ (((byteAt s x.fst = (32 : Int) → False) → False) → (List.drop x.snd.fst (List.take x.fst s) = [] → D.nil = pD (okW s) (D.list (strsD (piecesOf (32 : UInt8) s))) ∧ (false = true ↔ okW s) ∧
True) ∧ ((List.drop x.snd.fst (List.take x.fst s) = [] → False) → (0 : Nat) + (1 : Nat) ≤ [D.str (List.drop x.snd.fst (List.take x.fst s))].length ∧ (1 : Nat) ≤ (16777216 : Nat) ∧
((-9223372036854775808 : Int) ≤ (↑x.fst : Int) + (1 : Int) ∧ (↑x.fst : Int) + (1 : Int) < (9223372036854775808 : Int)) ∧ ((∃ (y : Nat × Nat × Nat), (((y.fst ≤ s.length ∧ y.snd.fst ≤ y.fst ∧ y.snd.snd
≤ List.count (32 : UInt8) s ∧ (∀ (j : Nat), y.snd.fst ≤ j → j < y.fst → byteAt s j = (32 : Int) → False) ∧ List.drop y.snd.snd (piecesOf (32 : UInt8) s) = piecesOf (32 : UInt8) (List.drop y.snd.fst s)
∧ ∀ (w : List UInt8), List.Mem w (List.take y.snd.snd (piecesOf (32 : UInt8) s)) → w = [] → False) ∨ y.fst = s.length + (1 : Nat) ∧ y.snd.fst = y.fst ∧ y.snd.snd = List.count (32 : UInt8) s + (1 :
Nat) ∧ okW s) ∧ y.snd.snd = (0 : Nat)) ∧ s.length + (1 : Nat) - y.fst < s.length + (1 : Nat) - x.fst ∧ ((↑x.fst : Int) + (1 : Int) = (↑y.fst : Int) ∧ [] = List.drop y.snd.fst (List.take y.fst s) ∧
False ∧ True) ∧ True) ∨ ∃ (y : Nat × Nat × Nat), (((y.fst ≤ s.length ∧ y.snd.fst ≤ y.fst ∧ y.snd.snd ≤ List.count (32 : UInt8) s ∧ (∀ (j : Nat), y.snd.fst ≤ j → j < y.fst → byteAt s j = (32 : Int) →
False) ∧ List.drop y.snd.snd (piecesOf (32 : UInt8) s) = piecesOf (32 : UInt8) (List.drop y.snd.fst s) ∧ ∀ (w : List UInt8), List.Mem w (List.take y.snd.snd (piecesOf (32 : UInt8) s)) → w = [] →
False) ∨ y.fst = s.length + (1 : Nat) ∧ y.snd.fst = y.fst ∧ y.snd.snd = List.count (32 : UInt8) s + (1 : Nat) ∧ okW s) ∧ Nat.le (1 : Nat) y.snd.snd) ∧ s.length + (1 : Nat) - y.fst < s.length + (1 :
Nat) - x.fst ∧ ((↑x.fst : Int) + (1 : Int) = (↑y.fst : Int) ∧ [] = List.drop y.snd.fst (List.take y.fst s) ∧ ((0 : Nat) = (0 : Nat) ∧ (1 : Nat) = y.snd.snd ∧ True) ∧ True) ∧ List.take (1 : Nat) [D.str
(List.drop x.snd.fst (List.take x.fst s))] = strsD (List.take y.snd.snd (piecesOf (32 : UInt8) s)) ∧ True)))) ∧ (((↑x.fst : Int) < (↑s.length : Int) → False) → (List.drop x.snd.fst (List.take x.fst s)
= [] → D.nil = pD (okW s) (D.list (strsD (piecesOf (32 : UInt8) s))) ∧ (false = true ↔ okW s) ∧ True) ∧ ((List.drop x.snd.fst (List.take x.fst s) = [] → False) → (0 : Nat) + (1 : Nat) ≤ [D.str
(List.drop x.snd.fst (List.take x.fst s))].length ∧ (1 : Nat) ≤ (16777216 : Nat) ∧ ((-9223372036854775808 : Int) ≤ (↑x.fst : Int) + (1 : Int) ∧ (↑x.fst : Int) + (1 : Int) < (9223372036854775808 :
Int)) ∧ ((∃ (y : Nat × Nat × Nat), (((y.fst ≤ s.length ∧ y.snd.fst ≤ y.fst ∧ y.snd.snd ≤ List.count (32 : UInt8) s ∧ (∀ (j : Nat), y.snd.fst ≤ j → j < y.fst → byteAt s j = (32 : Int) → False) ∧
List.drop y.snd.snd (piecesOf (32 : UInt8) s) = piecesOf (32 : UInt8) (List.drop y.snd.fst s) ∧ ∀ (w : List UInt8), List.Mem w (List.take y.snd.snd (piecesOf (32 : UInt8) s)) → w = [] → False) ∨ y.fst
= s.length + (1 : Nat) ∧ y.snd.fst = y.fst ∧ y.snd.snd = List.count (32 : UInt8) s + (1 : Nat) ∧ okW s) ∧ y.snd.snd = (0 : Nat)) ∧ s.length + (1 : Nat) - y.fst < s.length + (1 : Nat) - x.fst ∧
((↑x.fst : Int) + (1 : Int) = (↑y.fst : Int) ∧ [] = List.drop y.snd.fst (List.take y.fst s) ∧ False ∧ True) ∧ True) ∨ ∃ (y : Nat × Nat × Nat), (((y.fst ≤ s.length ∧ y.snd.fst ≤ y.fst ∧ y.snd.snd ≤
List.count (32 : UInt8) s ∧ (∀ (j : Nat), y.snd.fst ≤ j → j < y.fst → byteAt s j = (32 : Int) → False) ∧ List.drop y.snd.snd (piecesOf (32 : UInt8) s) = piecesOf (32 : UInt8) (List.drop y.snd.fst s) ∧
∀ (w : List UInt8), List.Mem w (List.take y.snd.snd (piecesOf (32 : UInt8) s)) → w = [] → False) ∨ y.fst = s.length + (1 : Nat) ∧ y.snd.fst = y.fst ∧ y.snd.snd = List.count (32 : UInt8) s + (1 : Nat)
∧ okW s) ∧ Nat.le (1 : Nat) y.snd.snd) ∧ s.length + (1 : Nat) - y.fst < s.length + (1 : Nat) - x.fst ∧ ((↑x.fst : Int) + (1 : Int) = (↑y.fst : Int) ∧ [] = List.drop y.snd.fst (List.take y.fst s) ∧ ((0
: Nat) = (0 : Nat) ∧ (1 : Nat) = y.snd.snd ∧ True) ∧ True) ∧ List.take (1 : Nat) [D.str (List.drop x.snd.fst (List.take x.fst s))] = strsD (List.take y.snd.snd (piecesOf (32 : UInt8) s)) ∧ True)))) ∧
(((↑x.fst : Int) ≤ (↑s.length : Int) → False) → D.nil = pD (okW s) (D.list (strsD (piecesOf (32 : UInt8) s))) ∧ (true = true ↔ okW s) ∧ True)) ∧ ∀ (x : Nat × Nat × Nat), ((x.fst ≤ s.length ∧ x.snd.fst
≤ x.fst ∧ x.snd.snd ≤ List.count (32 : UInt8) s ∧ (∀ (j : Nat), x.snd.fst ≤ j → j < x.fst → byteAt s j = (32 : Int) → False) ∧ List.drop x.snd.snd (piecesOf (32 : UInt8) s) = piecesOf (32 : UInt8)
(List.drop x.snd.fst s) ∧ ∀ (w : List UInt8), List.Mem w (List.take x.snd.snd (piecesOf (32 : UInt8) s)) → w = [] → False) ∨ x.fst = s.length + (1 : Nat) ∧ x.snd.fst = x.fst ∧ x.snd.snd = List.count
(32 : UInt8) s + (1 : Nat) ∧ okW s) ∧ Nat.le (1 : Nat) x.snd.snd → s.length + (1 : Nat) - x.fst < LIM ∧ ((↑x.fst : Int) ≤ (↑s.length : Int) → ((↑x.fst : Int) < (↑s.length : Int) → (0 : Int) ≤ (↑x.fst
: Int) ∧ (↑x.fst : Int) < (↑s.length : Int) ∧ ((byteAt s x.fst = (32 : Int) → False) → ((-9223372036854775808 : Int) ≤ (↑x.fst : Int) + (1 : Int) ∧ (↑x.fst : Int) + (1 : Int) < (9223372036854775808 :
Int)) ∧ (0 : Int) ≤ (↑x.fst : Int) ∧ (↑x.fst : Int) ≤ (↑x.fst : Int) + (1 : Int) ∧ (↑x.fst : Int) + (1 : Int) ≤ (↑s.length : Int) ∧ (List.drop x.snd.fst (List.take x.fst s)).length + (List.take
(((↑x.fst : Int) + (1 : Int)).toNat - x.fst) (List.drop x.fst s)).length < (9223372036854775808 : Nat) ∧ ((-9223372036854775808 : Int) ≤ (↑x.fst : Int) + (1 : Int) ∧ (↑x.fst : Int) + (1 : Int) <
(9223372036854775808 : Int)) ∧ ((∃ (y : Nat × Nat × Nat), (((y.fst ≤ s.length ∧ y.snd.fst ≤ y.fst ∧ y.snd.snd ≤ List.count (32 : UInt8) s ∧ (∀ (j : Nat), y.snd.fst ≤ j → j < y.fst → byteAt s j = (32 :
Int) → False) ∧ List.drop y.snd.snd (piecesOf (32 : UInt8) s) = piecesOf (32 : UInt8) (List.drop y.snd.fst s) ∧ ∀ (w : List UInt8), List.Mem w (List.take y.snd.snd (piecesOf (32 : UInt8) s)) → w = []
→ False) ∨ y.fst = s.length + (1 : Nat) ∧ y.snd.fst = y.fst ∧ y.snd.snd = List.count (32 : UInt8) s + (1 : Nat) ∧ okW s) ∧ y.snd.snd = (0 : Nat)) ∧ s.length + (1 : Nat) - y.fst < s.length + (1 : Nat)
- x.fst ∧ ((↑x.fst : Int) + (1 : Int) = (↑y.fst : Int) ∧ List.drop x.snd.fst (List.take x.fst s) ++ List.take (((↑x.fst : Int) + (1 : Int)).toNat - x.fst) (List.drop x.fst s) = List.drop y.snd.fst
(List.take y.fst s) ∧ False ∧ True) ∧ True) ∨ ∃ (y : Nat × Nat × Nat), (((y.fst ≤ s.length ∧ y.snd.fst ≤ y.fst ∧ y.snd.snd ≤ List.count (32 : UInt8) s ∧ (∀ (j : Nat), y.snd.fst ≤ j → j < y.fst →
byteAt s j = (32 : Int) → False) ∧ List.drop y.snd.snd (piecesOf (32 : UInt8) s) = piecesOf (32 : UInt8) (List.drop y.snd.fst s) ∧ ∀ (w : List UInt8), List.Mem w (List.take y.snd.snd (piecesOf (32 :
UInt8) s)) → w = [] → False) ∨ y.fst = s.length + (1 : Nat) ∧ y.snd.fst = y.fst ∧ y.snd.snd = List.count (32 : UInt8) s + (1 : Nat) ∧ okW s) ∧ Nat.le (1 : Nat) y.snd.snd) ∧ s.length + (1 : Nat) -
y.fst < s.length + (1 : Nat) - x.fst ∧ ((↑x.fst : Int) + (1 : Int) = (↑y.fst : Int) ∧ List.drop x.snd.fst (List.take x.fst s) ++ List.take (((↑x.fst : Int) + (1 : Int)).toNat - x.fst) (List.drop x.fst
s) = List.drop y.snd.fst (List.take y.fst s) ∧ ((0 : Nat) = (0 : Nat) ∧ x.snd.snd = y.snd.snd ∧ True) ∧ True) ∧ strsD (List.take x.snd.snd (piecesOf (32 : UInt8) s)) = strsD (List.take y.snd.snd
(piecesOf (32 : UInt8) s)) ∧ True)) ∧ (((byteAt s x.fst = (32 : Int) → False) → False) → (List.drop x.snd.fst (List.take x.fst s) = [] → D.nil = pD (okW s) (D.list (strsD (piecesOf (32 : UInt8) s))) ∧
(false = true ↔ okW s) ∧ True) ∧ ((List.drop x.snd.fst (List.take x.fst s) = [] → False) → (0 : Nat) + (1 : Nat) ≤ [D.str (List.drop x.snd.fst (List.take x.fst s))].length ∧ (0 : Nat) + x.snd.snd ≤
(strsD (List.take x.snd.snd (piecesOf (32 : UInt8) s))).length ∧ x.snd.snd + (1 : Nat) ≤ (16777216 : Nat) ∧ ((-9223372036854775808 : Int) ≤ (↑x.fst : Int) + (1 : Int) ∧ (↑x.fst : Int) + (1 : Int) <
(9223372036854775808 : Int)) ∧ ((∃ (y : Nat × Nat × Nat), (((y.fst ≤ s.length ∧ y.snd.fst ≤ y.fst ∧ y.snd.snd ≤ List.count (32 : UInt8) s ∧ (∀ (j : Nat), y.snd.fst ≤ j → j < y.fst → byteAt s j = (32 :
Int) → False) ∧ List.drop y.snd.snd (piecesOf (32 : UInt8) s) = piecesOf (32 : UInt8) (List.drop y.snd.fst s) ∧ ∀ (w : List UInt8), List.Mem w (List.take y.snd.snd (piecesOf (32 : UInt8) s)) → w = []
→ False) ∨ y.fst = s.length + (1 : Nat) ∧ y.snd.fst = y.fst ∧ y.snd.snd = List.count (32 : UInt8) s + (1 : Nat) ∧ okW s) ∧ y.snd.snd = (0 : Nat)) ∧ s.length + (1 : Nat) - y.fst < s.length + (1 : Nat)
- x.fst ∧ ((↑x.fst : Int) + (1 : Int) = (↑y.fst : Int) ∧ [] = List.drop y.snd.fst (List.take y.fst s) ∧ False ∧ True) ∧ True) ∨ ∃ (y : Nat × Nat × Nat), (((y.fst ≤ s.length ∧ y.snd.fst ≤ y.fst ∧
y.snd.snd ≤ List.count (32 : UInt8) s ∧ (∀ (j : Nat), y.snd.fst ≤ j → j < y.fst → byteAt s j = (32 : Int) → False) ∧ List.drop y.snd.snd (piecesOf (32 : UInt8) s) = piecesOf (32 : UInt8) (List.drop
y.snd.fst s) ∧ ∀ (w : List UInt8), List.Mem w (List.take y.snd.snd (piecesOf (32 : UInt8) s)) → w = [] → False) ∨ y.fst = s.length + (1 : Nat) ∧ y.snd.fst = y.fst ∧ y.snd.snd = List.count (32 : UInt8)
s + (1 : Nat) ∧ okW s) ∧ Nat.le (1 : Nat) y.snd.snd) ∧ s.length + (1 : Nat) - y.fst < s.length + (1 : Nat) - x.fst ∧ ((↑x.fst : Int) + (1 : Int) = (↑y.fst : Int) ∧ [] = List.drop y.snd.fst (List.take
y.fst s) ∧ ((0 : Nat) = (0 : Nat) ∧ x.snd.snd + (1 : Nat) = y.snd.snd ∧ True) ∧ True) ∧ List.take x.snd.snd (strsD (List.take x.snd.snd (piecesOf (32 : UInt8) s))) ++ List.take (1 : Nat) [D.str
(List.drop x.snd.fst (List.take x.fst s))] = strsD (List.take y.snd.snd (piecesOf (32 : UInt8) s)) ∧ True)))) ∧ (((↑x.fst : Int) < (↑s.length : Int) → False) → (List.drop x.snd.fst (List.take x.fst s)
= [] → D.nil = pD (okW s) (D.list (strsD (piecesOf (32 : UInt8) s))) ∧ (false = true ↔ okW s) ∧ True) ∧ ((List.drop x.snd.fst (List.take x.fst s) = [] → False) → (0 : Nat) + (1 : Nat) ≤ [D.str
(List.drop x.snd.fst (List.take x.fst s))].length ∧ (0 : Nat) + x.snd.snd ≤ (strsD (List.take x.snd.snd (piecesOf (32 : UInt8) s))).length ∧ x.snd.snd + (1 : Nat) ≤ (16777216 : Nat) ∧
((-9223372036854775808 : Int) ≤ (↑x.fst : Int) + (1 : Int) ∧ (↑x.fst : Int) + (1 : Int) < (9223372036854775808 : Int)) ∧ ((∃ (y : Nat × Nat × Nat), (((y.fst ≤ s.length ∧ y.snd.fst ≤ y.fst ∧ y.snd.snd
≤ List.count (32 : UInt8) s ∧ (∀ (j : Nat), y.snd.fst ≤ j → j < y.fst → byteAt s j = (32 : Int) → False) ∧ List.drop y.snd.snd (piecesOf (32 : UInt8) s) = piecesOf (32 : UInt8) (List.drop y.snd.fst s)
∧ ∀ (w : List UInt8), List.Mem w (List.take y.snd.snd (piecesOf (32 : UInt8) s)) → w = [] → False) ∨ y.fst = s.length + (1 : Nat) ∧ y.snd.fst = y.fst ∧ y.snd.snd = List.count (32 : UInt8) s + (1 :
Nat) ∧ okW s) ∧ y.snd.snd = (0 : Nat)) ∧ s.length + (1 : Nat) - y.fst < s.length + (1 : Nat) - x.fst ∧ ((↑x.fst : Int) + (1 : Int) = (↑y.fst : Int) ∧ [] = List.drop y.snd.fst (List.take y.fst s) ∧
False ∧ True) ∧ True) ∨ ∃ (y : Nat × Nat × Nat), (((y.fst ≤ s.length ∧ y.snd.fst ≤ y.fst ∧ y.snd.snd ≤ List.count (32 : UInt8) s ∧ (∀ (j : Nat), y.snd.fst ≤ j → j < y.fst → byteAt s j = (32 : Int) →
False) ∧ List.drop y.snd.snd (piecesOf (32 : UInt8) s) = piecesOf (32 : UInt8) (List.drop y.snd.fst s) ∧ ∀ (w : List UInt8), List.Mem w (List.take y.snd.snd (piecesOf (32 : UInt8) s)) → w = [] →
False) ∨ y.fst = s.length + (1 : Nat) ∧ y.snd.fst = y.fst ∧ y.snd.snd = List.count (32 : UInt8) s + (1 : Nat) ∧ okW s) ∧ Nat.le (1 : Nat) y.snd.snd) ∧ s.length + (1 : Nat) - y.fst < s.length + (1 :
Nat) - x.fst ∧ ((↑x.fst : Int) + (1 : Int) = (↑y.fst : Int) ∧ [] = List.drop y.snd.fst (List.take y.fst s) ∧ ((0 : Nat) = (0 : Nat) ∧ x.snd.snd + (1 : Nat) = y.snd.snd ∧ True) ∧ True) ∧ List.take
x.snd.snd (strsD (List.take x.snd.snd (piecesOf (32 : UInt8) s))) ++ List.take (1 : Nat) [D.str (List.drop x.snd.fst (List.take x.fst s))] = strsD (List.take y.snd.snd (piecesOf (32 : UInt8) s)) ∧
True)))) ∧ (((↑x.fst : Int) ≤ (↑s.length : Int) → False) → ((0 : Nat) + x.snd.snd ≤ (strsD (List.take x.snd.snd (piecesOf (32 : UInt8) s))).length ∧ D.list (List.take x.snd.snd (strsD (List.take
x.snd.snd (piecesOf (32 : UInt8) s)))) = pD (okW s) (D.list (strsD (piecesOf (32 : UInt8) s)))) ∧ (true = true ↔ okW s) ∧ True)) := by intros; kernel_rfl
theorem w_eq (s : List UInt8) (i st : Nat) : (s.take i).drop st = (s.drop st).take (i - st) := by rw [List.drop_take]
theorem w_cut {s : List UInt8} {i st c : Nat} (hi : i < s.length) (hst : st ≤ i) (hn : ∀ j, st ≤ j → j < i → ¬ byteAt s j = 32) (hd : (piecesOf 32 s).drop c = piecesOf 32 (s.drop st)) (h10 : byteAt s i = 32) :
  c + 1 ≤ s.count 32 ∧ (piecesOf 32 s).drop (c + 1) = piecesOf 32 (s.drop (i + 1)) ∧ (piecesOf 32 s).take (c + 1) = (piecesOf 32 s).take c ++ [(s.take i).drop st] ∧ (s.take i).drop st ∈ piecesOf 32 s := by
 obtain ⟨u1, u2, u3⟩ := ln_cut 32 hi hst hn hd h10
 rw [w_eq]
 exact ⟨u1, u2, u3, List.mem_of_mem_take (i := c + 1) (by rw [u3]; exact List.mem_append_right _ (List.mem_singleton.2 rfl))⟩
theorem w_end {s : List UInt8} {i st c : Nat} (hi : i = s.length) (hn : ∀ j, st ≤ j → j < i → ¬ byteAt s j = 32) (hd : (piecesOf 32 s).drop c = piecesOf 32 (s.drop st)) :
  c = s.count 32 ∧ piecesOf 32 s = (piecesOf 32 s).take c ++ [(s.take i).drop st] ∧ (s.take i).drop st ∈ piecesOf 32 s := by
 subst hi
 obtain ⟨e1, e2, e3, e4⟩ := ln_end 32 hn hd
 rw [List.take_length]
 exact ⟨e1, e3, by rw [e3]; exact List.mem_append_right _ (List.mem_singleton.2 rfl)⟩
theorem w_go (s : List UInt8) (i st : Nat) (hi : i < s.length) (hst : st ≤ i) : (s.take i).drop st ++ List.take (((i : Int) + 1).toNat - i) (s.drop i) = (s.take (i + 1)).drop st := by
 rw [show ((i : Int) + 1).toNat - i = 1 by omega, List.take_succ_eq_append_getElem hi, List.drop_append_of_le_length (by rw [List.length_take]; omega), List.drop_eq_getElem_cons hi]
 rfl
theorem w_nil (s : List UInt8) (i : Nat) : [] = (s.take (i + 1)).drop (i + 1) := (List.drop_of_length_le (by rw [List.length_take]; omega)).symm
theorem mem_snoc {l : List (List UInt8)} {v : List UInt8} (h : ∀ w, List.Mem w l → ¬ w = []) (hv : ¬ v = []) : ∀ w, List.Mem w (l ++ [v]) → ¬ w = [] := fun w hw => by
 rcases List.mem_append.1 hw with h1 | h1
 ·exact h w h1
 ·rw [List.mem_singleton.1 h1]; exact hv
theorem s76 (s : List UInt8) (hs : s.length ≤ 100000) : symFun (ctx (fun _ => none) hpAnn) 3 76 [.str s] (.tup [.dat 82 (pD (okW s) (.list (strsD (piecesOf 32 s)))), .prop (okW s)]) := by
 rw [vc76]
 simp only [imp_false, Classical.not_not]
 have hcl : s.count 32 ≤ s.length := List.count_le_length
 have hP := pieces_len 32 s
 have tk : ∀ c, c ≤ s.count 32 + 1 → (strsD ((piecesOf 32 s).take c)).length = c := fun c hc => by rw [strs_len, List.length_take]; omega
 have tk' : ∀ c, c ≤ s.count 32 + 1 → List.take c (strsD ((piecesOf 32 s).take c)) = strsD ((piecesOf 32 s).take c) := fun c hc => take_all _ _ (by rw [tk c hc]; omega)
 have bad : ∀ {w : List UInt8}, w ∈ piecesOf 32 s → w = [] → D.nil = pD (okW s) (.list (strsD (piecesOf 32 s))) ∧ (false = true ↔ okW s) ∧ True := fun {w} hw he => by
  have hn : ¬ okW s := fun h => h.out w hw he
  exact ⟨pD_no _ hn, ⟨fun h => by simp at h, fun h => absurd h hn⟩, trivial⟩
 have meas : ∀ {i : Nat}, i ≤ s.length → s.length + 1 - (i + 1) < s.length + 1 - i := fun h => by omega
 have ext : ∀ {i st : Nat}, (∀ j, st ≤ j → j < i → ¬ byteAt s j = 32) → ¬ byteAt s i = 32 → ∀ j, st ≤ j → j < i + 1 → ¬ byteAt s j = 32 := fun {i st} hn hb j h1 h2 => by
  by_cases e : j = i
  ·subst e; exact hb
  ·exact hn j h1 (by omega)
 have lens : ∀ i st : Nat, (List.drop st (List.take i s)).length + (List.take (((i : Int) + 1).toNat - i) (List.drop i s)).length < 9223372036854775808 := fun i st => by
  rw [List.length_drop, List.length_take, List.length_take, List.length_drop]; omega
 refine ⟨.inl ⟨(0, 0, 0), ⟨.inl ⟨Nat.zero_le _, Nat.le_refl _, Nat.zero_le _, fun j _ h => absurd h (Nat.not_lt_zero _), rfl, fun w hw => absurd hw (List.not_mem_nil)⟩, rfl⟩, ⟨rfl, rfl, trivial, trivial⟩, trivial⟩, fun x ⟨hx, h0⟩ => ⟨by unfold LIM; omega, fun hle => ⟨fun hlt => ⟨by omega, hlt, fun hb => ?_, fun hb => ?_⟩, fun hlt => ?_⟩, fun hgt => ?_⟩, fun x ⟨hx, h0⟩ => ⟨by unfold LIM; omega, fun hle => ⟨fun hlt => ⟨by omega, hlt, fun hb => ?_, fun hb => ?_⟩, fun hlt => ?_⟩, fun hgt => ?_⟩⟩
 ·rcases hx with ⟨hi, hst, hc, hn, hd, hw⟩ | ⟨hi, _⟩
  ·refine ⟨⟨by omega, by omega⟩, by omega, by omega, by omega, lens _ _, ⟨by omega, by omega⟩, .inl ⟨(x.1 + 1, x.2.1, x.2.2), ⟨.inl ⟨by show x.1 + 1 ≤ s.length; omega, by show x.2.1 ≤ x.1 + 1; omega, hc, ext hn hb, hd, hw⟩, h0⟩, meas (by omega), ⟨by show (x.1 : Int) + 1 = ((x.1 + 1 : Nat) : Int); omega, w_go s x.1 x.2.1 (by omega) hst, trivial, trivial⟩, trivial⟩⟩
  ·omega
 ·rcases hx with ⟨hi, hst, hc, hn, hd, hw⟩ | ⟨hi, _⟩
  ·obtain ⟨u1, u2, u3, u4⟩ := w_cut (by omega) hst hn hd hb
   rw [h0] at u1 u2 u3
   refine ⟨fun he => bad u4 he, fun hne => ⟨Nat.le_refl 1, by decide, ⟨by omega, by omega⟩, .inr ⟨(x.1 + 1, x.1 + 1, 1), ⟨.inl ⟨by show x.1 + 1 ≤ s.length; omega, Nat.le_refl _, u1, fun j h1 h2 => absurd h2 (Nat.not_lt.2 h1), u2, ?_⟩, Nat.le_refl 1⟩, meas (by omega), ⟨by show (x.1 : Int) + 1 = ((x.1 + 1 : Nat) : Int); omega, w_nil _ _, ⟨by trivial, rfl, trivial⟩, trivial⟩, ?_, trivial⟩⟩⟩
   ·show ∀ w, List.Mem w (List.take (0 + 1) (piecesOf 32 s)) → ¬ w = []
    rw [u3]; exact mem_snoc (fun w hw => absurd hw (List.not_mem_nil)) hne
   ·show _ = strsD (List.take (0 + 1) (piecesOf 32 s))
    rw [u3]; rfl
  ·omega
 ·rcases hx with ⟨hi, hst, hc, hn, hd, hw⟩ | ⟨hi, _⟩
  ·obtain ⟨u1, u2, u3⟩ := w_end (by omega) hn hd
   rw [h0] at u1 u2
   refine ⟨fun he => bad u3 he, fun hne => ⟨Nat.le_refl 1, by decide, ⟨by omega, by omega⟩, .inr ⟨(x.1 + 1, x.1 + 1, 1), ⟨.inr ⟨by show x.1 + 1 = s.length + 1; omega, rfl, by show 1 = s.count 32 + 1; omega, ⟨fun w hw => ?_⟩⟩, Nat.le_refl 1⟩, meas (by omega), ⟨by show (x.1 : Int) + 1 = ((x.1 + 1 : Nat) : Int); omega, w_nil _ _, ⟨by trivial, rfl, trivial⟩, trivial⟩, ?_, trivial⟩⟩⟩
   ·rw [u2] at hw; exact mem_snoc (l := []) (fun w hw => absurd hw (List.not_mem_nil)) hne w hw
   ·show _ = strsD (List.take 1 (piecesOf 32 s))
    rw [take_all (piecesOf 32 s) 1 (by omega), u2]; rfl
  ·omega
 ·rcases hx with ⟨hi, _⟩ | ⟨hi, _, hc, _⟩ <;> omega
 ·rcases hx with ⟨hi, hst, hc, hn, hd, hw⟩ | ⟨hi, _⟩
  ·refine ⟨⟨by omega, by omega⟩, by omega, by omega, by omega, lens _ _, ⟨by omega, by omega⟩, .inr ⟨(x.1 + 1, x.2.1, x.2.2), ⟨.inl ⟨by show x.1 + 1 ≤ s.length; omega, by show x.2.1 ≤ x.1 + 1; omega, hc, ext hn hb, hd, hw⟩, h0⟩, meas (by omega), ⟨by show (x.1 : Int) + 1 = ((x.1 + 1 : Nat) : Int); omega, w_go s x.1 x.2.1 (by omega) hst, ⟨by trivial, rfl, trivial⟩, trivial⟩, rfl, trivial⟩⟩
  ·omega
 ·rcases hx with ⟨hi, hst, hc, hn, hd, hw⟩ | ⟨hi, _⟩
  ·obtain ⟨u1, u2, u3, u4⟩ := w_cut (by omega) hst hn hd hb
   refine ⟨fun he => bad u4 he, fun hne => ⟨Nat.le_refl 1, by rw [tk _ (by omega)]; omega, by omega, ⟨by omega, by omega⟩, .inr ⟨(x.1 + 1, x.1 + 1, x.2.2 + 1), ⟨.inl ⟨by show x.1 + 1 ≤ s.length; omega, Nat.le_refl _, u1, fun j h1 h2 => absurd h2 (Nat.not_lt.2 h1), u2, ?_⟩, by show 1 ≤ x.2.2 + 1; omega⟩, meas (by omega), ⟨by show (x.1 : Int) + 1 = ((x.1 + 1 : Nat) : Int); omega, w_nil _ _, ⟨by trivial, rfl, trivial⟩, trivial⟩, ?_, trivial⟩⟩⟩
   ·show ∀ w, List.Mem w (List.take (x.2.2 + 1) (piecesOf 32 s)) → ¬ w = []
    rw [u3]; exact mem_snoc hw hne
   ·show _ = strsD (List.take (x.2.2 + 1) (piecesOf 32 s))
    rw [u3, strs_app, tk' _ (by omega)]; rfl
  ·omega
 ·rcases hx with ⟨hi, hst, hc, hn, hd, hw⟩ | ⟨hi, _⟩
  ·obtain ⟨u1, u2, u3⟩ := w_end (by omega) hn hd
   refine ⟨fun he => bad u3 he, fun hne => ⟨Nat.le_refl 1, by rw [tk _ (by omega)]; omega, by omega, ⟨by omega, by omega⟩, .inr ⟨(x.1 + 1, x.1 + 1, x.2.2 + 1), ⟨.inr ⟨by show x.1 + 1 = s.length + 1; omega, rfl, by show x.2.2 + 1 = s.count 32 + 1; omega, ⟨fun w hw' => ?_⟩⟩, by show 1 ≤ x.2.2 + 1; omega⟩, meas (by omega), ⟨by show (x.1 : Int) + 1 = ((x.1 + 1 : Nat) : Int); omega, w_nil _ _, ⟨by trivial, rfl, trivial⟩, trivial⟩, ?_, trivial⟩⟩⟩
   ·rw [u2] at hw'; exact mem_snoc hw hne w hw'
   ·show _ = strsD (List.take (x.2.2 + 1) (piecesOf 32 s))
    rw [take_all (piecesOf 32 s) (x.2.2 + 1) (by omega), tk' _ (by omega)]
    conv => rhs; rw [u2]
    rw [strs_app]; rfl
  ·omega
 ·rcases hx with ⟨hi, _⟩ | ⟨hi, _, hc, hok⟩
  ·omega
  ·refine ⟨⟨by rw [tk _ (by omega)]; omega, ?_⟩, ⟨fun _ => hok, fun _ => by trivial⟩, trivial⟩
   rw [pD_yes _ hok, tk' _ (by omega), take_all (piecesOf 32 s) _ (by omega)]
end Go.Ev

end

section
open Go.Proofs
namespace Go.Ev
set_option maxRecDepth 100000
set_option maxHeartbeats 4000000
theorem vc32 : ∀ (s : List UInt8), symFun (ctx hp2 hpAnn) (4 : Nat) (32 : FuncId) [V.str s] (V.tup [rowV (lineP s) s, V.prop (lineP s)]) = (s.length ≤ (100000 : Nat) ∧ (((↑(strsD (piecesOf (32 :
UInt8) s)).length : Int) < (7 : Int) → False) → (0 : Int) ≤ (0 : Int) ∧ (0 : Int) < (↑(strsD (piecesOf (32 : UInt8) s)).length : Int) ∧ ((((nthD (strsD (piecesOf (32 : UInt8) s)) (Int.toNat (0 :
Int))).asStr = [(116 : UInt8), (97 : UInt8), (98 : UInt8), (108 : UInt8), (101 : UInt8)] → False) → False) → (0 : Int) ≤ (1 : Int) ∧ (1 : Int) < (↑(strsD (piecesOf (32 : UInt8) s)).length : Int) ∧
((nthD (strsD (piecesOf (32 : UInt8) s)) (Int.toNat (1 : Int))).asStr = [] → ([] = pS (lineP s) (wrd s (1 : Nat)) ∧ (0 : Int) = pI (lineP s) (shapeZ (wrd s (2 : Nat))) ∧ (0 : Int) = pI (lineP s) (nAt
s (0 : Nat)) ∧ (0 : Int) = pI (lineP s) (nAt s (1 : Nat)) ∧ D.nil = pD (lineP s) (restD s) ∧ (0 : Int) = pI (lineP s) (nAt s (2 : Nat)) ∧ (0 : Int) = pI (lineP s) (nAt s (3 : Nat)) ∧ True) ∧ (false =
true ↔ lineP s) ∧ True) ∧ (((nthD (strsD (piecesOf (32 : UInt8) s)) (Int.toNat (1 : Int))).asStr = [] → False) → (0 : Int) ≤ (2 : Int) ∧ (2 : Int) < (↑(strsD (piecesOf (32 : UInt8) s)).length : Int) ∧
True ∧ (0 : Int) ≤ (3 : Int) ∧ (3 : Int) ≤ (↑(strsD (piecesOf (32 : UInt8) s)).length : Int) ∧ (↑(strsD (piecesOf (32 : UInt8) s)).length : Int) ≤ (↑(strsD (piecesOf (32 : UInt8) s)).length : Int) ∧
((D.list (strsD (piecesOf (32 : UInt8) s))).sub (Int.toNat (3 : Int)) ((strsD (piecesOf (32 : UInt8) s)).length - Int.toNat (3 : Int))).len ≤ (100000 : Nat) ∧ ((((shapeZ (nthD (strsD (piecesOf (32 :
UInt8) s)) (Int.toNat (2 : Int))).asStr = (0 : Int) → False) → False) → False) → ((numsP ((D.list (strsD (piecesOf (32 : UInt8) s))).sub (Int.toNat (3 : Int)) ((strsD (piecesOf (32 : UInt8) s)).length
- Int.toNat (3 : Int))) → False) → ([] = pS (lineP s) (wrd s (1 : Nat)) ∧ (0 : Int) = pI (lineP s) (shapeZ (wrd s (2 : Nat))) ∧ (0 : Int) = pI (lineP s) (nAt s (0 : Nat)) ∧ (0 : Int) = pI (lineP s)
(nAt s (1 : Nat)) ∧ D.nil = pD (lineP s) (restD s) ∧ (0 : Int) = pI (lineP s) (nAt s (2 : Nat)) ∧ (0 : Int) = pI (lineP s) (nAt s (3 : Nat)) ∧ True) ∧ (false = true ↔ lineP s) ∧ True) ∧ (((numsP
((D.list (strsD (piecesOf (32 : UInt8) s))).sub (Int.toNat (3 : Int)) ((strsD (piecesOf (32 : UInt8) s)).length - Int.toNat (3 : Int))) → False) → False) → (0 : Int) ≤ (0 : Int) ∧ (0 : Int) < (↑(pD
(numsP ((D.list (strsD (piecesOf (32 : UInt8) s))).sub (Int.toNat (3 : Int)) ((strsD (piecesOf (32 : UInt8) s)).length - Int.toNat (3 : Int)))) (D.list (List.map (fun (d : D) => D.int (numZ d.asStr))
((D.list (strsD (piecesOf (32 : UInt8) s))).sub (Int.toNat (3 : Int)) ((strsD (piecesOf (32 : UInt8) s)).length - Int.toNat (3 : Int))).asList))).len : Int) ∧ (0 : Int) ≤ (1 : Int) ∧ (1 : Int) < (↑(pD
(numsP ((D.list (strsD (piecesOf (32 : UInt8) s))).sub (Int.toNat (3 : Int)) ((strsD (piecesOf (32 : UInt8) s)).length - Int.toNat (3 : Int)))) (D.list (List.map (fun (d : D) => D.int (numZ d.asStr))
((D.list (strsD (piecesOf (32 : UInt8) s))).sub (Int.toNat (3 : Int)) ((strsD (piecesOf (32 : UInt8) s)).length - Int.toNat (3 : Int))).asList))).len : Int) ∧ (0 : Int) ≤ (2 : Int) ∧ (2 : Int) < (↑(pD
(numsP ((D.list (strsD (piecesOf (32 : UInt8) s))).sub (Int.toNat (3 : Int)) ((strsD (piecesOf (32 : UInt8) s)).length - Int.toNat (3 : Int)))) (D.list (List.map (fun (d : D) => D.int (numZ d.asStr))
((D.list (strsD (piecesOf (32 : UInt8) s))).sub (Int.toNat (3 : Int)) ((strsD (piecesOf (32 : UInt8) s)).length - Int.toNat (3 : Int))).asList))).len : Int) ∧ (0 : Int) ≤ (3 : Int) ∧ (3 : Int) < (↑(pD
(numsP ((D.list (strsD (piecesOf (32 : UInt8) s))).sub (Int.toNat (3 : Int)) ((strsD (piecesOf (32 : UInt8) s)).length - Int.toNat (3 : Int)))) (D.list (List.map (fun (d : D) => D.int (numZ d.asStr))
((D.list (strsD (piecesOf (32 : UInt8) s))).sub (Int.toNat (3 : Int)) ((strsD (piecesOf (32 : UInt8) s)).length - Int.toNat (3 : Int))).asList))).len : Int) ∧ (0 : Int) ≤ (1 : Int) ∧ (1 : Int) <
(↑(strsD (piecesOf (32 : UInt8) s)).length : Int) ∧ (nthD (strsD (piecesOf (32 : UInt8) s)) (Int.toNat (1 : Int))).asStr.length ≤ (100000 : Nat) ∧ (0 : Int) ≤ (4 : Int) ∧ (4 : Int) ≤ (↑(pD (numsP
((D.list (strsD (piecesOf (32 : UInt8) s))).sub (Int.toNat (3 : Int)) ((strsD (piecesOf (32 : UInt8) s)).length - Int.toNat (3 : Int)))) (D.list (List.map (fun (d : D) => D.int (numZ d.asStr))
((D.list (strsD (piecesOf (32 : UInt8) s))).sub (Int.toNat (3 : Int)) ((strsD (piecesOf (32 : UInt8) s)).length - Int.toNat (3 : Int))).asList))).len : Int) ∧ (↑(pD (numsP ((D.list (strsD (piecesOf
(32 : UInt8) s))).sub (Int.toNat (3 : Int)) ((strsD (piecesOf (32 : UInt8) s)).length - Int.toNat (3 : Int)))) (D.list (List.map (fun (d : D) => D.int (numZ d.asStr)) ((D.list (strsD (piecesOf (32 :
UInt8) s))).sub (Int.toNat (3 : Int)) ((strsD (piecesOf (32 : UInt8) s)).length - Int.toNat (3 : Int))).asList))).len : Int) ≤ (↑(pD (numsP ((D.list (strsD (piecesOf (32 : UInt8) s))).sub (Int.toNat
(3 : Int)) ((strsD (piecesOf (32 : UInt8) s)).length - Int.toNat (3 : Int)))) (D.list (List.map (fun (d : D) => D.int (numZ d.asStr)) ((D.list (strsD (piecesOf (32 : UInt8) s))).sub (Int.toNat (3 :
Int)) ((strsD (piecesOf (32 : UInt8) s)).length - Int.toNat (3 : Int))).asList))).len : Int) ∧ (((pD (numsP ((D.list (strsD (piecesOf (32 : UInt8) s))).sub (Int.toNat (3 : Int)) ((strsD (piecesOf (32
: UInt8) s)).length - Int.toNat (3 : Int)))) (D.list (List.map (fun (d : D) => D.int (numZ d.asStr)) ((D.list (strsD (piecesOf (32 : UInt8) s))).sub (Int.toNat (3 : Int)) ((strsD (piecesOf (32 :
UInt8) s)).length - Int.toNat (3 : Int))).asList))).sub (Int.toNat (4 : Int)) ((pD (numsP ((D.list (strsD (piecesOf (32 : UInt8) s))).sub (Int.toNat (3 : Int)) ((strsD (piecesOf (32 : UInt8)
s)).length - Int.toNat (3 : Int)))) (D.list (List.map (fun (d : D) => D.int (numZ d.asStr)) ((D.list (strsD (piecesOf (32 : UInt8) s))).sub (Int.toNat (3 : Int)) ((strsD (piecesOf (32 : UInt8)
s)).length - Int.toNat (3 : Int))).asList))).len - Int.toNat (4 : Int))).len = (0 : Nat) → ((nthD (strsD (piecesOf (32 : UInt8) s)) (Int.toNat (1 : Int))).asStr = pS (lineP s) (wrd s (1 : Nat)) ∧
shapeZ (nthD (strsD (piecesOf (32 : UInt8) s)) (Int.toNat (2 : Int))).asStr = pI (lineP s) (shapeZ (wrd s (2 : Nat))) ∧ (el (pD (numsP ((D.list (strsD (piecesOf (32 : UInt8) s))).sub (Int.toNat (3 :
Int)) ((strsD (piecesOf (32 : UInt8) s)).length - Int.toNat (3 : Int)))) (D.list (List.map (fun (d : D) => D.int (numZ d.asStr)) ((D.list (strsD (piecesOf (32 : UInt8) s))).sub (Int.toNat (3 : Int))
((strsD (piecesOf (32 : UInt8) s)).length - Int.toNat (3 : Int))).asList))) (Int.toNat (0 : Int))).asInt = pI (lineP s) (nAt s (0 : Nat)) ∧ (el (pD (numsP ((D.list (strsD (piecesOf (32 : UInt8)
s))).sub (Int.toNat (3 : Int)) ((strsD (piecesOf (32 : UInt8) s)).length - Int.toNat (3 : Int)))) (D.list (List.map (fun (d : D) => D.int (numZ d.asStr)) ((D.list (strsD (piecesOf (32 : UInt8)
s))).sub (Int.toNat (3 : Int)) ((strsD (piecesOf (32 : UInt8) s)).length - Int.toNat (3 : Int))).asList))) (Int.toNat (1 : Int))).asInt = pI (lineP s) (nAt s (1 : Nat)) ∧ D.nil = pD (lineP s) (restD
s) ∧ (el (pD (numsP ((D.list (strsD (piecesOf (32 : UInt8) s))).sub (Int.toNat (3 : Int)) ((strsD (piecesOf (32 : UInt8) s)).length - Int.toNat (3 : Int)))) (D.list (List.map (fun (d : D) => D.int
(numZ d.asStr)) ((D.list (strsD (piecesOf (32 : UInt8) s))).sub (Int.toNat (3 : Int)) ((strsD (piecesOf (32 : UInt8) s)).length - Int.toNat (3 : Int))).asList))) (Int.toNat (2 : Int))).asInt = pI
(lineP s) (nAt s (2 : Nat)) ∧ (el (pD (numsP ((D.list (strsD (piecesOf (32 : UInt8) s))).sub (Int.toNat (3 : Int)) ((strsD (piecesOf (32 : UInt8) s)).length - Int.toNat (3 : Int)))) (D.list (List.map
(fun (d : D) => D.int (numZ d.asStr)) ((D.list (strsD (piecesOf (32 : UInt8) s))).sub (Int.toNat (3 : Int)) ((strsD (piecesOf (32 : UInt8) s)).length - Int.toNat (3 : Int))).asList))) (Int.toNat (3 :
Int))).asInt = pI (lineP s) (nAt s (3 : Nat)) ∧ True) ∧ (true = true ↔ lineP s) ∧ True) ∧ ((0 : Nat) < ((pD (numsP ((D.list (strsD (piecesOf (32 : UInt8) s))).sub (Int.toNat (3 : Int)) ((strsD
(piecesOf (32 : UInt8) s)).length - Int.toNat (3 : Int)))) (D.list (List.map (fun (d : D) => D.int (numZ d.asStr)) ((D.list (strsD (piecesOf (32 : UInt8) s))).sub (Int.toNat (3 : Int)) ((strsD
(piecesOf (32 : UInt8) s)).length - Int.toNat (3 : Int))).asList))).sub (Int.toNat (4 : Int)) ((pD (numsP ((D.list (strsD (piecesOf (32 : UInt8) s))).sub (Int.toNat (3 : Int)) ((strsD (piecesOf (32 :
UInt8) s)).length - Int.toNat (3 : Int)))) (D.list (List.map (fun (d : D) => D.int (numZ d.asStr)) ((D.list (strsD (piecesOf (32 : UInt8) s))).sub (Int.toNat (3 : Int)) ((strsD (piecesOf (32 : UInt8)
s)).length - Int.toNat (3 : Int))).asList))).len - Int.toNat (4 : Int))).len → ((pD (numsP ((D.list (strsD (piecesOf (32 : UInt8) s))).sub (Int.toNat (3 : Int)) ((strsD (piecesOf (32 : UInt8)
s)).length - Int.toNat (3 : Int)))) (D.list (List.map (fun (d : D) => D.int (numZ d.asStr)) ((D.list (strsD (piecesOf (32 : UInt8) s))).sub (Int.toNat (3 : Int)) ((strsD (piecesOf (32 : UInt8)
s)).length - Int.toNat (3 : Int))).asList))).sub (Int.toNat (4 : Int)) ((pD (numsP ((D.list (strsD (piecesOf (32 : UInt8) s))).sub (Int.toNat (3 : Int)) ((strsD (piecesOf (32 : UInt8) s)).length -
Int.toNat (3 : Int)))) (D.list (List.map (fun (d : D) => D.int (numZ d.asStr)) ((D.list (strsD (piecesOf (32 : UInt8) s))).sub (Int.toNat (3 : Int)) ((strsD (piecesOf (32 : UInt8) s)).length -
Int.toNat (3 : Int))).asList))).len - Int.toNat (4 : Int))).len ≤ (16777216 : Nat) ∧ ((nthD (strsD (piecesOf (32 : UInt8) s)) (Int.toNat (1 : Int))).asStr = pS (lineP s) (wrd s (1 : Nat)) ∧ shapeZ
(nthD (strsD (piecesOf (32 : UInt8) s)) (Int.toNat (2 : Int))).asStr = pI (lineP s) (shapeZ (wrd s (2 : Nat))) ∧ (el (pD (numsP ((D.list (strsD (piecesOf (32 : UInt8) s))).sub (Int.toNat (3 : Int))
((strsD (piecesOf (32 : UInt8) s)).length - Int.toNat (3 : Int)))) (D.list (List.map (fun (d : D) => D.int (numZ d.asStr)) ((D.list (strsD (piecesOf (32 : UInt8) s))).sub (Int.toNat (3 : Int)) ((strsD
(piecesOf (32 : UInt8) s)).length - Int.toNat (3 : Int))).asList))) (Int.toNat (0 : Int))).asInt = pI (lineP s) (nAt s (0 : Nat)) ∧ (el (pD (numsP ((D.list (strsD (piecesOf (32 : UInt8) s))).sub
(Int.toNat (3 : Int)) ((strsD (piecesOf (32 : UInt8) s)).length - Int.toNat (3 : Int)))) (D.list (List.map (fun (d : D) => D.int (numZ d.asStr)) ((D.list (strsD (piecesOf (32 : UInt8) s))).sub
(Int.toNat (3 : Int)) ((strsD (piecesOf (32 : UInt8) s)).length - Int.toNat (3 : Int))).asList))) (Int.toNat (1 : Int))).asInt = pI (lineP s) (nAt s (1 : Nat)) ∧ ((0 : Nat) + ((pD (numsP ((D.list
(strsD (piecesOf (32 : UInt8) s))).sub (Int.toNat (3 : Int)) ((strsD (piecesOf (32 : UInt8) s)).length - Int.toNat (3 : Int)))) (D.list (List.map (fun (d : D) => D.int (numZ d.asStr)) ((D.list (strsD
(piecesOf (32 : UInt8) s))).sub (Int.toNat (3 : Int)) ((strsD (piecesOf (32 : UInt8) s)).length - Int.toNat (3 : Int))).asList))).sub (Int.toNat (4 : Int)) ((pD (numsP ((D.list (strsD (piecesOf (32 :
UInt8) s))).sub (Int.toNat (3 : Int)) ((strsD (piecesOf (32 : UInt8) s)).length - Int.toNat (3 : Int)))) (D.list (List.map (fun (d : D) => D.int (numZ d.asStr)) ((D.list (strsD (piecesOf (32 : UInt8)
s))).sub (Int.toNat (3 : Int)) ((strsD (piecesOf (32 : UInt8) s)).length - Int.toNat (3 : Int))).asList))).len - Int.toNat (4 : Int))).len ≤ ((pD (numsP ((D.list (strsD (piecesOf (32 : UInt8) s))).sub
(Int.toNat (3 : Int)) ((strsD (piecesOf (32 : UInt8) s)).length - Int.toNat (3 : Int)))) (D.list (List.map (fun (d : D) => D.int (numZ d.asStr)) ((D.list (strsD (piecesOf (32 : UInt8) s))).sub
(Int.toNat (3 : Int)) ((strsD (piecesOf (32 : UInt8) s)).length - Int.toNat (3 : Int))).asList))).sub (Int.toNat (4 : Int)) ((pD (numsP ((D.list (strsD (piecesOf (32 : UInt8) s))).sub (Int.toNat (3 :
Int)) ((strsD (piecesOf (32 : UInt8) s)).length - Int.toNat (3 : Int)))) (D.list (List.map (fun (d : D) => D.int (numZ d.asStr)) ((D.list (strsD (piecesOf (32 : UInt8) s))).sub (Int.toNat (3 : Int))
((strsD (piecesOf (32 : UInt8) s)).length - Int.toNat (3 : Int))).asList))).len - Int.toNat (4 : Int))).asList.length ∧ D.list (List.take ((pD (numsP ((D.list (strsD (piecesOf (32 : UInt8) s))).sub
(Int.toNat (3 : Int)) ((strsD (piecesOf (32 : UInt8) s)).length - Int.toNat (3 : Int)))) (D.list (List.map (fun (d : D) => D.int (numZ d.asStr)) ((D.list (strsD (piecesOf (32 : UInt8) s))).sub
(Int.toNat (3 : Int)) ((strsD (piecesOf (32 : UInt8) s)).length - Int.toNat (3 : Int))).asList))).sub (Int.toNat (4 : Int)) ((pD (numsP ((D.list (strsD (piecesOf (32 : UInt8) s))).sub (Int.toNat (3 :
Int)) ((strsD (piecesOf (32 : UInt8) s)).length - Int.toNat (3 : Int)))) (D.list (List.map (fun (d : D) => D.int (numZ d.asStr)) ((D.list (strsD (piecesOf (32 : UInt8) s))).sub (Int.toNat (3 : Int))
((strsD (piecesOf (32 : UInt8) s)).length - Int.toNat (3 : Int))).asList))).len - Int.toNat (4 : Int))).len ((pD (numsP ((D.list (strsD (piecesOf (32 : UInt8) s))).sub (Int.toNat (3 : Int)) ((strsD
(piecesOf (32 : UInt8) s)).length - Int.toNat (3 : Int)))) (D.list (List.map (fun (d : D) => D.int (numZ d.asStr)) ((D.list (strsD (piecesOf (32 : UInt8) s))).sub (Int.toNat (3 : Int)) ((strsD
(piecesOf (32 : UInt8) s)).length - Int.toNat (3 : Int))).asList))).sub (Int.toNat (4 : Int)) ((pD (numsP ((D.list (strsD (piecesOf (32 : UInt8) s))).sub (Int.toNat (3 : Int)) ((strsD (piecesOf (32 :
UInt8) s)).length - Int.toNat (3 : Int)))) (D.list (List.map (fun (d : D) => D.int (numZ d.asStr)) ((D.list (strsD (piecesOf (32 : UInt8) s))).sub (Int.toNat (3 : Int)) ((strsD (piecesOf (32 : UInt8)
s)).length - Int.toNat (3 : Int))).asList))).len - Int.toNat (4 : Int))).asList) = pD (lineP s) (restD s)) ∧ (el (pD (numsP ((D.list (strsD (piecesOf (32 : UInt8) s))).sub (Int.toNat (3 : Int))
((strsD (piecesOf (32 : UInt8) s)).length - Int.toNat (3 : Int)))) (D.list (List.map (fun (d : D) => D.int (numZ d.asStr)) ((D.list (strsD (piecesOf (32 : UInt8) s))).sub (Int.toNat (3 : Int)) ((strsD
(piecesOf (32 : UInt8) s)).length - Int.toNat (3 : Int))).asList))) (Int.toNat (2 : Int))).asInt = pI (lineP s) (nAt s (2 : Nat)) ∧ (el (pD (numsP ((D.list (strsD (piecesOf (32 : UInt8) s))).sub
(Int.toNat (3 : Int)) ((strsD (piecesOf (32 : UInt8) s)).length - Int.toNat (3 : Int)))) (D.list (List.map (fun (d : D) => D.int (numZ d.asStr)) ((D.list (strsD (piecesOf (32 : UInt8) s))).sub
(Int.toNat (3 : Int)) ((strsD (piecesOf (32 : UInt8) s)).length - Int.toNat (3 : Int))).asList))) (Int.toNat (3 : Int))).asInt = pI (lineP s) (nAt s (3 : Nat)) ∧ True) ∧ (true = true ↔ lineP s) ∧
True))) ∧ (((shapeZ (nthD (strsD (piecesOf (32 : UInt8) s)) (Int.toNat (2 : Int))).asStr = (0 : Int) → False) → False) → ([] = pS (lineP s) (wrd s (1 : Nat)) ∧ (0 : Int) = pI (lineP s) (shapeZ (wrd s
(2 : Nat))) ∧ (0 : Int) = pI (lineP s) (nAt s (0 : Nat)) ∧ (0 : Int) = pI (lineP s) (nAt s (1 : Nat)) ∧ D.nil = pD (lineP s) (restD s) ∧ (0 : Int) = pI (lineP s) (nAt s (2 : Nat)) ∧ (0 : Int) = pI
(lineP s) (nAt s (3 : Nat)) ∧ True) ∧ (false = true ↔ lineP s) ∧ True))) ∧ (((nthD (strsD (piecesOf (32 : UInt8) s)) (Int.toNat (0 : Int))).asStr = [(116 : UInt8), (97 : UInt8), (98 : UInt8), (108 :
UInt8), (101 : UInt8)] → False) → ([] = pS (lineP s) (wrd s (1 : Nat)) ∧ (0 : Int) = pI (lineP s) (shapeZ (wrd s (2 : Nat))) ∧ (0 : Int) = pI (lineP s) (nAt s (0 : Nat)) ∧ (0 : Int) = pI (lineP s)
(nAt s (1 : Nat)) ∧ D.nil = pD (lineP s) (restD s) ∧ (0 : Int) = pI (lineP s) (nAt s (2 : Nat)) ∧ (0 : Int) = pI (lineP s) (nAt s (3 : Nat)) ∧ True) ∧ (false = true ↔ lineP s) ∧ True)) ∧ ((↑(strsD
(piecesOf (32 : UInt8) s)).length : Int) < (7 : Int) → ([] = pS (lineP s) (wrd s (1 : Nat)) ∧ (0 : Int) = pI (lineP s) (shapeZ (wrd s (2 : Nat))) ∧ (0 : Int) = pI (lineP s) (nAt s (0 : Nat)) ∧ (0 :
Int) = pI (lineP s) (nAt s (1 : Nat)) ∧ D.nil = pD (lineP s) (restD s) ∧ (0 : Int) = pI (lineP s) (nAt s (2 : Nat)) ∧ (0 : Int) = pI (lineP s) (nAt s (3 : Nat)) ∧ True) ∧ (false = true ↔ lineP s) ∧
True)) := by intros; kernel_rfl
theorem vc33 : ∀ (l : D) (nm : List UInt8) (sh a b : Int) (o : D) (x y : Int), symFun (ctx hp2 hpAnn) (4 : Nat) (33 : FuncId) [V.dat (25 : TypeId) l, V.agg [V.str nm, V.int IntKind.u8 sh, V.int
IntKind.i64 a, V.int IntKind.i64 b, V.dat (37 : TypeId) o, V.int IntKind.i64 x, V.int IntKind.i64 y]] (V.int IntKind.i64 (nextZ l nm sh a b o x y)) = (o.len ≤ (100000 : Nat) ∧ ((errZ nm sh a b o x y =
(0 : Int) → False) → errZ nm sh a b o x y = nextZ l nm sh a b o x y) ∧ (((errZ nm sh a b o x y = (0 : Int) → False) → False) → l.len ≤ (100 : Nat) ∧ ((0 : Int) ≤ idxZ l nm l.len (0 : Nat) → (5 : Int)
= nextZ l nm sh a b o x y) ∧ (((0 : Int) ≤ idxZ l nm l.len (0 : Nat) → False) → (0 : Int) = nextZ l nm sh a b o x y))) := by intros; kernel_rfl
theorem w_nth (W : List (List UInt8)) (j : Nat) : (nthD (strsD W) j).asStr = pAt W j := by
 unfold nthD strsD pAt; rw [List.getElem?_map]; cases W[j]? <;> rfl
theorem sub_strs (W : List (List UInt8)) : (D.list (strsD W)).sub 3 ((strsD W).length - 3) = .list (strsD (W.drop 3)) := by
 show D.list (((strsD W).drop 3).take ((strsD W).length - 3)) = _
 rw [take_all _ _ (by rw [List.length_drop]; omega)]
 congr 1
 unfold strsD
 rw [List.map_drop]
theorem sub_all (L : List D) (k : Nat) : (D.list L).sub k (L.length - k) = .list (L.drop k) := by
 show D.list ((L.drop k).take (L.length - k)) = _
 rw [take_all _ _ (by rw [List.length_drop]; omega)]
theorem nums_map (s : List UInt8) : List.map (fun d : D => D.int (numZ d.asStr)) (strsD ((piecesOf 32 s).drop 3)) = numsL s := by
 unfold numsL strsD; rw [List.map_map]; rfl
theorem p_drop (W : List (List UInt8)) (k j : Nat) : pAt (W.drop k) j = pAt W (k + j) := by unfold pAt; rw [List.getElem?_drop]
theorem nums_iff (s : List UInt8) : numsP (.list (strsD ((piecesOf 32 s).drop 3))) ↔ ∀ j, 3 ≤ j → j < (piecesOf 32 s).length → numP (wrd s j) := by
 have hl : (D.list (strsD ((piecesOf 32 s).drop 3))).len = (piecesOf 32 s).length - 3 := by show (strsD _).length = _; rw [strs_len, List.length_drop]
 have hv : ∀ i, sAt (.list (strsD ((piecesOf 32 s).drop 3))) i = wrd s (3 + i) := fun i => by show (nthD (strsD _) i).asStr = _; rw [w_nth, p_drop]; rfl
 constructor
 ·intro h j h1 h2
  have := h.out (j - 3) (by rw [hl]; omega)
  rw [hv, show 3 + (j - 3) = j by omega] at this; exact this
 ·intro h
  exact ⟨fun i hi => by rw [hl] at hi; rw [hv]; exact h _ (by omega) (by omega)⟩
theorem numsL_len (s : List UInt8) : (numsL s).length = (piecesOf 32 s).length - 3 := by unfold numsL; rw [List.length_map, List.length_drop]
theorem numsL_nth (s : List UInt8) (j : Nat) (hj : j < (piecesOf 32 s).length - 3) : (nthD (numsL s) j).asInt = nAt s j := by
 unfold nthD numsL nAt wrd pAt
 rw [List.getElem?_map, List.getElem?_drop]
 have : 3 + j < (piecesOf 32 s).length := by omega
 rw [List.getElem?_eq_getElem this]; rfl
theorem pS_no {p : Prop} (w : List UInt8) (h : ¬ p) : [] = pS p w := by unfold pS; rw [if_neg h]
theorem pS_yes {p : Prop} (w : List UInt8) (h : p) : pS p w = w := by unfold pS; rw [if_pos h]
theorem piece_len (c : UInt8) : ∀ (s : List UInt8) (w : List UInt8), w ∈ piecesOf c s → w.length ≤ s.length
 | [], w, h => by rw [show piecesOf c [] = [[]] from rfl] at h; rw [List.mem_singleton.1 h]; exact Nat.le_refl _
 | b :: s, w, h => by
  have ih := piece_len c s
  rw [pieces_cons] at h
  split at h
  ·rcases List.mem_cons.1 h with h1 | h1
   ·rw [h1]; exact Nat.zero_le _
   ·have := ih w h1; rw [List.length_cons]; omega
  ·split at h
   ·rename_i hn; exact absurd hn (pieces_ne c s)
   ·rename_i v r hv
    rcases List.mem_cons.1 h with h1 | h1
    ·have := ih v (by rw [hv]; exact List.mem_cons_self); rw [h1, List.length_cons, List.length_cons]; omega
    ·have := ih w (by rw [hv]; exact List.mem_cons_of_mem _ h1); rw [List.length_cons]; omega
theorem pAt_len (c : UInt8) (s : List UInt8) (j : Nat) : (pAt (piecesOf c s) j).length ≤ s.length := by
 unfold pAt
 cases h : (piecesOf c s)[j]? with
 | none => exact Nat.zero_le _
 | some w => exact piece_len c s w (List.mem_of_getElem? h)
theorem pAt_mem {W : List (List UInt8)} {j : Nat} (h : j < W.length) : pAt W j ∈ W := by
 unfold pAt; rw [List.getElem?_eq_getElem h]; exact List.getElem_mem h
theorem shp_ne {w : List UInt8} (h : shapeZ w ≠ 0) : w ≠ [] := fun e => by subst e; exact h (by decide)
theorem line_ok {s : List UInt8} (h : lineP s) : okW s := ⟨fun w hw he => by
 obtain ⟨h7, h0, h1, h2, h3⟩ := h.out
 obtain ⟨j, hj, rfl⟩ := List.mem_iff_getElem.1 hw
 have e : wrd s j = (piecesOf 32 s)[j] := by unfold wrd pAt; rw [List.getElem?_eq_getElem hj]; rfl
 rw [← e] at he
 rcases (show j = 0 ∨ j = 1 ∨ j = 2 ∨ 3 ≤ j by omega) with rfl | rfl | rfl | hj3
 ·rw [h0] at he; cases he
 ·exact h1 he
 ·exact shp_ne h2 he
 ·have := (h3 j hj3 hj).out.1
  rw [he] at this; simp at this⟩
theorem s32 (s : List UInt8) (hs : s.length ≤ 100000) : symFun (ctx hp2 hpAnn) 4 32 [.str s] (.tup [rowV (lineP s) s, .prop (lineP s)]) := by
 rw [vc32]
 have eR : (D.list (strsD (piecesOf 32 s))).sub (Int.toNat 3) ((strsD (piecesOf 32 s)).length - Int.toNat 3) = .list (strsD ((piecesOf 32 s).drop 3)) := sub_strs _
 have e0 : (nthD (strsD (piecesOf 32 s)) (Int.toNat 0)).asStr = wrd s 0 := w_nth _ _
 have e1 : (nthD (strsD (piecesOf 32 s)) (Int.toNat 1)).asStr = wrd s 1 := w_nth _ _
 have e2 : (nthD (strsD (piecesOf 32 s)) (Int.toNat 2)).asStr = wrd s 2 := w_nth _ _
 rw [eR, e0, e1, e2, strs_len]
 have hP := pieces_len 32 s
 have hcl : s.count 32 ≤ s.length := List.count_le_length
 have bad : ¬ lineP s → ([] = pS (lineP s) (wrd s 1) ∧ 0 = pI (lineP s) (shapeZ (wrd s 2)) ∧ 0 = pI (lineP s) (nAt s 0) ∧ 0 = pI (lineP s) (nAt s 1) ∧ D.nil = pD (lineP s) (restD s) ∧ 0 = pI (lineP s) (nAt s 2) ∧ 0 = pI (lineP s) (nAt s 3) ∧ True) ∧ (false = true ↔ lineP s) ∧ True := fun h =>
  ⟨⟨pS_no _ h, pI_no _ h, pI_no _ h, pI_no _ h, pD_no _ h, pI_no _ h, pI_no _ h, trivial⟩, ⟨fun h => by simp at h, fun h' => absurd h' h⟩, trivial⟩
 refine ⟨hs, fun h7 => ⟨by omega, ?_, fun h0 => ⟨by omega, ?_, fun h1 => bad fun h => h.out.2.2.1 h1, fun h1 => ⟨by omega, ?_, trivial, by omega, ?_, by omega, ?_, fun h2 => ⟨fun h3 => bad fun h => h3 ((nums_iff s).2 h.out.2.2.2.2), fun h3 => ?_⟩, fun h2 => bad fun h => h2 h.out.2.2.2.1⟩⟩, fun h0 => bad fun h => h0 h.out.2.1⟩, fun h7 => bad fun h => by have := h.out.1; omega⟩
 ·have h7 : ¬ ((piecesOf 32 s).length : Int) < 7 := h7
  omega
 ·have h7 : ¬ ((piecesOf 32 s).length : Int) < 7 := h7
  omega
 ·have h7 : ¬ ((piecesOf 32 s).length : Int) < 7 := h7
  omega
 ·have h7 : ¬ ((piecesOf 32 s).length : Int) < 7 := h7
  omega
 ·show (strsD _).length ≤ _
  rw [strs_len, List.length_drop]; omega
 ·have h7 : ¬ ((piecesOf 32 s).length : Int) < 7 := h7
  have h3 := Classical.not_not.1 h3
  have h0 := Classical.not_not.1 h0
  have hL : lineP s := ⟨by omega, h0, h1, Classical.not_not.1 fun h => h2 h, (nums_iff s).1 h3⟩
  have hn := numsL_len s
  have ea : (D.list (strsD ((piecesOf 32 s).drop 3))).asList = strsD ((piecesOf 32 s).drop 3) := rfl
  have el4 : (D.list (numsL s)).len = (numsL s).length := rfl
  have es : (D.list (numsL s)).sub (Int.toNat 4) ((numsL s).length - Int.toNat 4) = .list ((numsL s).drop 4) := sub_all _ 4
  have ed : (D.list ((numsL s).drop 4)).len = (numsL s).length - 4 := by show ((numsL s).drop 4).length = _; rw [List.length_drop]
  have q : ∀ j : Nat, j < 4 → (el (D.list (numsL s)) j).asInt = nAt s j := fun j hj => numsL_nth s j (by omega)
  have tl : (wrd s 1).length ≤ s.length := pAt_len 32 s 1
  rw [pD_yes _ h3, ea, nums_map, el4, es, ed]
  refine ⟨by omega, by omega, by omega, by omega, by omega, by omega, by omega, by omega, by omega, by omega, by omega, by omega, by omega, by omega, fun hz => ⟨⟨(pS_yes _ hL).symm, (pI_yes _ hL).symm, (q 0 (by omega)).trans (pI_yes _ hL).symm, (q 1 (by omega)).trans (pI_yes _ hL).symm, ?_, (q 2 (by omega)).trans (pI_yes _ hL).symm, (q 3 (by omega)).trans (pI_yes _ hL).symm, trivial⟩, ⟨fun _ => hL, fun _ => by trivial⟩, trivial⟩, fun hz => ⟨by omega, ⟨(pS_yes _ hL).symm, (pI_yes _ hL).symm, (q 0 (by omega)).trans (pI_yes _ hL).symm, (q 1 (by omega)).trans (pI_yes _ hL).symm, ⟨?_, ?_⟩, (q 2 (by omega)).trans (pI_yes _ hL).symm, (q 3 (by omega)).trans (pI_yes _ hL).symm, trivial⟩, ⟨fun _ => hL, fun _ => by trivial⟩, trivial⟩⟩
  ·rw [pD_yes _ hL]; unfold restD
   rw [List.drop_of_length_le (by omega)]; rfl
  ·show _ ≤ ((numsL s).drop 4).length
   rw [List.length_drop]; omega
  ·rw [pD_yes _ hL]; unfold restD
   rw [listD_ne (by rw [List.length_drop]; omega)]
   show D.list (List.take _ ((numsL s).drop 4)) = _
   rw [take_all _ _ (by rw [List.length_drop]; omega)]
theorem idx_iff (l : D) (nm : List UInt8) : ∀ f i, i + f = l.len → (0 ≤ idxZ l nm f i ↔ ∃ k, i ≤ k ∧ k < l.len ∧ tName (el l k) = nm)
 | 0, i, h => by
  unfold idxZ
  constructor
  ·intro h; omega
  ·rintro ⟨k, h1, h2, _⟩; omega
 | f + 1, i, h => by
  have ih := idx_iff l nm f (i + 1) (by omega)
  unfold idxZ
  by_cases e : tName (el l i) = nm
  ·rw [if_pos e]; exact ⟨fun _ => ⟨i, Nat.le_refl _, by omega, e⟩, fun _ => by omega⟩
  ·rw [if_neg e, ih]
   constructor
   ·rintro ⟨k, h1, h2, h3⟩; exact ⟨k, by omega, h2, h3⟩
   ·rintro ⟨k, h1, h2, h3⟩
    by_cases ek : k = i
    ·subst ek; exact absurd h3 e
    ·exact ⟨k, by omega, h2, h3⟩
theorem s33 (l : D) (nm : List UInt8) (sh a b : Int) (o : D) (x y : Int) (h : l.len ≤ 100 ∧ o.len ≤ 100000) : symFun (ctx hp2 hpAnn) 4 33 [.dat 25 l, .agg [.str nm, .int .u8 sh, .int .i64 a, .int .i64 b, .dat 37 o, .int .i64 x, .int .i64 y]] (.int .i64 (nextZ l nm sh a b o x y)) := by
 rw [vc33]
 have ht : 0 ≤ idxZ l nm l.len 0 ↔ twiceN l nm := (idx_iff l nm l.len 0 (by omega)).trans ⟨fun ⟨k, _, h2, h3⟩ => ⟨k, h2, h3⟩, fun h => by obtain ⟨k, h2, h3⟩ := h.out; exact ⟨k, by omega, h2, h3⟩⟩
 unfold nextZ
 refine ⟨h.2, fun he => by rw [if_pos he], fun he => ⟨h.1, fun hi => ?_, fun hi => ?_⟩⟩
 ·rw [if_neg he, if_pos (ht.1 hi)]
 ·rw [if_neg he, if_neg fun h => hi (ht.2 h)]
end Go.Ev

end
