/-
  Part of the engine that the claim is proved with: it states nothing of the document by itself.
-/
import Derived.Test.YtpcokmpipjcndaaGreatDoorCoreG24

section
open Go.Proofs
namespace Go.Ev
set_option maxRecDepth 100000
set_option maxHeartbeats 4000000
theorem vc9 : ∀ (s : List UInt8), symFun (ctx hp3 hpAnn) (5 : Nat) (9 : FuncId) [V.str s] (V.tup [V.dat (25 : TypeId) (parD s), V.int IntKind.i64 (parL s), V.int IntKind.i64 (parE s)]) = (((65536 :
Int) < (↑s.length : Int) → D.nil = parD s ∧ (0 : Int) = parL s ∧ (7 : Int) = parE s ∧ True) ∧ (((65536 : Int) < (↑s.length : Int) → False) → ((∃ (x : Nat × List UInt8), ((x.fst ≤ List.count (10 :
UInt8) s ∧ x.fst ≤ (16 : Nat) ∧ List.drop x.fst (piecesOf (10 : UInt8) s) = piecesOf (10 : UInt8) x.snd ∧ x.snd.length ≤ s.length ∧ ∀ (k : Nat), k < x.fst → errK s k = (0 : Int)) ∧ x.fst = (0 : Nat))
∧ (s = x.snd ∧ (0 : Int) = (↑x.fst : Int) ∧ True ∧ (0 : Int) = (0 : Int) ∧ True) ∧ True) ∨ ∃ (x : Nat × List UInt8), ((x.fst ≤ List.count (10 : UInt8) s ∧ x.fst ≤ (16 : Nat) ∧ List.drop x.fst
(piecesOf (10 : UInt8) s) = piecesOf (10 : UInt8) x.snd ∧ x.snd.length ≤ s.length ∧ ∀ (k : Nat), k < x.fst → errK s k = (0 : Int)) ∧ Nat.le (1 : Nat) x.fst) ∧ (s = x.snd ∧ (0 : Int) = (↑x.fst : Int) ∧
False ∧ (0 : Int) = (0 : Int) ∧ True) ∧ False ∧ True) ∧ (∀ (x : Nat × List UInt8), (x.fst ≤ List.count (10 : UInt8) s ∧ x.fst ≤ (16 : Nat) ∧ List.drop x.fst (piecesOf (10 : UInt8) s) = piecesOf (10 :
UInt8) x.snd ∧ x.snd.length ≤ s.length ∧ ∀ (k : Nat), k < x.fst → errK s k = (0 : Int)) ∧ x.fst = (0 : Nat) → List.count (10 : UInt8) s + (1 : Nat) - x.fst < LIM ∧ ((x.snd = [] → False) → x.snd.length
≤ (100000 : Nat) ∧ (cutA x.snd).length ≤ (100000 : Nat) ∧ ((((0 : Int) ≤ cutI x.snd (10 : UInt8) → False) → False) → ((lineP (cutA x.snd) → False) → D.nil = parD s ∧ (↑x.fst : Int) = parL s ∧ (3 :
Int) = parE s ∧ True) ∧ (((lineP (cutA x.snd) → False) → False) → ((0 : Nat) ≤ (100 : Nat) ∧ (pD (lineP (cutA x.snd)) (restD (cutA x.snd))).len ≤ (100000 : Nat)) ∧ ((nextZ D.nil (pS (lineP (cutA
x.snd)) (wrd (cutA x.snd) (1 : Nat))) (pI (lineP (cutA x.snd)) (shapeZ (wrd (cutA x.snd) (2 : Nat)))) (pI (lineP (cutA x.snd)) (nAt (cutA x.snd) (0 : Nat))) (pI (lineP (cutA x.snd)) (nAt (cutA x.snd)
(1 : Nat))) (pD (lineP (cutA x.snd)) (restD (cutA x.snd))) (pI (lineP (cutA x.snd)) (nAt (cutA x.snd) (2 : Nat))) (pI (lineP (cutA x.snd)) (nAt (cutA x.snd) (3 : Nat))) = (0 : Int) → False) → ((nextZ
D.nil (pS (lineP (cutA x.snd)) (wrd (cutA x.snd) (1 : Nat))) (pI (lineP (cutA x.snd)) (shapeZ (wrd (cutA x.snd) (2 : Nat)))) (pI (lineP (cutA x.snd)) (nAt (cutA x.snd) (0 : Nat))) (pI (lineP (cutA
x.snd)) (nAt (cutA x.snd) (1 : Nat))) (pD (lineP (cutA x.snd)) (restD (cutA x.snd))) (pI (lineP (cutA x.snd)) (nAt (cutA x.snd) (2 : Nat))) (pI (lineP (cutA x.snd)) (nAt (cutA x.snd) (3 : Nat))) = (0
: Int) → False) → D.nil = parD s ∧ (↑x.fst : Int) = parL s ∧ nextZ D.nil (pS (lineP (cutA x.snd)) (wrd (cutA x.snd) (1 : Nat))) (pI (lineP (cutA x.snd)) (shapeZ (wrd (cutA x.snd) (2 : Nat)))) (pI
(lineP (cutA x.snd)) (nAt (cutA x.snd) (0 : Nat))) (pI (lineP (cutA x.snd)) (nAt (cutA x.snd) (1 : Nat))) (pD (lineP (cutA x.snd)) (restD (cutA x.snd))) (pI (lineP (cutA x.snd)) (nAt (cutA x.snd) (2 :
Nat))) (pI (lineP (cutA x.snd)) (nAt (cutA x.snd) (3 : Nat))) = parE s ∧ True) ∧ (((nextZ D.nil (pS (lineP (cutA x.snd)) (wrd (cutA x.snd) (1 : Nat))) (pI (lineP (cutA x.snd)) (shapeZ (wrd (cutA
x.snd) (2 : Nat)))) (pI (lineP (cutA x.snd)) (nAt (cutA x.snd) (0 : Nat))) (pI (lineP (cutA x.snd)) (nAt (cutA x.snd) (1 : Nat))) (pD (lineP (cutA x.snd)) (restD (cutA x.snd))) (pI (lineP (cutA
x.snd)) (nAt (cutA x.snd) (2 : Nat))) (pI (lineP (cutA x.snd)) (nAt (cutA x.snd) (3 : Nat))) = (0 : Int) → False) → False) → D.nil = parD s ∧ (0 : Int) = parL s ∧ (0 : Int) = parE s ∧ True)) ∧
(((nextZ D.nil (pS (lineP (cutA x.snd)) (wrd (cutA x.snd) (1 : Nat))) (pI (lineP (cutA x.snd)) (shapeZ (wrd (cutA x.snd) (2 : Nat)))) (pI (lineP (cutA x.snd)) (nAt (cutA x.snd) (0 : Nat))) (pI (lineP
(cutA x.snd)) (nAt (cutA x.snd) (1 : Nat))) (pD (lineP (cutA x.snd)) (restD (cutA x.snd))) (pI (lineP (cutA x.snd)) (nAt (cutA x.snd) (2 : Nat))) (pI (lineP (cutA x.snd)) (nAt (cutA x.snd) (3 : Nat)))
= (0 : Int) → False) → False) → (0 : Nat) + (1 : Nat) ≤ [D.sct [D.str (pS (lineP (cutA x.snd)) (wrd (cutA x.snd) (1 : Nat))), D.int (pI (lineP (cutA x.snd)) (shapeZ (wrd (cutA x.snd) (2 : Nat)))),
D.int (pI (lineP (cutA x.snd)) (nAt (cutA x.snd) (0 : Nat))), D.int (pI (lineP (cutA x.snd)) (nAt (cutA x.snd) (1 : Nat))), pD (lineP (cutA x.snd)) (restD (cutA x.snd)), D.int (pI (lineP (cutA x.snd))
(nAt (cutA x.snd) (2 : Nat))), D.int (pI (lineP (cutA x.snd)) (nAt (cutA x.snd) (3 : Nat)))]].length ∧ (1 : Nat) ≤ (16777216 : Nat) ∧ ((-9223372036854775808 : Int) ≤ (↑x.fst : Int) + (1 : Int) ∧
(↑x.fst : Int) + (1 : Int) < (9223372036854775808 : Int)) ∧ ((∃ (y : Nat × List UInt8), ((y.fst ≤ List.count (10 : UInt8) s ∧ y.fst ≤ (16 : Nat) ∧ List.drop y.fst (piecesOf (10 : UInt8) s) = piecesOf
(10 : UInt8) y.snd ∧ y.snd.length ≤ s.length ∧ ∀ (k : Nat), k < y.fst → errK s k = (0 : Int)) ∧ y.fst = (0 : Nat)) ∧ List.count (10 : UInt8) s + (1 : Nat) - y.fst < List.count (10 : UInt8) s + (1 :
Nat) - x.fst ∧ (cutB x.snd = y.snd ∧ (↑x.fst : Int) + (1 : Int) = (↑y.fst : Int) ∧ False ∧ (0 : Int) = (0 : Int) ∧ True) ∧ True) ∨ ∃ (y : Nat × List UInt8), ((y.fst ≤ List.count (10 : UInt8) s ∧ y.fst
≤ (16 : Nat) ∧ List.drop y.fst (piecesOf (10 : UInt8) s) = piecesOf (10 : UInt8) y.snd ∧ y.snd.length ≤ s.length ∧ ∀ (k : Nat), k < y.fst → errK s k = (0 : Int)) ∧ Nat.le (1 : Nat) y.fst) ∧ List.count
(10 : UInt8) s + (1 : Nat) - y.fst < List.count (10 : UInt8) s + (1 : Nat) - x.fst ∧ (cutB x.snd = y.snd ∧ (↑x.fst : Int) + (1 : Int) = (↑y.fst : Int) ∧ ((0 : Nat) = (0 : Nat) ∧ (1 : Nat) = y.fst ∧
True) ∧ (0 : Int) = (0 : Int) ∧ True) ∧ List.take (1 : Nat) [D.sct [D.str (pS (lineP (cutA x.snd)) (wrd (cutA x.snd) (1 : Nat))), D.int (pI (lineP (cutA x.snd)) (shapeZ (wrd (cutA x.snd) (2 : Nat)))),
D.int (pI (lineP (cutA x.snd)) (nAt (cutA x.snd) (0 : Nat))), D.int (pI (lineP (cutA x.snd)) (nAt (cutA x.snd) (1 : Nat))), pD (lineP (cutA x.snd)) (restD (cutA x.snd)), D.int (pI (lineP (cutA x.snd))
(nAt (cutA x.snd) (2 : Nat))), D.int (pI (lineP (cutA x.snd)) (nAt (cutA x.snd) (3 : Nat)))]] = tabsL s y.fst ∧ True)))) ∧ (((0 : Int) ≤ cutI x.snd (10 : UInt8) → False) → D.nil = parD s ∧ (↑x.fst :
Int) = parL s ∧ (3 : Int) = parE s ∧ True)) ∧ (((x.snd = [] → False) → False) → (((0 : Int) = (0 : Int) → False) → D.nil = parD s ∧ (↑x.fst : Int) = parL s ∧ (0 : Int) = parE s ∧ True) ∧ ((((0 : Int)
= (0 : Int) → False) → False) → D.nil = parD s ∧ (0 : Int) = parL s ∧ (0 : Int) = parE s ∧ True))) ∧ ∀ (x : Nat × List UInt8), (x.fst ≤ List.count (10 : UInt8) s ∧ x.fst ≤ (16 : Nat) ∧ List.drop x.fst
(piecesOf (10 : UInt8) s) = piecesOf (10 : UInt8) x.snd ∧ x.snd.length ≤ s.length ∧ ∀ (k : Nat), k < x.fst → errK s k = (0 : Int)) ∧ Nat.le (1 : Nat) x.fst → List.count (10 : UInt8) s + (1 : Nat) -
x.fst < LIM ∧ ((x.snd = [] → False) → x.snd.length ≤ (100000 : Nat) ∧ (cutA x.snd).length ≤ (100000 : Nat) ∧ ((((0 : Int) ≤ cutI x.snd (10 : UInt8) → False) → False) → ((lineP (cutA x.snd) → False) →
D.nil = parD s ∧ (↑x.fst : Int) = parL s ∧ (3 : Int) = parE s ∧ True) ∧ (((lineP (cutA x.snd) → False) → False) → (0 : Nat) + x.fst ≤ (tabsL s x.fst).length ∧ ((List.take x.fst (tabsL s x.fst)).length
≤ (100 : Nat) ∧ (pD (lineP (cutA x.snd)) (restD (cutA x.snd))).len ≤ (100000 : Nat)) ∧ ((nextZ (D.list (List.take x.fst (tabsL s x.fst))) (pS (lineP (cutA x.snd)) (wrd (cutA x.snd) (1 : Nat))) (pI
(lineP (cutA x.snd)) (shapeZ (wrd (cutA x.snd) (2 : Nat)))) (pI (lineP (cutA x.snd)) (nAt (cutA x.snd) (0 : Nat))) (pI (lineP (cutA x.snd)) (nAt (cutA x.snd) (1 : Nat))) (pD (lineP (cutA x.snd))
(restD (cutA x.snd))) (pI (lineP (cutA x.snd)) (nAt (cutA x.snd) (2 : Nat))) (pI (lineP (cutA x.snd)) (nAt (cutA x.snd) (3 : Nat))) = (0 : Int) → False) → ((nextZ (D.list (List.take x.fst (tabsL s
x.fst))) (pS (lineP (cutA x.snd)) (wrd (cutA x.snd) (1 : Nat))) (pI (lineP (cutA x.snd)) (shapeZ (wrd (cutA x.snd) (2 : Nat)))) (pI (lineP (cutA x.snd)) (nAt (cutA x.snd) (0 : Nat))) (pI (lineP (cutA
x.snd)) (nAt (cutA x.snd) (1 : Nat))) (pD (lineP (cutA x.snd)) (restD (cutA x.snd))) (pI (lineP (cutA x.snd)) (nAt (cutA x.snd) (2 : Nat))) (pI (lineP (cutA x.snd)) (nAt (cutA x.snd) (3 : Nat))) = (0
: Int) → False) → D.nil = parD s ∧ (↑x.fst : Int) = parL s ∧ nextZ (D.list (List.take x.fst (tabsL s x.fst))) (pS (lineP (cutA x.snd)) (wrd (cutA x.snd) (1 : Nat))) (pI (lineP (cutA x.snd)) (shapeZ
(wrd (cutA x.snd) (2 : Nat)))) (pI (lineP (cutA x.snd)) (nAt (cutA x.snd) (0 : Nat))) (pI (lineP (cutA x.snd)) (nAt (cutA x.snd) (1 : Nat))) (pD (lineP (cutA x.snd)) (restD (cutA x.snd))) (pI (lineP
(cutA x.snd)) (nAt (cutA x.snd) (2 : Nat))) (pI (lineP (cutA x.snd)) (nAt (cutA x.snd) (3 : Nat))) = parE s ∧ True) ∧ (((nextZ (D.list (List.take x.fst (tabsL s x.fst))) (pS (lineP (cutA x.snd)) (wrd
(cutA x.snd) (1 : Nat))) (pI (lineP (cutA x.snd)) (shapeZ (wrd (cutA x.snd) (2 : Nat)))) (pI (lineP (cutA x.snd)) (nAt (cutA x.snd) (0 : Nat))) (pI (lineP (cutA x.snd)) (nAt (cutA x.snd) (1 : Nat)))
(pD (lineP (cutA x.snd)) (restD (cutA x.snd))) (pI (lineP (cutA x.snd)) (nAt (cutA x.snd) (2 : Nat))) (pI (lineP (cutA x.snd)) (nAt (cutA x.snd) (3 : Nat))) = (0 : Int) → False) → False) → ((0 : Nat)
+ x.fst ≤ (tabsL s x.fst).length ∧ D.list (List.take x.fst (tabsL s x.fst)) = parD s) ∧ (0 : Int) = parL s ∧ (0 : Int) = parE s ∧ True)) ∧ (((nextZ (D.list (List.take x.fst (tabsL s x.fst))) (pS
(lineP (cutA x.snd)) (wrd (cutA x.snd) (1 : Nat))) (pI (lineP (cutA x.snd)) (shapeZ (wrd (cutA x.snd) (2 : Nat)))) (pI (lineP (cutA x.snd)) (nAt (cutA x.snd) (0 : Nat))) (pI (lineP (cutA x.snd)) (nAt
(cutA x.snd) (1 : Nat))) (pD (lineP (cutA x.snd)) (restD (cutA x.snd))) (pI (lineP (cutA x.snd)) (nAt (cutA x.snd) (2 : Nat))) (pI (lineP (cutA x.snd)) (nAt (cutA x.snd) (3 : Nat))) = (0 : Int) →
False) → False) → ((↑x.fst : Int) = (16 : Int) → D.nil = parD s ∧ (↑x.fst : Int) = parL s ∧ (7 : Int) = parE s ∧ True) ∧ (((↑x.fst : Int) = (16 : Int) → False) → (0 : Nat) + (1 : Nat) ≤ [D.sct [D.str
(pS (lineP (cutA x.snd)) (wrd (cutA x.snd) (1 : Nat))), D.int (pI (lineP (cutA x.snd)) (shapeZ (wrd (cutA x.snd) (2 : Nat)))), D.int (pI (lineP (cutA x.snd)) (nAt (cutA x.snd) (0 : Nat))), D.int (pI
(lineP (cutA x.snd)) (nAt (cutA x.snd) (1 : Nat))), pD (lineP (cutA x.snd)) (restD (cutA x.snd)), D.int (pI (lineP (cutA x.snd)) (nAt (cutA x.snd) (2 : Nat))), D.int (pI (lineP (cutA x.snd)) (nAt
(cutA x.snd) (3 : Nat)))]].length ∧ (0 : Nat) + x.fst ≤ (tabsL s x.fst).length ∧ x.fst + (1 : Nat) ≤ (16777216 : Nat) ∧ ((-9223372036854775808 : Int) ≤ (↑x.fst : Int) + (1 : Int) ∧ (↑x.fst : Int) + (1
: Int) < (9223372036854775808 : Int)) ∧ ((∃ (y : Nat × List UInt8), ((y.fst ≤ List.count (10 : UInt8) s ∧ y.fst ≤ (16 : Nat) ∧ List.drop y.fst (piecesOf (10 : UInt8) s) = piecesOf (10 : UInt8) y.snd ∧
y.snd.length ≤ s.length ∧ ∀ (k : Nat), k < y.fst → errK s k = (0 : Int)) ∧ y.fst = (0 : Nat)) ∧ List.count (10 : UInt8) s + (1 : Nat) - y.fst < List.count (10 : UInt8) s + (1 : Nat) - x.fst ∧ (cutB
x.snd = y.snd ∧ (↑x.fst : Int) + (1 : Int) = (↑y.fst : Int) ∧ False ∧ (0 : Int) = (0 : Int) ∧ True) ∧ True) ∨ ∃ (y : Nat × List UInt8), ((y.fst ≤ List.count (10 : UInt8) s ∧ y.fst ≤ (16 : Nat) ∧
List.drop y.fst (piecesOf (10 : UInt8) s) = piecesOf (10 : UInt8) y.snd ∧ y.snd.length ≤ s.length ∧ ∀ (k : Nat), k < y.fst → errK s k = (0 : Int)) ∧ Nat.le (1 : Nat) y.fst) ∧ List.count (10 : UInt8) s
+ (1 : Nat) - y.fst < List.count (10 : UInt8) s + (1 : Nat) - x.fst ∧ (cutB x.snd = y.snd ∧ (↑x.fst : Int) + (1 : Int) = (↑y.fst : Int) ∧ ((0 : Nat) = (0 : Nat) ∧ x.fst + (1 : Nat) = y.fst ∧ True) ∧
(0 : Int) = (0 : Int) ∧ True) ∧ List.take x.fst (tabsL s x.fst) ++ List.take (1 : Nat) [D.sct [D.str (pS (lineP (cutA x.snd)) (wrd (cutA x.snd) (1 : Nat))), D.int (pI (lineP (cutA x.snd)) (shapeZ (wrd
(cutA x.snd) (2 : Nat)))), D.int (pI (lineP (cutA x.snd)) (nAt (cutA x.snd) (0 : Nat))), D.int (pI (lineP (cutA x.snd)) (nAt (cutA x.snd) (1 : Nat))), pD (lineP (cutA x.snd)) (restD (cutA x.snd)),
D.int (pI (lineP (cutA x.snd)) (nAt (cutA x.snd) (2 : Nat))), D.int (pI (lineP (cutA x.snd)) (nAt (cutA x.snd) (3 : Nat)))]] = tabsL s y.fst ∧ True))))) ∧ (((0 : Int) ≤ cutI x.snd (10 : UInt8) →
False) → D.nil = parD s ∧ (↑x.fst : Int) = parL s ∧ (3 : Int) = parE s ∧ True)) ∧ (((x.snd = [] → False) → False) → (((0 : Int) = (0 : Int) → False) → D.nil = parD s ∧ (↑x.fst : Int) = parL s ∧ (0 :
Int) = parE s ∧ True) ∧ ((((0 : Int) = (0 : Int) → False) → False) → ((0 : Nat) + x.fst ≤ (tabsL s x.fst).length ∧ D.list (List.take x.fst (tabsL s x.fst)) = parD s) ∧ (0 : Int) = parL s ∧ (0 : Int) =
parE s ∧ True)))) := by intros; kernel_rfl
theorem tabs_len (s : List UInt8) (n : Nat) : (tabsL s n).length = n := by unfold tabsL; rw [List.length_map, List.length_range]
theorem tabs_succ (s : List UInt8) (n : Nat) : tabsL s (n + 1) = tabsL s n ++ [tabD (lnAt s n)] := by unfold tabsL; rw [List.range_succ, List.map_append]; rfl
theorem tabs_nth (s : List UInt8) {n k : Nat} (h : k < n) : nthD (tabsL s n) k = tabD (lnAt s k) := by unfold tabsL nthD; rw [List.getElem?_map, List.getElem?_range h]; rfl
theorem listD_len (l : List D) : (listD l).len = l.length := by cases l <;> rfl
theorem listD_as (l : List D) : (listD l).asList = l := by cases l <;> rfl
theorem scan_stop (s : List UInt8) (k : Nat) (hk : ∀ j, j < k → errK s j = 0) (he : errK s k ≠ 0) : ∀ f i, i ≤ k → k < i + f → scanP s f i = ((k : Int), errK s k)
 | 0, i, h1, h2 => by omega
 | f + 1, i, h1, h2 => by
  unfold scanP
  by_cases e : i = k
  ·subst e; rw [if_pos he]
  ·rw [if_neg fun h => h (hk i (by omega))]; exact scan_stop s k hk he f (i + 1) (by omega) (by omega)
theorem scan_end (s : List UInt8) : ∀ f i, (∀ j, i ≤ j → j < i + f → errK s j = 0) → scanP s f i = (0, 0)
 | 0, i, h => rfl
 | f + 1, i, h => by
  unfold scanP
  rw [if_neg fun h' => h' (h i (by omega) (by omega))]; exact scan_end s f (i + 1) fun j h1 h2 => h j (by omega) (by omega)
theorem fin_big {s : List UInt8} (h : 65536 < s.length) : D.nil = parD s ∧ 0 = parL s ∧ 7 = parE s ∧ True := by
 unfold parD parL parE; rw [if_pos h, if_pos h, if_pos h]; exact ⟨rfl, rfl, rfl, trivial⟩
theorem fin_err {s : List UInt8} {k : Nat} {e : Int} (h : ¬ 65536 < s.length) (hk : ∀ j, j < k → errK s j = 0) (hn : k < nLines s) (he : errK s k = e) (h0 : e ≠ 0) : D.nil = parD s ∧ (k : Int) = parL s ∧ e = parE s ∧ True := by
 subst he
 have := scan_stop s k hk h0 (nLines s) 0 (Nat.zero_le _) (by omega)
 unfold parD parL parE endP
 rw [this, if_neg h, if_neg h, if_neg h, if_pos h0]; exact ⟨rfl, rfl, rfl, trivial⟩
theorem fin_ok {s : List UInt8} {k : Nat} (h : ¬ 65536 < s.length) (hk : ∀ j, j < k → errK s j = 0) (hn : k = nLines s) : parD s = listD (tabsL s k) ∧ 0 = parL s ∧ 0 = parE s ∧ True := by
 subst hn
 have := scan_end s (nLines s) 0 fun j _ h2 => hk j (by omega)
 unfold parD parL parE endP
 rw [this, if_neg h, if_neg h, if_neg h, if_neg fun h => h rfl]; exact ⟨rfl, rfl, rfl, trivial⟩
theorem err_form {s : List UInt8} {k : Nat} (h : ¬ formK s k) : errK s k = 3 := by unfold errK; rw [if_pos h]
theorem next_err {s : List UInt8} {k : Nat} {L : D} {z : Int} (hL : lineP (lnAt s k)) (hk : k < s.count 10) (ht : twiceN L (wrd (lnAt s k) 1) ↔ twiceN (.list (tabsL s k)) (wrd (lnAt s k) 1))
  (hz : z = nextZ L (wrd (lnAt s k) 1) (shapeZ (wrd (lnAt s k) 2)) (nAt (lnAt s k) 0) (nAt (lnAt s k) 1) (restD (lnAt s k)) (nAt (lnAt s k) 2) (nAt (lnAt s k) 3)) :
  (z ≠ 0 → errK s k = z) ∧ (z = 0 → errK s k = if k = 16 then 7 else 0) := by
 have e : errZ (wrd (lnAt s k) 1) (shapeZ (wrd (lnAt s k) 2)) (nAt (lnAt s k) 0) (nAt (lnAt s k) 1) (restD (lnAt s k)) (nAt (lnAt s k) 2) (nAt (lnAt s k) 3) = errT (tabD (lnAt s k)) := rfl
 unfold nextZ at hz
 rw [e] at hz
 unfold errK
 rw [if_neg fun h => h ⟨hL, hk⟩]
 by_cases h1 : errT (tabD (lnAt s k)) = 0
 ·rw [if_neg fun h => h h1] at hz ⊢
  by_cases h2 : twiceN L (wrd (lnAt s k) 1)
  ·rw [if_pos h2] at hz; rw [if_pos (ht.1 h2)]
   exact ⟨fun _ => hz.symm, fun h => by omega⟩
  ·rw [if_neg h2] at hz; rw [if_neg fun h => h2 (ht.2 h)]
   exact ⟨fun h => absurd hz h, fun _ => rfl⟩
 ·rw [if_pos h1] at hz ⊢
  exact ⟨fun _ => hz.symm, fun h => absurd (hz.symm.trans h) h1⟩
theorem head_piece {P r : List (List UInt8)} {w : List UInt8} {k : Nat} (hd : P.drop k = w :: r) : pAt P k = w := by
 have h2 : (P.drop k)[0]? = some w := by rw [hd]; rfl
 rw [List.getElem?_drop, Nat.add_zero] at h2
 unfold pAt; rw [h2]; rfl
theorem last_piece {s : List UInt8} {c : Nat} {w : List UInt8} (hd : (piecesOf 10 s).drop c = [w]) : c = s.count 10 ∧ pAt (piecesOf 10 s) (s.count 10) = w := by
 have h1 : ((piecesOf 10 s).drop c).length = 1 := by rw [hd]; rfl
 rw [List.length_drop, pieces_len] at h1
 have hc : c = s.count 10 := by omega
 exact ⟨hc, by rw [← hc]; exact head_piece hd⟩
theorem nL_last {s : List UInt8} (h : lastE s) : nLines s = s.count 10 := by
 unfold nLines linesL; rw [if_pos h, List.length_take, pieces_len]; omega
theorem nL_not {s : List UInt8} (h : ¬ lastE s) : nLines s = s.count 10 + 1 := by
 unfold nLines linesL; rw [if_neg h, pieces_len]
theorem nL_ge (s : List UInt8) : s.count 10 ≤ nLines s := by
 by_cases h : lastE s
 ·rw [nL_last h]; exact Nat.le_refl _
 ·rw [nL_not h]; omega
theorem cutA_len (t : List UInt8) : (cutA t).length ≤ t.length := by
 unfold cutA
 split
 ·rw [List.length_take]; omega
 ·exact Nat.le_refl _
theorem cutB_len (t : List UInt8) : (cutB t).length ≤ t.length := by
 unfold cutB
 split
 ·rw [List.length_drop]; omega
 ·exact Nat.zero_le _
theorem cut_line {s t : List UInt8} {k : Nat} (hd : (piecesOf 10 s).drop k = piecesOf 10 t) (h : 0 ≤ cutI t 10) : k < s.count 10 ∧ cutA t = lnAt s k ∧ (piecesOf 10 s).drop (k + 1) = piecesOf 10 (cutB t) := by
 obtain ⟨h1, h2⟩ := cut_yes h
 rw [h2] at hd
 obtain ⟨t1, t2, t3⟩ := drop_tail hd
 have eB : cutB t = t.drop ((cutI t 10).toNat + 1) := by unfold cutB; rw [if_pos h]
 have eA : cutA t = t.take (cutI t 10).toNat := by unfold cutA; rw [if_pos h]
 have h3 : ((piecesOf 10 s).drop (k + 1)).length ≠ 0 := by rw [t2]; exact fun h => pieces_ne 10 _ (List.eq_nil_of_length_eq_zero h)
 rw [List.length_drop, pieces_len] at h3
 exact ⟨by omega, by rw [eA]; exact (head_piece hd).symm, by rw [eB]; exact t2⟩
theorem cut_none {s t : List UInt8} {k : Nat} (hd : (piecesOf 10 s).drop k = piecesOf 10 t) (h : ¬ 0 ≤ cutI t 10) (ht : t ≠ []) : k < nLines s ∧ ¬ formK s k := by
 rw [show piecesOf 10 t = [t] from cut_no (by omega)] at hd
 obtain ⟨h1, h2⟩ := last_piece hd
 have hl : ¬ lastE s := fun h => ht (h2.symm.trans h)
 exact ⟨by rw [nL_not hl]; omega, fun h => by have := h.out.2; omega⟩
theorem t_nil {s : List UInt8} {k : Nat} (hd : (piecesOf 10 s).drop k = piecesOf 10 []) : k = nLines s := by
 obtain ⟨h1, h2⟩ := last_piece (w := []) hd
 rw [nL_last h2]; exact h1
theorem rest_len (p : Prop) (w : List UInt8) (h : w.length ≤ 70000) : (pD p (restD w)).len ≤ 100000 := by
 have h1 : (restD w).len ≤ 100000 := by
  unfold restD; rw [listD_len, List.length_drop, numsL_len, pieces_len]
  have : w.count 32 ≤ w.length := List.count_le_length
  omega
 unfold pD
 split
 ·exact h1
 ·exact Nat.zero_le _
theorem tab_row {w : List UInt8} {p : Prop} (h : p) : D.sct [.str (pS p (wrd w 1)), .int (pI p (shapeZ (wrd w 2))), .int (pI p (nAt w 0)), .int (pI p (nAt w 1)), pD p (restD w), .int (pI p (nAt w 2)), .int (pI p (nAt w 3))] = tabD w := by
 rw [pS_yes _ h, pI_yes _ h, pI_yes _ h, pI_yes _ h, pD_yes _ h, pI_yes _ h, pI_yes _ h]; rfl
theorem nz_row {L : D} {w : List UInt8} {p : Prop} (h : p) : nextZ L (pS p (wrd w 1)) (pI p (shapeZ (wrd w 2))) (pI p (nAt w 0)) (pI p (nAt w 1)) (pD p (restD w)) (pI p (nAt w 2)) (pI p (nAt w 3)) = nextZ L (wrd w 1) (shapeZ (wrd w 2)) (nAt w 0) (nAt w 1) (restD w) (nAt w 2) (nAt w 3) := by
 rw [pS_yes _ h, pI_yes _ h, pI_yes _ h, pI_yes _ h, pD_yes _ h, pI_yes _ h, pI_yes _ h]
theorem no_twice (s : List UInt8) (k : Nat) (h0 : k = 0) (nm : List UInt8) : twiceN .nil nm ↔ twiceN (.list (tabsL s k)) nm := by
 subst h0
 exact ⟨fun h => by obtain ⟨j, h1, _⟩ := h.out; exact absurd h1 (Nat.not_lt_zero _), fun h => by obtain ⟨j, h1, _⟩ := h.out; exact absurd h1 (Nat.not_lt_zero _)⟩
theorem err_ext {s : List UInt8} {k : Nat} (hk : ∀ j, j < k → errK s j = 0) (h : errK s k = 0) : ∀ j, j < k + 1 → errK s j = 0 := fun j hj => by
 by_cases e : j = k
 ·subst e; exact h
 ·exact hk j (by omega)
theorem s9 (s : List UInt8) (hs : s.length ≤ 4000 ∨ 65536 < s.length) : symFun (ctx hp3 hpAnn) 5 9 [.str s] (.tup [.dat 25 (parD s), .int .i64 (parL s), .int .i64 (parE s)]) := by
 rw [vc9]
 refine ⟨fun h => fin_big (by omega), fun h => ?_⟩
 have h : ¬ (65536 : Int) < s.length := h
 have hb : ¬ 65536 < s.length := by omega
 have hcl : s.count 10 ≤ s.length := List.count_le_length
 refine ⟨.inl ⟨(0, s), ⟨⟨Nat.zero_le _, Nat.zero_le _, rfl, Nat.le_refl _, fun k hk => absurd hk (Nat.not_lt_zero _)⟩, rfl⟩, ⟨rfl, rfl, trivial, rfl, trivial⟩, trivial⟩, fun x ⟨⟨hc, h16, hd, hl, hk⟩, h0⟩ => ⟨by unfold LIM; omega, fun hne => ⟨by omega, Nat.le_trans (cutA_len _) (by omega), fun hcut => ⟨fun hnl => ?_, fun hL => ⟨⟨by decide, rest_len _ _ (Nat.le_trans (cutA_len _) (by omega))⟩, fun hz => ⟨fun _ => ?_, fun h => absurd hz h⟩, fun hz => ?_⟩⟩, fun hcut => ?_⟩, fun he => ⟨fun h => absurd rfl h, fun _ => ?_⟩⟩, fun x ⟨⟨hc, h16, hd, hl, hk⟩, h0⟩ => ⟨by unfold LIM; omega, fun hne => ⟨by omega, Nat.le_trans (cutA_len _) (by omega), fun hcut => ⟨fun hnl => ?_, fun hL => ⟨by rw [tabs_len]; omega, ⟨by rw [List.length_take, tabs_len]; omega, rest_len _ _ (Nat.le_trans (cutA_len _) (by omega))⟩, fun hz => ⟨fun _ => ?_, fun h => absurd hz h⟩, fun hz => ⟨fun he16 => ?_, fun hn16 => ?_⟩⟩⟩, fun hcut => ?_⟩, fun he => ⟨fun h => absurd rfl h, fun _ => ?_⟩⟩⟩
 ·obtain ⟨c1, c2, c3⟩ := cut_line hd (Classical.not_not.1 hcut)
  exact fin_err hb hk (by have := nL_ge s; omega) (err_form fun h => hnl (by rw [c2]; exact h.out.1)) (by decide)
 ·obtain ⟨c1, c2, c3⟩ := cut_line hd (Classical.not_not.1 hcut)
  have hL := Classical.not_not.1 hL
  rw [nz_row hL] at hz ⊢
  rw [c2] at hz hL ⊢
  exact fin_err hb hk (by have := nL_ge s; omega) ((next_err hL c1 (no_twice s x.1 h0 _) rfl).1 hz) hz
 ·obtain ⟨c1, c2, c3⟩ := cut_line hd (Classical.not_not.1 hcut)
  have hL := Classical.not_not.1 hL
  have hz := Classical.not_not.1 hz
  rw [nz_row hL] at hz
  rw [tab_row hL]
  rw [c2] at hz hL ⊢
  have he := (next_err hL c1 (no_twice s x.1 h0 _) rfl).2 hz
  rw [if_neg (by omega)] at he
  refine ⟨Nat.le_refl 1, by decide, ⟨by omega, by omega⟩, .inr ⟨(x.1 + 1, cutB x.2), ⟨⟨by show x.1 + 1 ≤ s.count 10; omega, by show x.1 + 1 ≤ 16; omega, c3, Nat.le_trans (cutB_len _) hl, err_ext hk he⟩, by show 1 ≤ x.1 + 1; omega⟩, by show s.count 10 + 1 - (x.1 + 1) < s.count 10 + 1 - x.1; omega, ⟨rfl, by show (x.1 : Int) + 1 = ((x.1 + 1 : Nat) : Int); omega, ⟨rfl, by show 1 = x.1 + 1; omega, trivial⟩, rfl, trivial⟩, ?_, trivial⟩⟩
  show _ = tabsL s (x.1 + 1)
  rw [tabs_succ, show tabsL s x.1 = [] by rw [h0]; rfl]; rfl
 ·obtain ⟨c1, c2⟩ := cut_none hd hcut hne
  exact fin_err hb hk c1 (err_form c2) (by decide)
 ·have he := Classical.not_not.1 he
  rw [he] at hd
  obtain ⟨f1, f2⟩ := fin_ok hb hk (t_nil hd)
  refine ⟨?_, f2⟩
  rw [f1, h0]; rfl
 ·obtain ⟨c1, c2, c3⟩ := cut_line hd (Classical.not_not.1 hcut)
  exact fin_err hb hk (by have := nL_ge s; omega) (err_form fun h => hnl (by rw [c2]; exact h.out.1)) (by decide)
 ·obtain ⟨c1, c2, c3⟩ := cut_line hd (Classical.not_not.1 hcut)
  have hL := Classical.not_not.1 hL
  rw [take_all _ _ (by rw [tabs_len]; omega), nz_row hL] at hz ⊢
  rw [c2] at hz hL ⊢
  exact fin_err hb hk (by have := nL_ge s; omega) ((next_err hL c1 Iff.rfl rfl).1 hz) hz
 ·obtain ⟨c1, c2, c3⟩ := cut_line hd (Classical.not_not.1 hcut)
  have hL := Classical.not_not.1 hL
  have hz := Classical.not_not.1 hz
  have he16 : (x.1 : Int) = 16 := he16
  rw [take_all _ _ (by rw [tabs_len]; omega), nz_row hL] at hz
  rw [c2] at hz hL
  have he := (next_err hL c1 Iff.rfl rfl).2 hz
  rw [if_pos (by omega)] at he
  exact fin_err hb hk (by have := nL_ge s; omega) he (by decide)
 ·obtain ⟨c1, c2, c3⟩ := cut_line hd (Classical.not_not.1 hcut)
  have hL := Classical.not_not.1 hL
  have hz := Classical.not_not.1 hz
  have hn16 : ¬ (x.1 : Int) = 16 := hn16
  rw [take_all _ _ (by rw [tabs_len]; omega), nz_row hL] at hz
  rw [tab_row hL, take_all _ _ (by rw [tabs_len]; omega)]
  rw [c2] at hz hL ⊢
  have he := (next_err hL c1 Iff.rfl rfl).2 hz
  rw [if_neg (by omega)] at he
  refine ⟨Nat.le_refl 1, by rw [tabs_len]; omega, by omega, ⟨by omega, by omega⟩, .inr ⟨(x.1 + 1, cutB x.2), ⟨⟨by show x.1 + 1 ≤ s.count 10; omega, by show x.1 + 1 ≤ 16; omega, c3, Nat.le_trans (cutB_len _) hl, err_ext hk he⟩, by show 1 ≤ x.1 + 1; omega⟩, by show s.count 10 + 1 - (x.1 + 1) < s.count 10 + 1 - x.1; omega, ⟨rfl, by show (x.1 : Int) + 1 = ((x.1 + 1 : Nat) : Int); omega, ⟨rfl, rfl, trivial⟩, rfl, trivial⟩, ?_, trivial⟩⟩
  show _ = tabsL s (x.1 + 1)
  rw [tabs_succ]; rfl
 ·obtain ⟨c1, c2⟩ := cut_none hd hcut hne
  exact fin_err hb hk c1 (err_form c2) (by decide)
 ·have he := Classical.not_not.1 he
  rw [he] at hd
  obtain ⟨f1, f2⟩ := fin_ok hb hk (t_nil hd)
  have h0 : 1 ≤ x.1 := h0
  refine ⟨⟨by rw [tabs_len]; omega, ?_⟩, f2⟩
  rw [f1, take_all _ _ (by rw [tabs_len]; omega), listD_ne (by rw [tabs_len]; omega)]
end Go.Ev

end

section
open Go.Proofs
namespace Go.Ev
set_option maxRecDepth 100000
set_option maxHeartbeats 4000000
theorem vc12 : ∀ (s : List UInt8), symFun (ctx hp3 hpAnn) (5 : Nat) (12 : FuncId) [V.str s] (V.tup [V.dat (25 : TypeId) (parD s), V.int IntKind.i64 (parL s), V.int IntKind.i64 (parE s)]) = (((65536 :
Int) < (↑s.length : Int) → D.nil = parD s ∧ (0 : Int) = parL s ∧ (7 : Int) = parE s ∧ True) ∧ (((65536 : Int) < (↑s.length : Int) → False) → s.length ≤ (100000 : Nat) ∧ ((∃ (x : Nat), ((x ≤ nLines s ∧
x ≤ (16 : Nat) ∧ ∀ (k : Nat), k < x → errK s k = (0 : Int)) ∧ x = (0 : Nat)) ∧ ((0 : Int) = (0 : Int) ∧ True ∧ True) ∧ True) ∨ ∃ (x : Nat), ((x ≤ nLines s ∧ x ≤ (16 : Nat) ∧ ∀ (k : Nat), k < x → errK
s k = (0 : Int)) ∧ Nat.le (1 : Nat) x) ∧ ((0 : Int) = (↑x : Int) ∧ False ∧ True) ∧ False ∧ True) ∧ (∀ (x : Nat), (x ≤ nLines s ∧ x ≤ (16 : Nat) ∧ ∀ (k : Nat), k < x → errK s k = (0 : Int)) ∧ x = (0 :
Nat) → nLines s - x < LIM ∧ ((0 : Int) < (↑(listD (strsD (linesL s))).len : Int) → (0 : Int) ≤ (0 : Int) ∧ (0 : Int) < (↑(listD (strsD (linesL s))).len : Int) ∧ (el (listD (strsD (linesL s)))
(Int.toNat (0 : Int))).asStr.length ≤ (100000 : Nat) ∧ (((lineP (el (listD (strsD (linesL s))) (Int.toNat (0 : Int))).asStr → False) → False) → ((pAt (piecesOf (10 : UInt8) s) (List.count (10 : UInt8)
s) = [] → False) → ((-9223372036854775808 : Int) ≤ (↑(listD (strsD (linesL s))).len : Int) - (1 : Int) ∧ (↑(listD (strsD (linesL s))).len : Int) - (1 : Int) < (9223372036854775808 : Int)) ∧ ((0 : Int)
= (↑(listD (strsD (linesL s))).len : Int) - (1 : Int) → D.nil = parD s ∧ (0 : Int) = parL s ∧ (3 : Int) = parE s ∧ True) ∧ (((0 : Int) = (↑(listD (strsD (linesL s))).len : Int) - (1 : Int) → False) →
(pD (headP (el (listD (strsD (linesL s))) (Int.toNat (0 : Int))).asStr) (restD (el (listD (strsD (linesL s))) (Int.toNat (0 : Int))).asStr)).len ≤ (100000 : Nat) ∧ ((errZ (pS (headP (el (listD (strsD
(linesL s))) (Int.toNat (0 : Int))).asStr) (wrd (el (listD (strsD (linesL s))) (Int.toNat (0 : Int))).asStr (1 : Nat))) (pI (headP (el (listD (strsD (linesL s))) (Int.toNat (0 : Int))).asStr) (shapeZ
(wrd (el (listD (strsD (linesL s))) (Int.toNat (0 : Int))).asStr (2 : Nat)))) (pI (headP (el (listD (strsD (linesL s))) (Int.toNat (0 : Int))).asStr) (nAt (el (listD (strsD (linesL s))) (Int.toNat (0
: Int))).asStr (0 : Nat))) (pI (headP (el (listD (strsD (linesL s))) (Int.toNat (0 : Int))).asStr) (nAt (el (listD (strsD (linesL s))) (Int.toNat (0 : Int))).asStr (1 : Nat))) (pD (headP (el (listD
(strsD (linesL s))) (Int.toNat (0 : Int))).asStr) (restD (el (listD (strsD (linesL s))) (Int.toNat (0 : Int))).asStr)) (pI (headP (el (listD (strsD (linesL s))) (Int.toNat (0 : Int))).asStr) (nAt (el
(listD (strsD (linesL s))) (Int.toNat (0 : Int))).asStr (2 : Nat))) (pI (headP (el (listD (strsD (linesL s))) (Int.toNat (0 : Int))).asStr) (nAt (el (listD (strsD (linesL s))) (Int.toNat (0 :
Int))).asStr (3 : Nat))) = (0 : Int) → False) → D.nil = parD s ∧ (0 : Int) = parL s ∧ errZ (pS (headP (el (listD (strsD (linesL s))) (Int.toNat (0 : Int))).asStr) (wrd (el (listD (strsD (linesL s)))
(Int.toNat (0 : Int))).asStr (1 : Nat))) (pI (headP (el (listD (strsD (linesL s))) (Int.toNat (0 : Int))).asStr) (shapeZ (wrd (el (listD (strsD (linesL s))) (Int.toNat (0 : Int))).asStr (2 : Nat))))
(pI (headP (el (listD (strsD (linesL s))) (Int.toNat (0 : Int))).asStr) (nAt (el (listD (strsD (linesL s))) (Int.toNat (0 : Int))).asStr (0 : Nat))) (pI (headP (el (listD (strsD (linesL s)))
(Int.toNat (0 : Int))).asStr) (nAt (el (listD (strsD (linesL s))) (Int.toNat (0 : Int))).asStr (1 : Nat))) (pD (headP (el (listD (strsD (linesL s))) (Int.toNat (0 : Int))).asStr) (restD (el (listD
(strsD (linesL s))) (Int.toNat (0 : Int))).asStr)) (pI (headP (el (listD (strsD (linesL s))) (Int.toNat (0 : Int))).asStr) (nAt (el (listD (strsD (linesL s))) (Int.toNat (0 : Int))).asStr (2 : Nat)))
(pI (headP (el (listD (strsD (linesL s))) (Int.toNat (0 : Int))).asStr) (nAt (el (listD (strsD (linesL s))) (Int.toNat (0 : Int))).asStr (3 : Nat))) = parE s ∧ True) ∧ (((errZ (pS (headP (el (listD
(strsD (linesL s))) (Int.toNat (0 : Int))).asStr) (wrd (el (listD (strsD (linesL s))) (Int.toNat (0 : Int))).asStr (1 : Nat))) (pI (headP (el (listD (strsD (linesL s))) (Int.toNat (0 : Int))).asStr)
(shapeZ (wrd (el (listD (strsD (linesL s))) (Int.toNat (0 : Int))).asStr (2 : Nat)))) (pI (headP (el (listD (strsD (linesL s))) (Int.toNat (0 : Int))).asStr) (nAt (el (listD (strsD (linesL s)))
(Int.toNat (0 : Int))).asStr (0 : Nat))) (pI (headP (el (listD (strsD (linesL s))) (Int.toNat (0 : Int))).asStr) (nAt (el (listD (strsD (linesL s))) (Int.toNat (0 : Int))).asStr (1 : Nat))) (pD (headP
(el (listD (strsD (linesL s))) (Int.toNat (0 : Int))).asStr) (restD (el (listD (strsD (linesL s))) (Int.toNat (0 : Int))).asStr)) (pI (headP (el (listD (strsD (linesL s))) (Int.toNat (0 :
Int))).asStr) (nAt (el (listD (strsD (linesL s))) (Int.toNat (0 : Int))).asStr (2 : Nat))) (pI (headP (el (listD (strsD (linesL s))) (Int.toNat (0 : Int))).asStr) (nAt (el (listD (strsD (linesL s)))
(Int.toNat (0 : Int))).asStr (3 : Nat))) = (0 : Int) → False) → False) → (∃ (x : Nat), (x ≤ Int.toNat (0 : Int) ∧ ∀ (q : Nat), q < x → wrd (lnAt s q) (1 : Nat) = wrd (lnAt s (Int.toNat (0 : Int))) (1
: Nat) → False) ∧ ((0 : Int) = (↑x : Int) ∧ True) ∧ True) ∧ ∀ (x_1 : Nat), (x_1 ≤ Int.toNat (0 : Int) ∧ ∀ (q : Nat), q < x_1 → wrd (lnAt s q) (1 : Nat) = wrd (lnAt s (Int.toNat (0 : Int))) (1 : Nat) →
False) → Int.toNat (0 : Int) - x_1 < LIM ∧ ((↑x_1 : Int) < (0 : Int) → False) ∧ (((↑x_1 : Int) < (0 : Int) → False) → (0 : Nat) + (1 : Nat) ≤ [D.sct [D.str (pS (headP (el (listD (strsD (linesL s)))
(Int.toNat (0 : Int))).asStr) (wrd (el (listD (strsD (linesL s))) (Int.toNat (0 : Int))).asStr (1 : Nat))), D.int (pI (headP (el (listD (strsD (linesL s))) (Int.toNat (0 : Int))).asStr) (shapeZ (wrd
(el (listD (strsD (linesL s))) (Int.toNat (0 : Int))).asStr (2 : Nat)))), D.int (pI (headP (el (listD (strsD (linesL s))) (Int.toNat (0 : Int))).asStr) (nAt (el (listD (strsD (linesL s))) (Int.toNat
(0 : Int))).asStr (0 : Nat))), D.int (pI (headP (el (listD (strsD (linesL s))) (Int.toNat (0 : Int))).asStr) (nAt (el (listD (strsD (linesL s))) (Int.toNat (0 : Int))).asStr (1 : Nat))), pD (headP (el
(listD (strsD (linesL s))) (Int.toNat (0 : Int))).asStr) (restD (el (listD (strsD (linesL s))) (Int.toNat (0 : Int))).asStr), D.int (pI (headP (el (listD (strsD (linesL s))) (Int.toNat (0 :
Int))).asStr) (nAt (el (listD (strsD (linesL s))) (Int.toNat (0 : Int))).asStr (2 : Nat))), D.int (pI (headP (el (listD (strsD (linesL s))) (Int.toNat (0 : Int))).asStr) (nAt (el (listD (strsD (linesL
s))) (Int.toNat (0 : Int))).asStr (3 : Nat)))]].length ∧ (1 : Nat) ≤ (16777216 : Nat) ∧ ((-9223372036854775808 : Int) ≤ (0 : Int) + (1 : Int) ∧ (0 : Int) + (1 : Int) < (9223372036854775808 : Int)) ∧
((∃ (y : Nat), ((y ≤ nLines s ∧ y ≤ (16 : Nat) ∧ ∀ (k : Nat), k < y → errK s k = (0 : Int)) ∧ y = (0 : Nat)) ∧ nLines s - y < nLines s - x ∧ ((0 : Int) + (1 : Int) = (0 : Int) ∧ False ∧ True) ∧ True)
∨ ∃ (y : Nat), ((y ≤ nLines s ∧ y ≤ (16 : Nat) ∧ ∀ (k : Nat), k < y → errK s k = (0 : Int)) ∧ Nat.le (1 : Nat) y) ∧ nLines s - y < nLines s - x ∧ ((0 : Int) + (1 : Int) = (↑y : Int) ∧ ((0 : Nat) = (0
: Nat) ∧ (1 : Nat) = y ∧ True) ∧ True) ∧ List.take (1 : Nat) [D.sct [D.str (pS (headP (el (listD (strsD (linesL s))) (Int.toNat (0 : Int))).asStr) (wrd (el (listD (strsD (linesL s))) (Int.toNat (0 :
Int))).asStr (1 : Nat))), D.int (pI (headP (el (listD (strsD (linesL s))) (Int.toNat (0 : Int))).asStr) (shapeZ (wrd (el (listD (strsD (linesL s))) (Int.toNat (0 : Int))).asStr (2 : Nat)))), D.int (pI
(headP (el (listD (strsD (linesL s))) (Int.toNat (0 : Int))).asStr) (nAt (el (listD (strsD (linesL s))) (Int.toNat (0 : Int))).asStr (0 : Nat))), D.int (pI (headP (el (listD (strsD (linesL s)))
(Int.toNat (0 : Int))).asStr) (nAt (el (listD (strsD (linesL s))) (Int.toNat (0 : Int))).asStr (1 : Nat))), pD (headP (el (listD (strsD (linesL s))) (Int.toNat (0 : Int))).asStr) (restD (el (listD
(strsD (linesL s))) (Int.toNat (0 : Int))).asStr), D.int (pI (headP (el (listD (strsD (linesL s))) (Int.toNat (0 : Int))).asStr) (nAt (el (listD (strsD (linesL s))) (Int.toNat (0 : Int))).asStr (2 :
Nat))), D.int (pI (headP (el (listD (strsD (linesL s))) (Int.toNat (0 : Int))).asStr) (nAt (el (listD (strsD (linesL s))) (Int.toNat (0 : Int))).asStr (3 : Nat)))]] = tabsL s y ∧ True))))) ∧ (((pAt
(piecesOf (10 : UInt8) s) (List.count (10 : UInt8) s) = [] → False) → False) → (pD (headP (el (listD (strsD (linesL s))) (Int.toNat (0 : Int))).asStr) (restD (el (listD (strsD (linesL s))) (Int.toNat
(0 : Int))).asStr)).len ≤ (100000 : Nat) ∧ ((errZ (pS (headP (el (listD (strsD (linesL s))) (Int.toNat (0 : Int))).asStr) (wrd (el (listD (strsD (linesL s))) (Int.toNat (0 : Int))).asStr (1 : Nat)))
(pI (headP (el (listD (strsD (linesL s))) (Int.toNat (0 : Int))).asStr) (shapeZ (wrd (el (listD (strsD (linesL s))) (Int.toNat (0 : Int))).asStr (2 : Nat)))) (pI (headP (el (listD (strsD (linesL s)))
(Int.toNat (0 : Int))).asStr) (nAt (el (listD (strsD (linesL s))) (Int.toNat (0 : Int))).asStr (0 : Nat))) (pI (headP (el (listD (strsD (linesL s))) (Int.toNat (0 : Int))).asStr) (nAt (el (listD
(strsD (linesL s))) (Int.toNat (0 : Int))).asStr (1 : Nat))) (pD (headP (el (listD (strsD (linesL s))) (Int.toNat (0 : Int))).asStr) (restD (el (listD (strsD (linesL s))) (Int.toNat (0 :
Int))).asStr)) (pI (headP (el (listD (strsD (linesL s))) (Int.toNat (0 : Int))).asStr) (nAt (el (listD (strsD (linesL s))) (Int.toNat (0 : Int))).asStr (2 : Nat))) (pI (headP (el (listD (strsD (linesL
s))) (Int.toNat (0 : Int))).asStr) (nAt (el (listD (strsD (linesL s))) (Int.toNat (0 : Int))).asStr (3 : Nat))) = (0 : Int) → False) → D.nil = parD s ∧ (0 : Int) = parL s ∧ errZ (pS (headP (el (listD
(strsD (linesL s))) (Int.toNat (0 : Int))).asStr) (wrd (el (listD (strsD (linesL s))) (Int.toNat (0 : Int))).asStr (1 : Nat))) (pI (headP (el (listD (strsD (linesL s))) (Int.toNat (0 : Int))).asStr)
(shapeZ (wrd (el (listD (strsD (linesL s))) (Int.toNat (0 : Int))).asStr (2 : Nat)))) (pI (headP (el (listD (strsD (linesL s))) (Int.toNat (0 : Int))).asStr) (nAt (el (listD (strsD (linesL s)))
(Int.toNat (0 : Int))).asStr (0 : Nat))) (pI (headP (el (listD (strsD (linesL s))) (Int.toNat (0 : Int))).asStr) (nAt (el (listD (strsD (linesL s))) (Int.toNat (0 : Int))).asStr (1 : Nat))) (pD (headP
(el (listD (strsD (linesL s))) (Int.toNat (0 : Int))).asStr) (restD (el (listD (strsD (linesL s))) (Int.toNat (0 : Int))).asStr)) (pI (headP (el (listD (strsD (linesL s))) (Int.toNat (0 :
Int))).asStr) (nAt (el (listD (strsD (linesL s))) (Int.toNat (0 : Int))).asStr (2 : Nat))) (pI (headP (el (listD (strsD (linesL s))) (Int.toNat (0 : Int))).asStr) (nAt (el (listD (strsD (linesL s)))
(Int.toNat (0 : Int))).asStr (3 : Nat))) = parE s ∧ True) ∧ (((errZ (pS (headP (el (listD (strsD (linesL s))) (Int.toNat (0 : Int))).asStr) (wrd (el (listD (strsD (linesL s))) (Int.toNat (0 :
Int))).asStr (1 : Nat))) (pI (headP (el (listD (strsD (linesL s))) (Int.toNat (0 : Int))).asStr) (shapeZ (wrd (el (listD (strsD (linesL s))) (Int.toNat (0 : Int))).asStr (2 : Nat)))) (pI (headP (el
(listD (strsD (linesL s))) (Int.toNat (0 : Int))).asStr) (nAt (el (listD (strsD (linesL s))) (Int.toNat (0 : Int))).asStr (0 : Nat))) (pI (headP (el (listD (strsD (linesL s))) (Int.toNat (0 :
Int))).asStr) (nAt (el (listD (strsD (linesL s))) (Int.toNat (0 : Int))).asStr (1 : Nat))) (pD (headP (el (listD (strsD (linesL s))) (Int.toNat (0 : Int))).asStr) (restD (el (listD (strsD (linesL s)))
(Int.toNat (0 : Int))).asStr)) (pI (headP (el (listD (strsD (linesL s))) (Int.toNat (0 : Int))).asStr) (nAt (el (listD (strsD (linesL s))) (Int.toNat (0 : Int))).asStr (2 : Nat))) (pI (headP (el
(listD (strsD (linesL s))) (Int.toNat (0 : Int))).asStr) (nAt (el (listD (strsD (linesL s))) (Int.toNat (0 : Int))).asStr (3 : Nat))) = (0 : Int) → False) → False) → (∃ (x : Nat), (x ≤ Int.toNat (0 :
Int) ∧ ∀ (q : Nat), q < x → wrd (lnAt s q) (1 : Nat) = wrd (lnAt s (Int.toNat (0 : Int))) (1 : Nat) → False) ∧ ((0 : Int) = (↑x : Int) ∧ True) ∧ True) ∧ ∀ (x_1 : Nat), (x_1 ≤ Int.toNat (0 : Int) ∧ ∀
(q : Nat), q < x_1 → wrd (lnAt s q) (1 : Nat) = wrd (lnAt s (Int.toNat (0 : Int))) (1 : Nat) → False) → Int.toNat (0 : Int) - x_1 < LIM ∧ ((↑x_1 : Int) < (0 : Int) → False) ∧ (((↑x_1 : Int) < (0 :
Int) → False) → (0 : Nat) + (1 : Nat) ≤ [D.sct [D.str (pS (headP (el (listD (strsD (linesL s))) (Int.toNat (0 : Int))).asStr) (wrd (el (listD (strsD (linesL s))) (Int.toNat (0 : Int))).asStr (1 :
Nat))), D.int (pI (headP (el (listD (strsD (linesL s))) (Int.toNat (0 : Int))).asStr) (shapeZ (wrd (el (listD (strsD (linesL s))) (Int.toNat (0 : Int))).asStr (2 : Nat)))), D.int (pI (headP (el (listD
(strsD (linesL s))) (Int.toNat (0 : Int))).asStr) (nAt (el (listD (strsD (linesL s))) (Int.toNat (0 : Int))).asStr (0 : Nat))), D.int (pI (headP (el (listD (strsD (linesL s))) (Int.toNat (0 :
Int))).asStr) (nAt (el (listD (strsD (linesL s))) (Int.toNat (0 : Int))).asStr (1 : Nat))), pD (headP (el (listD (strsD (linesL s))) (Int.toNat (0 : Int))).asStr) (restD (el (listD (strsD (linesL s)))
(Int.toNat (0 : Int))).asStr), D.int (pI (headP (el (listD (strsD (linesL s))) (Int.toNat (0 : Int))).asStr) (nAt (el (listD (strsD (linesL s))) (Int.toNat (0 : Int))).asStr (2 : Nat))), D.int (pI
(headP (el (listD (strsD (linesL s))) (Int.toNat (0 : Int))).asStr) (nAt (el (listD (strsD (linesL s))) (Int.toNat (0 : Int))).asStr (3 : Nat)))]].length ∧ (1 : Nat) ≤ (16777216 : Nat) ∧
((-9223372036854775808 : Int) ≤ (0 : Int) + (1 : Int) ∧ (0 : Int) + (1 : Int) < (9223372036854775808 : Int)) ∧ ((∃ (y : Nat), ((y ≤ nLines s ∧ y ≤ (16 : Nat) ∧ ∀ (k : Nat), k < y → errK s k = (0 :
Int)) ∧ y = (0 : Nat)) ∧ nLines s - y < nLines s - x ∧ ((0 : Int) + (1 : Int) = (0 : Int) ∧ False ∧ True) ∧ True) ∨ ∃ (y : Nat), ((y ≤ nLines s ∧ y ≤ (16 : Nat) ∧ ∀ (k : Nat), k < y → errK s k = (0 :
Int)) ∧ Nat.le (1 : Nat) y) ∧ nLines s - y < nLines s - x ∧ ((0 : Int) + (1 : Int) = (↑y : Int) ∧ ((0 : Nat) = (0 : Nat) ∧ (1 : Nat) = y ∧ True) ∧ True) ∧ List.take (1 : Nat) [D.sct [D.str (pS (headP
(el (listD (strsD (linesL s))) (Int.toNat (0 : Int))).asStr) (wrd (el (listD (strsD (linesL s))) (Int.toNat (0 : Int))).asStr (1 : Nat))), D.int (pI (headP (el (listD (strsD (linesL s))) (Int.toNat (0
: Int))).asStr) (shapeZ (wrd (el (listD (strsD (linesL s))) (Int.toNat (0 : Int))).asStr (2 : Nat)))), D.int (pI (headP (el (listD (strsD (linesL s))) (Int.toNat (0 : Int))).asStr) (nAt (el (listD
(strsD (linesL s))) (Int.toNat (0 : Int))).asStr (0 : Nat))), D.int (pI (headP (el (listD (strsD (linesL s))) (Int.toNat (0 : Int))).asStr) (nAt (el (listD (strsD (linesL s))) (Int.toNat (0 :
Int))).asStr (1 : Nat))), pD (headP (el (listD (strsD (linesL s))) (Int.toNat (0 : Int))).asStr) (restD (el (listD (strsD (linesL s))) (Int.toNat (0 : Int))).asStr), D.int (pI (headP (el (listD (strsD
(linesL s))) (Int.toNat (0 : Int))).asStr) (nAt (el (listD (strsD (linesL s))) (Int.toNat (0 : Int))).asStr (2 : Nat))), D.int (pI (headP (el (listD (strsD (linesL s))) (Int.toNat (0 : Int))).asStr)
(nAt (el (listD (strsD (linesL s))) (Int.toNat (0 : Int))).asStr (3 : Nat)))]] = tabsL s y ∧ True))))) ∧ ((lineP (el (listD (strsD (linesL s))) (Int.toNat (0 : Int))).asStr → False) → D.nil = parD s ∧
(0 : Int) = parL s ∧ (3 : Int) = parE s ∧ True)) ∧ (((0 : Int) < (↑(listD (strsD (linesL s))).len : Int) → False) → D.nil = parD s ∧ (0 : Int) = parL s ∧ (0 : Int) = parE s ∧ True)) ∧ ∀ (x : Nat), (x
≤ nLines s ∧ x ≤ (16 : Nat) ∧ ∀ (k : Nat), k < x → errK s k = (0 : Int)) ∧ Nat.le (1 : Nat) x → nLines s - x < LIM ∧ ((↑x : Int) < (↑(listD (strsD (linesL s))).len : Int) → (0 : Int) ≤ (↑x : Int) ∧
(↑x : Int) < (↑(listD (strsD (linesL s))).len : Int) ∧ (el (listD (strsD (linesL s))) x).asStr.length ≤ (100000 : Nat) ∧ (((lineP (el (listD (strsD (linesL s))) x).asStr → False) → False) → ((pAt
(piecesOf (10 : UInt8) s) (List.count (10 : UInt8) s) = [] → False) → ((-9223372036854775808 : Int) ≤ (↑(listD (strsD (linesL s))).len : Int) - (1 : Int) ∧ (↑(listD (strsD (linesL s))).len : Int) - (1
: Int) < (9223372036854775808 : Int)) ∧ ((↑x : Int) = (↑(listD (strsD (linesL s))).len : Int) - (1 : Int) → D.nil = parD s ∧ (↑x : Int) = parL s ∧ (3 : Int) = parE s ∧ True) ∧ (((↑x : Int) = (↑(listD
(strsD (linesL s))).len : Int) - (1 : Int) → False) → (pD (headP (el (listD (strsD (linesL s))) x).asStr) (restD (el (listD (strsD (linesL s))) x).asStr)).len ≤ (100000 : Nat) ∧ ((errZ (pS (headP (el
(listD (strsD (linesL s))) x).asStr) (wrd (el (listD (strsD (linesL s))) x).asStr (1 : Nat))) (pI (headP (el (listD (strsD (linesL s))) x).asStr) (shapeZ (wrd (el (listD (strsD (linesL s))) x).asStr
(2 : Nat)))) (pI (headP (el (listD (strsD (linesL s))) x).asStr) (nAt (el (listD (strsD (linesL s))) x).asStr (0 : Nat))) (pI (headP (el (listD (strsD (linesL s))) x).asStr) (nAt (el (listD (strsD
(linesL s))) x).asStr (1 : Nat))) (pD (headP (el (listD (strsD (linesL s))) x).asStr) (restD (el (listD (strsD (linesL s))) x).asStr)) (pI (headP (el (listD (strsD (linesL s))) x).asStr) (nAt (el
(listD (strsD (linesL s))) x).asStr (2 : Nat))) (pI (headP (el (listD (strsD (linesL s))) x).asStr) (nAt (el (listD (strsD (linesL s))) x).asStr (3 : Nat))) = (0 : Int) → False) → D.nil = parD s ∧ (↑x
: Int) = parL s ∧ errZ (pS (headP (el (listD (strsD (linesL s))) x).asStr) (wrd (el (listD (strsD (linesL s))) x).asStr (1 : Nat))) (pI (headP (el (listD (strsD (linesL s))) x).asStr) (shapeZ (wrd (el
(listD (strsD (linesL s))) x).asStr (2 : Nat)))) (pI (headP (el (listD (strsD (linesL s))) x).asStr) (nAt (el (listD (strsD (linesL s))) x).asStr (0 : Nat))) (pI (headP (el (listD (strsD (linesL s)))
x).asStr) (nAt (el (listD (strsD (linesL s))) x).asStr (1 : Nat))) (pD (headP (el (listD (strsD (linesL s))) x).asStr) (restD (el (listD (strsD (linesL s))) x).asStr)) (pI (headP (el (listD (strsD
(linesL s))) x).asStr) (nAt (el (listD (strsD (linesL s))) x).asStr (2 : Nat))) (pI (headP (el (listD (strsD (linesL s))) x).asStr) (nAt (el (listD (strsD (linesL s))) x).asStr (3 : Nat))) = parE s ∧
True) ∧ (((errZ (pS (headP (el (listD (strsD (linesL s))) x).asStr) (wrd (el (listD (strsD (linesL s))) x).asStr (1 : Nat))) (pI (headP (el (listD (strsD (linesL s))) x).asStr) (shapeZ (wrd (el (listD
(strsD (linesL s))) x).asStr (2 : Nat)))) (pI (headP (el (listD (strsD (linesL s))) x).asStr) (nAt (el (listD (strsD (linesL s))) x).asStr (0 : Nat))) (pI (headP (el (listD (strsD (linesL s)))
x).asStr) (nAt (el (listD (strsD (linesL s))) x).asStr (1 : Nat))) (pD (headP (el (listD (strsD (linesL s))) x).asStr) (restD (el (listD (strsD (linesL s))) x).asStr)) (pI (headP (el (listD (strsD
(linesL s))) x).asStr) (nAt (el (listD (strsD (linesL s))) x).asStr (2 : Nat))) (pI (headP (el (listD (strsD (linesL s))) x).asStr) (nAt (el (listD (strsD (linesL s))) x).asStr (3 : Nat))) = (0 : Int)
→ False) → False) → (∃ (x_1 : Nat), (x_1 ≤ x ∧ ∀ (q : Nat), q < x_1 → wrd (lnAt s q) (1 : Nat) = wrd (lnAt s x) (1 : Nat) → False) ∧ ((0 : Int) = (↑x_1 : Int) ∧ True) ∧ True) ∧ ∀ (x_1 : Nat), (x_1 ≤ x
∧ ∀ (q : Nat), q < x_1 → wrd (lnAt s q) (1 : Nat) = wrd (lnAt s x) (1 : Nat) → False) → x - x_1 < LIM ∧ ((↑x_1 : Int) < (↑x : Int) → (0 : Int) ≤ (↑x_1 : Int) ∧ (↑x_1 : Int) < (↑x : Int) ∧ x_1 < (tabsL
s x).length ∧ (tName (nthD (tabsL s x) x_1) = pS (headP (el (listD (strsD (linesL s))) x).asStr) (wrd (el (listD (strsD (linesL s))) x).asStr (1 : Nat)) → D.nil = parD s ∧ (↑x : Int) = parL s ∧ (5 :
Int) = parE s ∧ True) ∧ ((tName (nthD (tabsL s x) x_1) = pS (headP (el (listD (strsD (linesL s))) x).asStr) (wrd (el (listD (strsD (linesL s))) x).asStr (1 : Nat)) → False) → ((-9223372036854775808 :
Int) ≤ (↑x_1 : Int) + (1 : Int) ∧ (↑x_1 : Int) + (1 : Int) < (9223372036854775808 : Int)) ∧ ∃ (y : Nat), (y ≤ x ∧ ∀ (q : Nat), q < y → wrd (lnAt s q) (1 : Nat) = wrd (lnAt s x) (1 : Nat) → False) ∧ x
- y < x - x_1 ∧ ((↑x_1 : Int) + (1 : Int) = (↑y : Int) ∧ True) ∧ True)) ∧ (((↑x_1 : Int) < (↑x : Int) → False) → ((↑x : Int) = (16 : Int) → D.nil = parD s ∧ (↑x : Int) = parL s ∧ (7 : Int) = parE s ∧
True) ∧ (((↑x : Int) = (16 : Int) → False) → (0 : Nat) + (1 : Nat) ≤ [D.sct [D.str (pS (headP (el (listD (strsD (linesL s))) x).asStr) (wrd (el (listD (strsD (linesL s))) x).asStr (1 : Nat))), D.int
(pI (headP (el (listD (strsD (linesL s))) x).asStr) (shapeZ (wrd (el (listD (strsD (linesL s))) x).asStr (2 : Nat)))), D.int (pI (headP (el (listD (strsD (linesL s))) x).asStr) (nAt (el (listD (strsD
(linesL s))) x).asStr (0 : Nat))), D.int (pI (headP (el (listD (strsD (linesL s))) x).asStr) (nAt (el (listD (strsD (linesL s))) x).asStr (1 : Nat))), pD (headP (el (listD (strsD (linesL s)))
x).asStr) (restD (el (listD (strsD (linesL s))) x).asStr), D.int (pI (headP (el (listD (strsD (linesL s))) x).asStr) (nAt (el (listD (strsD (linesL s))) x).asStr (2 : Nat))), D.int (pI (headP (el
(listD (strsD (linesL s))) x).asStr) (nAt (el (listD (strsD (linesL s))) x).asStr (3 : Nat)))]].length ∧ (0 : Nat) + x ≤ (tabsL s x).length ∧ x + (1 : Nat) ≤ (16777216 : Nat) ∧ ((-9223372036854775808
: Int) ≤ (↑x : Int) + (1 : Int) ∧ (↑x : Int) + (1 : Int) < (9223372036854775808 : Int)) ∧ ((∃ (y : Nat), ((y ≤ nLines s ∧ y ≤ (16 : Nat) ∧ ∀ (k : Nat), k < y → errK s k = (0 : Int)) ∧ y = (0 : Nat)) ∧
nLines s - y < nLines s - x ∧ ((↑x : Int) + (1 : Int) = (0 : Int) ∧ False ∧ True) ∧ True) ∨ ∃ (y : Nat), ((y ≤ nLines s ∧ y ≤ (16 : Nat) ∧ ∀ (k : Nat), k < y → errK s k = (0 : Int)) ∧ Nat.le (1 : Nat)
y) ∧ nLines s - y < nLines s - x ∧ ((↑x : Int) + (1 : Int) = (↑y : Int) ∧ ((0 : Nat) = (0 : Nat) ∧ x + (1 : Nat) = y ∧ True) ∧ True) ∧ List.take x (tabsL s x) ++ List.take (1 : Nat) [D.sct [D.str (pS
(headP (el (listD (strsD (linesL s))) x).asStr) (wrd (el (listD (strsD (linesL s))) x).asStr (1 : Nat))), D.int (pI (headP (el (listD (strsD (linesL s))) x).asStr) (shapeZ (wrd (el (listD (strsD
(linesL s))) x).asStr (2 : Nat)))), D.int (pI (headP (el (listD (strsD (linesL s))) x).asStr) (nAt (el (listD (strsD (linesL s))) x).asStr (0 : Nat))), D.int (pI (headP (el (listD (strsD (linesL s)))
x).asStr) (nAt (el (listD (strsD (linesL s))) x).asStr (1 : Nat))), pD (headP (el (listD (strsD (linesL s))) x).asStr) (restD (el (listD (strsD (linesL s))) x).asStr), D.int (pI (headP (el (listD
(strsD (linesL s))) x).asStr) (nAt (el (listD (strsD (linesL s))) x).asStr (2 : Nat))), D.int (pI (headP (el (listD (strsD (linesL s))) x).asStr) (nAt (el (listD (strsD (linesL s))) x).asStr (3 :
Nat)))]] = tabsL s y ∧ True)))))) ∧ (((pAt (piecesOf (10 : UInt8) s) (List.count (10 : UInt8) s) = [] → False) → False) → (pD (headP (el (listD (strsD (linesL s))) x).asStr) (restD (el (listD (strsD
(linesL s))) x).asStr)).len ≤ (100000 : Nat) ∧ ((errZ (pS (headP (el (listD (strsD (linesL s))) x).asStr) (wrd (el (listD (strsD (linesL s))) x).asStr (1 : Nat))) (pI (headP (el (listD (strsD (linesL
s))) x).asStr) (shapeZ (wrd (el (listD (strsD (linesL s))) x).asStr (2 : Nat)))) (pI (headP (el (listD (strsD (linesL s))) x).asStr) (nAt (el (listD (strsD (linesL s))) x).asStr (0 : Nat))) (pI (headP
(el (listD (strsD (linesL s))) x).asStr) (nAt (el (listD (strsD (linesL s))) x).asStr (1 : Nat))) (pD (headP (el (listD (strsD (linesL s))) x).asStr) (restD (el (listD (strsD (linesL s))) x).asStr))
(pI (headP (el (listD (strsD (linesL s))) x).asStr) (nAt (el (listD (strsD (linesL s))) x).asStr (2 : Nat))) (pI (headP (el (listD (strsD (linesL s))) x).asStr) (nAt (el (listD (strsD (linesL s)))
x).asStr (3 : Nat))) = (0 : Int) → False) → D.nil = parD s ∧ (↑x : Int) = parL s ∧ errZ (pS (headP (el (listD (strsD (linesL s))) x).asStr) (wrd (el (listD (strsD (linesL s))) x).asStr (1 : Nat))) (pI
(headP (el (listD (strsD (linesL s))) x).asStr) (shapeZ (wrd (el (listD (strsD (linesL s))) x).asStr (2 : Nat)))) (pI (headP (el (listD (strsD (linesL s))) x).asStr) (nAt (el (listD (strsD (linesL
s))) x).asStr (0 : Nat))) (pI (headP (el (listD (strsD (linesL s))) x).asStr) (nAt (el (listD (strsD (linesL s))) x).asStr (1 : Nat))) (pD (headP (el (listD (strsD (linesL s))) x).asStr) (restD (el
(listD (strsD (linesL s))) x).asStr)) (pI (headP (el (listD (strsD (linesL s))) x).asStr) (nAt (el (listD (strsD (linesL s))) x).asStr (2 : Nat))) (pI (headP (el (listD (strsD (linesL s))) x).asStr)
(nAt (el (listD (strsD (linesL s))) x).asStr (3 : Nat))) = parE s ∧ True) ∧ (((errZ (pS (headP (el (listD (strsD (linesL s))) x).asStr) (wrd (el (listD (strsD (linesL s))) x).asStr (1 : Nat))) (pI
(headP (el (listD (strsD (linesL s))) x).asStr) (shapeZ (wrd (el (listD (strsD (linesL s))) x).asStr (2 : Nat)))) (pI (headP (el (listD (strsD (linesL s))) x).asStr) (nAt (el (listD (strsD (linesL
s))) x).asStr (0 : Nat))) (pI (headP (el (listD (strsD (linesL s))) x).asStr) (nAt (el (listD (strsD (linesL s))) x).asStr (1 : Nat))) (pD (headP (el (listD (strsD (linesL s))) x).asStr) (restD (el
(listD (strsD (linesL s))) x).asStr)) (pI (headP (el (listD (strsD (linesL s))) x).asStr) (nAt (el (listD (strsD (linesL s))) x).asStr (2 : Nat))) (pI (headP (el (listD (strsD (linesL s))) x).asStr)
(nAt (el (listD (strsD (linesL s))) x).asStr (3 : Nat))) = (0 : Int) → False) → False) → (∃ (x_1 : Nat), (x_1 ≤ x ∧ ∀ (q : Nat), q < x_1 → wrd (lnAt s q) (1 : Nat) = wrd (lnAt s x) (1 : Nat) → False)
∧ ((0 : Int) = (↑x_1 : Int) ∧ True) ∧ True) ∧ ∀ (x_1 : Nat), (x_1 ≤ x ∧ ∀ (q : Nat), q < x_1 → wrd (lnAt s q) (1 : Nat) = wrd (lnAt s x) (1 : Nat) → False) → x - x_1 < LIM ∧ ((↑x_1 : Int) < (↑x : Int)
→ (0 : Int) ≤ (↑x_1 : Int) ∧ (↑x_1 : Int) < (↑x : Int) ∧ x_1 < (tabsL s x).length ∧ (tName (nthD (tabsL s x) x_1) = pS (headP (el (listD (strsD (linesL s))) x).asStr) (wrd (el (listD (strsD (linesL
s))) x).asStr (1 : Nat)) → D.nil = parD s ∧ (↑x : Int) = parL s ∧ (5 : Int) = parE s ∧ True) ∧ ((tName (nthD (tabsL s x) x_1) = pS (headP (el (listD (strsD (linesL s))) x).asStr) (wrd (el (listD
(strsD (linesL s))) x).asStr (1 : Nat)) → False) → ((-9223372036854775808 : Int) ≤ (↑x_1 : Int) + (1 : Int) ∧ (↑x_1 : Int) + (1 : Int) < (9223372036854775808 : Int)) ∧ ∃ (y : Nat), (y ≤ x ∧ ∀ (q :
Nat), q < y → wrd (lnAt s q) (1 : Nat) = wrd (lnAt s x) (1 : Nat) → False) ∧ x - y < x - x_1 ∧ ((↑x_1 : Int) + (1 : Int) = (↑y : Int) ∧ True) ∧ True)) ∧ (((↑x_1 : Int) < (↑x : Int) → False) → ((↑x :
Int) = (16 : Int) → D.nil = parD s ∧ (↑x : Int) = parL s ∧ (7 : Int) = parE s ∧ True) ∧ (((↑x : Int) = (16 : Int) → False) → (0 : Nat) + (1 : Nat) ≤ [D.sct [D.str (pS (headP (el (listD (strsD (linesL
s))) x).asStr) (wrd (el (listD (strsD (linesL s))) x).asStr (1 : Nat))), D.int (pI (headP (el (listD (strsD (linesL s))) x).asStr) (shapeZ (wrd (el (listD (strsD (linesL s))) x).asStr (2 : Nat)))),
D.int (pI (headP (el (listD (strsD (linesL s))) x).asStr) (nAt (el (listD (strsD (linesL s))) x).asStr (0 : Nat))), D.int (pI (headP (el (listD (strsD (linesL s))) x).asStr) (nAt (el (listD (strsD
(linesL s))) x).asStr (1 : Nat))), pD (headP (el (listD (strsD (linesL s))) x).asStr) (restD (el (listD (strsD (linesL s))) x).asStr), D.int (pI (headP (el (listD (strsD (linesL s))) x).asStr) (nAt
(el (listD (strsD (linesL s))) x).asStr (2 : Nat))), D.int (pI (headP (el (listD (strsD (linesL s))) x).asStr) (nAt (el (listD (strsD (linesL s))) x).asStr (3 : Nat)))]].length ∧ (0 : Nat) + x ≤
(tabsL s x).length ∧ x + (1 : Nat) ≤ (16777216 : Nat) ∧ ((-9223372036854775808 : Int) ≤ (↑x : Int) + (1 : Int) ∧ (↑x : Int) + (1 : Int) < (9223372036854775808 : Int)) ∧ ((∃ (y : Nat), ((y ≤ nLines s ∧
y ≤ (16 : Nat) ∧ ∀ (k : Nat), k < y → errK s k = (0 : Int)) ∧ y = (0 : Nat)) ∧ nLines s - y < nLines s - x ∧ ((↑x : Int) + (1 : Int) = (0 : Int) ∧ False ∧ True) ∧ True) ∨ ∃ (y : Nat), ((y ≤ nLines s ∧
y ≤ (16 : Nat) ∧ ∀ (k : Nat), k < y → errK s k = (0 : Int)) ∧ Nat.le (1 : Nat) y) ∧ nLines s - y < nLines s - x ∧ ((↑x : Int) + (1 : Int) = (↑y : Int) ∧ ((0 : Nat) = (0 : Nat) ∧ x + (1 : Nat) = y ∧
True) ∧ True) ∧ List.take x (tabsL s x) ++ List.take (1 : Nat) [D.sct [D.str (pS (headP (el (listD (strsD (linesL s))) x).asStr) (wrd (el (listD (strsD (linesL s))) x).asStr (1 : Nat))), D.int (pI
(headP (el (listD (strsD (linesL s))) x).asStr) (shapeZ (wrd (el (listD (strsD (linesL s))) x).asStr (2 : Nat)))), D.int (pI (headP (el (listD (strsD (linesL s))) x).asStr) (nAt (el (listD (strsD
(linesL s))) x).asStr (0 : Nat))), D.int (pI (headP (el (listD (strsD (linesL s))) x).asStr) (nAt (el (listD (strsD (linesL s))) x).asStr (1 : Nat))), pD (headP (el (listD (strsD (linesL s)))
x).asStr) (restD (el (listD (strsD (linesL s))) x).asStr), D.int (pI (headP (el (listD (strsD (linesL s))) x).asStr) (nAt (el (listD (strsD (linesL s))) x).asStr (2 : Nat))), D.int (pI (headP (el
(listD (strsD (linesL s))) x).asStr) (nAt (el (listD (strsD (linesL s))) x).asStr (3 : Nat)))]] = tabsL s y ∧ True)))))) ∧ ((lineP (el (listD (strsD (linesL s))) x).asStr → False) → D.nil = parD s ∧
(↑x : Int) = parL s ∧ (3 : Int) = parE s ∧ True)) ∧ (((↑x : Int) < (↑(listD (strsD (linesL s))).len : Int) → False) → ((0 : Nat) + x ≤ (tabsL s x).length ∧ D.list (List.take x (tabsL s x)) = parD s) ∧
(0 : Int) = parL s ∧ (0 : Int) = parE s ∧ True))) := by intros; kernel_rfl
theorem ez_row {w : List UInt8} {p : Prop} (h : p) : errZ (pS p (wrd w 1)) (pI p (shapeZ (wrd w 2))) (pI p (nAt w 0)) (pI p (nAt w 1)) (pD p (restD w)) (pI p (nAt w 2)) (pI p (nAt w 3)) = errT (tabD w) := by
 rw [pS_yes _ h, pI_yes _ h, pI_yes _ h, pI_yes _ h, pD_yes _ h, pI_yes _ h, pI_yes _ h]; rfl
open Classical in
theorem ez_err {s : List UInt8} {k : Nat} (hL : lineP (lnAt s k)) (hk : k < s.count 10) :
  (errT (tabD (lnAt s k)) ≠ 0 → errK s k = errT (tabD (lnAt s k))) ∧ (errT (tabD (lnAt s k)) = 0 → errK s k = if twiceN (.list (tabsL s k)) (wrd (lnAt s k) 1) then 5 else if k = 16 then 7 else 0) := by
 unfold errK
 rw [if_neg fun h => h ⟨hL, hk⟩]
 exact ⟨fun h => by rw [if_pos h], fun h => by rw [if_neg fun h' => h' h]⟩
theorem no_tw {s : List UInt8} {x : Nat} (h : ∀ q, q < x → wrd (lnAt s q) 1 ≠ wrd (lnAt s x) 1) : ¬ twiceN (.list (tabsL s x)) (wrd (lnAt s x) 1) := fun ht => by
 obtain ⟨k, h1, h2⟩ := ht.out
 have h1 : k < (tabsL s x).length := h1
 rw [tabs_len] at h1
 have h2 : tName (nthD (tabsL s x) k) = wrd (lnAt s x) 1 := h2
 rw [tabs_nth s h1] at h2
 exact h k h1 h2
theorem line_head {w : List UInt8} (h : lineP w) : headP w := ⟨line_ok h, h.out.1, h.out.2.1⟩
theorem el_lines {s : List UInt8} {k : Nat} (h : k < nLines s) : (el (listD (strsD (linesL s))) k).asStr = lnAt s k := by
 unfold el; rw [listD_as, w_nth]
 unfold linesL nLines at *
 unfold linesL at h
 by_cases hl : lastE s
 ·rw [if_pos hl] at h ⊢
  rw [List.length_take] at h
  unfold lnAt pAt; rw [List.getElem?_take_of_lt (by omega)]
 ·rw [if_neg hl]; rfl
theorem lines_len (s : List UInt8) : (listD (strsD (linesL s))).len = nLines s := by rw [listD_len, strs_len]; rfl
theorem s12 (s : List UInt8) (hs : s.length ≤ 4000 ∨ 65536 < s.length) : symFun (ctx hp3 hpAnn) 5 12 [.str s] (.tup [.dat 25 (parD s), .int .i64 (parL s), .int .i64 (parE s)]) := by
 rw [vc12]
 refine ⟨fun h => fin_big (by omega), fun h => ?_⟩
 have h : ¬ (65536 : Int) < s.length := h
 have hb : ¬ 65536 < s.length := by omega
 have hcl : s.count 10 ≤ s.length := List.count_le_length
 have hge := nL_ge s
 have hle : nLines s ≤ s.count 10 + 1 := by
  by_cases hl : lastE s
  ·rw [nL_last hl]; omega
  ·rw [nL_not hl]; exact Nat.le_refl _
 rw [lines_len]
 refine ⟨by omega, .inl ⟨0, ⟨⟨Nat.zero_le _, Nat.zero_le _, fun k hk => absurd hk (Nat.not_lt_zero _)⟩, rfl⟩, ⟨rfl, trivial, trivial⟩, trivial⟩, fun x ⟨⟨hc, h16, hk⟩, h0⟩ => ⟨by unfold LIM; omega, fun hlt => ?_, fun hge' => ?_⟩, fun x ⟨⟨hc, h16, hk⟩, h0⟩ => ⟨by unfold LIM; omega, fun hlt => ?_, fun hge' => ?_⟩⟩
 ·subst h0
  have hn : 0 < nLines s := by omega
  have eV : (el (listD (strsD (linesL s))) (Int.toNat 0)).asStr = lnAt s 0 := el_lines hn
  refine ⟨by omega, hlt, by rw [eV]; exact Nat.le_trans (pAt_len 10 s 0) (by omega), fun hL => ⟨fun hm => ⟨⟨by omega, by omega⟩, fun he => ?_, fun he => ?_⟩, fun hm => ?_⟩, fun hnl => ?_⟩
  ·have hq : ¬ lastE s := hm
   have := nL_not hq
   exact fin_err (k := 0) hb (fun j hj => absurd hj (Nat.not_lt_zero _)) hn (err_form fun h => by have := h.out.2; omega) (by decide)
  ·have hL := Classical.not_not.1 hL
   rw [eV] at hL
   have hH := line_head hL
   have hq : ¬ lastE s := hm
   have hq' := nL_not hq
   have he : ¬ (0 : Int) = (nLines s : Int) - 1 := he
   have kc : 0 < s.count 10 := by omega
   rw [eV]
   refine ⟨rest_len _ _ (Nat.le_trans (pAt_len 10 s 0) (by omega)), fun hz => ?_, fun hz => ⟨⟨0, ⟨Nat.zero_le _, fun q hq => absurd hq (Nat.not_lt_zero _)⟩, ⟨rfl, trivial⟩, trivial⟩, fun j ⟨hj, hq⟩ => ⟨by unfold LIM; show 0 - j < _; omega, fun hj => by omega, fun _ => ?_⟩⟩⟩
   ·rw [ez_row hH] at hz ⊢
    exact fin_err (k := 0) hb (fun j hj => absurd hj (Nat.not_lt_zero _)) (by omega) ((ez_err hL kc).1 hz) hz
   ·have hz := Classical.not_not.1 hz
    rw [ez_row hH] at hz
    rw [tab_row hH]
    have he : errK s 0 = 0 := by
     rw [(ez_err hL kc).2 hz, if_neg (fun h => by obtain ⟨j, h1, _⟩ := h.out; exact absurd h1 (Nat.not_lt_zero _)), if_neg (by decide)]
    refine ⟨Nat.le_refl 1, by decide, ⟨by decide, by decide⟩, .inr ⟨1, ⟨⟨by omega, by decide, err_ext (k := 0) (fun j hj => absurd hj (Nat.not_lt_zero _)) he⟩, Nat.le_refl 1⟩, by omega, ⟨rfl, ⟨rfl, rfl, trivial⟩, trivial⟩, rfl, trivial⟩⟩
  ·have hL := Classical.not_not.1 hL
   rw [eV] at hL
   have hH := line_head hL
   have hq : lastE s := Classical.not_not.1 hm
   have hq' := nL_last hq
   have kc : 0 < s.count 10 := by omega
   rw [eV]
   refine ⟨rest_len _ _ (Nat.le_trans (pAt_len 10 s 0) (by omega)), fun hz => ?_, fun hz => ⟨⟨0, ⟨Nat.zero_le _, fun q hq => absurd hq (Nat.not_lt_zero _)⟩, ⟨rfl, trivial⟩, trivial⟩, fun j ⟨hj, hq⟩ => ⟨by unfold LIM; show 0 - j < _; omega, fun hj => by omega, fun _ => ?_⟩⟩⟩
   ·rw [ez_row hH] at hz ⊢
    exact fin_err (k := 0) hb (fun j hj => absurd hj (Nat.not_lt_zero _)) (by omega) ((ez_err hL kc).1 hz) hz
   ·have hz := Classical.not_not.1 hz
    rw [ez_row hH] at hz
    rw [tab_row hH]
    have he : errK s 0 = 0 := by
     rw [(ez_err hL kc).2 hz, if_neg (fun h => by obtain ⟨j, h1, _⟩ := h.out; exact absurd h1 (Nat.not_lt_zero _)), if_neg (by decide)]
    refine ⟨Nat.le_refl 1, by decide, ⟨by decide, by decide⟩, .inr ⟨1, ⟨⟨by omega, by decide, err_ext (k := 0) (fun j hj => absurd hj (Nat.not_lt_zero _)) he⟩, Nat.le_refl 1⟩, by omega, ⟨rfl, ⟨rfl, rfl, trivial⟩, trivial⟩, rfl, trivial⟩⟩
  ·exact fin_err (k := 0) hb (fun j hj => absurd hj (Nat.not_lt_zero _)) hn (err_form fun h => hnl (by rw [eV]; exact h.out.1)) (by decide)
 ·have hge' : ¬ (0 : Int) < nLines s := hge'
  obtain ⟨f1, f2⟩ := fin_ok (k := x) hb hk (by omega)
  refine ⟨?_, f2⟩
  rw [f1, h0]; rfl
 ·have hn : x < nLines s := by omega
  have eV : (el (listD (strsD (linesL s))) x).asStr = lnAt s x := el_lines hn
  have h0 : 1 ≤ x := h0
  refine ⟨by omega, hlt, by rw [eV]; exact Nat.le_trans (pAt_len 10 s x) (by omega), fun hL => ⟨fun hm => ⟨⟨by omega, by omega⟩, fun he => ?_, fun he => ?_⟩, fun hm => ?_⟩, fun hnl => ?_⟩
  ·have hq : ¬ lastE s := hm
   have := nL_not hq
   exact fin_err hb hk hn (err_form fun h => by have := h.out.2; omega) (by decide)
  ·have hL := Classical.not_not.1 hL
   rw [eV] at hL
   have hH := line_head hL
   have hq : ¬ lastE s := hm
   have hq' := nL_not hq
   have he : ¬ (x : Int) = (nLines s : Int) - 1 := he
   have kc : x < s.count 10 := by omega
   rw [eV]
   refine ⟨rest_len _ _ (Nat.le_trans (pAt_len 10 s x) (by omega)), fun hz => ?_, fun hz => ⟨⟨0, ⟨Nat.zero_le _, fun q hq => absurd hq (Nat.not_lt_zero _)⟩, ⟨rfl, trivial⟩, trivial⟩, fun j ⟨hj, hq⟩ => ⟨by unfold LIM; omega, fun hlj => ⟨by omega, hlj, by rw [tabs_len]; omega, fun hn => ?_, fun hn => ⟨⟨by omega, by omega⟩, j + 1, ⟨by omega, fun q hq' => ?_⟩, by omega, ⟨by omega, trivial⟩, trivial⟩⟩, fun hgj => ⟨fun h16' => ?_, fun h16' => ?_⟩⟩⟩⟩
   ·rw [ez_row hH] at hz ⊢
    exact fin_err hb hk (by omega) ((ez_err hL kc).1 hz) hz
   ·have hz := Classical.not_not.1 hz
    rw [ez_row hH] at hz
    have hj1 : j < x := by omega
    rw [tabs_nth s hj1, pS_yes _ hH] at hn
    have he : errK s x = 5 := by
     rw [(ez_err hL kc).2 hz, if_pos ⟨j, by show j < (tabsL s x).length; rw [tabs_len]; exact hj1, by show tName (nthD (tabsL s x) j) = _; rw [tabs_nth s hj1]; exact hn⟩]
    exact fin_err hb hk (by omega) he (by decide)
   ·have hj1 : j < x := by omega
    rw [tabs_nth s hj1, pS_yes _ hH] at hn
    by_cases e : q = j
    ·subst e; exact hn
    ·exact hq q (by omega)
   ·have hz := Classical.not_not.1 hz
    rw [ez_row hH] at hz
    have hgj : ¬ (j : Int) < x := hgj
    have h16' : (x : Int) = 16 := h16'
    have he : errK s x = 7 := by
     rw [(ez_err hL kc).2 hz, if_neg (no_tw fun q hq' => hq q (by omega)), if_pos (by omega)]
    exact fin_err hb hk (by omega) he (by decide)
   ·have hz := Classical.not_not.1 hz
    rw [ez_row hH] at hz
    rw [tab_row hH]
    have hgj : ¬ (j : Int) < x := hgj
    have h16' : ¬ (x : Int) = 16 := h16'
    have he : errK s x = 0 := by
     rw [(ez_err hL kc).2 hz, if_neg (no_tw fun q hq' => hq q (by omega)), if_neg (by omega)]
    refine ⟨Nat.le_refl 1, by rw [tabs_len]; omega, by omega, ⟨by omega, by omega⟩, .inr ⟨x + 1, ⟨⟨by omega, by omega, err_ext hk he⟩, by show 1 ≤ x + 1; omega⟩, by omega, ⟨by omega, ⟨rfl, rfl, trivial⟩, trivial⟩, ?_, trivial⟩⟩
    rw [tabs_succ, take_all _ _ (by rw [tabs_len]; omega)]; rfl
  ·have hL := Classical.not_not.1 hL
   rw [eV] at hL
   have hH := line_head hL
   have hq : lastE s := Classical.not_not.1 hm
   have hq' := nL_last hq
   have kc : x < s.count 10 := by omega
   rw [eV]
   refine ⟨rest_len _ _ (Nat.le_trans (pAt_len 10 s x) (by omega)), fun hz => ?_, fun hz => ⟨⟨0, ⟨Nat.zero_le _, fun q hq => absurd hq (Nat.not_lt_zero _)⟩, ⟨rfl, trivial⟩, trivial⟩, fun j ⟨hj, hq⟩ => ⟨by unfold LIM; omega, fun hlj => ⟨by omega, hlj, by rw [tabs_len]; omega, fun hn => ?_, fun hn => ⟨⟨by omega, by omega⟩, j + 1, ⟨by omega, fun q hq' => ?_⟩, by omega, ⟨by omega, trivial⟩, trivial⟩⟩, fun hgj => ⟨fun h16' => ?_, fun h16' => ?_⟩⟩⟩⟩
   ·rw [ez_row hH] at hz ⊢
    exact fin_err hb hk (by omega) ((ez_err hL kc).1 hz) hz
   ·have hz := Classical.not_not.1 hz
    rw [ez_row hH] at hz
    have hj1 : j < x := by omega
    rw [tabs_nth s hj1, pS_yes _ hH] at hn
    have he : errK s x = 5 := by
     rw [(ez_err hL kc).2 hz, if_pos ⟨j, by show j < (tabsL s x).length; rw [tabs_len]; exact hj1, by show tName (nthD (tabsL s x) j) = _; rw [tabs_nth s hj1]; exact hn⟩]
    exact fin_err hb hk (by omega) he (by decide)
   ·have hj1 : j < x := by omega
    rw [tabs_nth s hj1, pS_yes _ hH] at hn
    by_cases e : q = j
    ·subst e; exact hn
    ·exact hq q (by omega)
   ·have hz := Classical.not_not.1 hz
    rw [ez_row hH] at hz
    have hgj : ¬ (j : Int) < x := hgj
    have h16' : (x : Int) = 16 := h16'
    have he : errK s x = 7 := by
     rw [(ez_err hL kc).2 hz, if_neg (no_tw fun q hq' => hq q (by omega)), if_pos (by omega)]
    exact fin_err hb hk (by omega) he (by decide)
   ·have hz := Classical.not_not.1 hz
    rw [ez_row hH] at hz
    rw [tab_row hH]
    have hgj : ¬ (j : Int) < x := hgj
    have h16' : ¬ (x : Int) = 16 := h16'
    have he : errK s x = 0 := by
     rw [(ez_err hL kc).2 hz, if_neg (no_tw fun q hq' => hq q (by omega)), if_neg (by omega)]
    refine ⟨Nat.le_refl 1, by rw [tabs_len]; omega, by omega, ⟨by omega, by omega⟩, .inr ⟨x + 1, ⟨⟨by omega, by omega, err_ext hk he⟩, by show 1 ≤ x + 1; omega⟩, by omega, ⟨by omega, ⟨rfl, rfl, trivial⟩, trivial⟩, ?_, trivial⟩⟩
    rw [tabs_succ, take_all _ _ (by rw [tabs_len]; omega)]; rfl
  ·exact fin_err hb hk hn (err_form fun h => hnl (by rw [eV]; exact h.out.1)) (by decide)
 ·have hge' : ¬ (x : Int) < nLines s := hge'
  obtain ⟨f1, f2⟩ := fin_ok (k := x) hb hk (by omega)
  have h0 : 1 ≤ x := h0
  refine ⟨⟨by rw [tabs_len]; omega, ?_⟩, f2⟩
  rw [f1, take_all _ _ (by rw [tabs_len]; omega), listD_ne (by rw [tabs_len]; omega)]
end Go.Ev

end
