/-
  Part of the engine that the claim is proved with: it states nothing of the document by itself.
-/
import Derived.Test.YtpcokmpipjcndaaGreatDoorCoreG27
import Derived.Test.YtpcokmpipjcndaaGreatDoorCoreMade
import Derived.Test.YtpcokmpipjcndaaGreatDoorCoreSorted

section
open Go.Proofs
namespace Go.Ev
set_option maxRecDepth 100000
set_option maxHeartbeats 4000000
theorem vc40 : ∀ (s : List UInt8), symFun (ctx hp1 hpAnn) (4 : Nat) (40 : FuncId) [V.str s] (V.tup [rowV (headP s) s, V.prop (lineP s)]) = (s.length ≤ (100000 : Nat) ∧ (((okW s → False) → False) →
 (((↑(pD (okW s) (D.list (strsD (piecesOf (32 : UInt8) s)))).len : Int) < (7 : Int) → False) → (0 : Int) ≤ (0 : Int) ∧ (0 : Int) < (↑(pD (okW s) (D.list (strsD (piecesOf (32 : UInt8) s)))).len : Int) ∧
 (((el (pD (okW s) (D.list (strsD (piecesOf (32 : UInt8) s)))) (Int.toNat (0 : Int))).asStr = [(116 : UInt8), (97 : UInt8), (98 : UInt8), (108 : UInt8), (101 : UInt8)] → False) → ([] = pS (headP s)
 (wrd s (1 : Nat)) ∧ (0 : Int) = pI (headP s) (shapeZ (wrd s (2 : Nat))) ∧ (0 : Int) = pI (headP s) (nAt s (0 : Nat)) ∧ (0 : Int) = pI (headP s) (nAt s (1 : Nat)) ∧ D.nil = pD (headP s) (restD s) ∧ (0
 : Int) = pI (headP s) (nAt s (2 : Nat)) ∧ (0 : Int) = pI (headP s) (nAt s (3 : Nat)) ∧ True) ∧ (false = true ↔ lineP s) ∧ True) ∧ ((((el (pD (okW s) (D.list (strsD (piecesOf (32 : UInt8) s))))
 (Int.toNat (0 : Int))).asStr = [(116 : UInt8), (97 : UInt8), (98 : UInt8), (108 : UInt8), (101 : UInt8)] → False) → False) → (0 : Int) ≤ (1 : Int) ∧ (1 : Int) < (↑(pD (okW s) (D.list (strsD (piecesOf
 (32 : UInt8) s)))).len : Int) ∧ (∃ (x : Nat), ((1 : Nat) ≤ x ∧ x ≤ (5 : Nat)) ∧ ((1 : Int) = (↑x : Int) ∧ True) ∧ ((el (pD (okW s) (D.list (strsD (piecesOf (32 : UInt8) s)))) (Int.toNat (1 :
 Int))).asStr = wrd s (1 : Nat) ∧ (0 : Int) = shpN (wrd s (2 : Nat)) x ∧ (0 : Int) = (0 : Int) ∧ (0 : Int) = (0 : Int) ∧ True ∧ (0 : Int) = (0 : Int) ∧ (0 : Int) = (0 : Int) ∧ True) ∧ True) ∧ ∀ (x :
 Nat), (1 : Nat) ≤ x ∧ x ≤ (5 : Nat) → (5 : Nat) - x < LIM ∧ ((↑x : Int) ≤ (4 : Int) → True ∧ (0 : Int) ≤ (2 : Int) ∧ (2 : Int) < (↑(pD (okW s) (D.list (strsD (piecesOf (32 : UInt8) s)))).len : Int) ∧
 (shapeW (IntKind.u8.wrap (↑x : Int)) = (el (pD (okW s) (D.list (strsD (piecesOf (32 : UInt8) s)))) (Int.toNat (2 : Int))).asStr → ((-9223372036854775808 : Int) ≤ (↑x : Int) + (1 : Int) ∧ (↑x : Int) +
 (1 : Int) < (9223372036854775808 : Int)) ∧ ∃ (y : Nat), ((1 : Nat) ≤ y ∧ y ≤ (5 : Nat)) ∧ (5 : Nat) - y < (5 : Nat) - x ∧ ((↑x : Int) + (1 : Int) = (↑y : Int) ∧ True) ∧ (wrd s (1 : Nat) = wrd s (1 :
 Nat) ∧ IntKind.u8.wrap (↑x : Int) = shpN (wrd s (2 : Nat)) y ∧ (0 : Int) = (0 : Int) ∧ (0 : Int) = (0 : Int) ∧ True ∧ (0 : Int) = (0 : Int) ∧ (0 : Int) = (0 : Int) ∧ True) ∧ True) ∧ ((shapeW
 (IntKind.u8.wrap (↑x : Int)) = (el (pD (okW s) (D.list (strsD (piecesOf (32 : UInt8) s)))) (Int.toNat (2 : Int))).asStr → False) → ((-9223372036854775808 : Int) ≤ (↑x : Int) + (1 : Int) ∧ (↑x : Int) +
 (1 : Int) < (9223372036854775808 : Int)) ∧ ∃ (y : Nat), ((1 : Nat) ≤ y ∧ y ≤ (5 : Nat)) ∧ (5 : Nat) - y < (5 : Nat) - x ∧ ((↑x : Int) + (1 : Int) = (↑y : Int) ∧ True) ∧ (wrd s (1 : Nat) = wrd s (1 :
 Nat) ∧ shpN (wrd s (2 : Nat)) x = shpN (wrd s (2 : Nat)) y ∧ (0 : Int) = (0 : Int) ∧ (0 : Int) = (0 : Int) ∧ True ∧ (0 : Int) = (0 : Int) ∧ (0 : Int) = (0 : Int) ∧ True) ∧ True)) ∧ (((↑x : Int) ≤ (4 :
 Int) → False) → ((∃ (x : Nat × Prop), ((x.2 ↔ ∀ (j : Nat), (3 : Nat) ≤ j → j < (3 : Nat) + x.fst → numP (wrd s j)) ∧ (3 : Nat) + x.fst ≤ (piecesOf (32 : UInt8) s).length ∧ x.fst = (0 : Nat)) ∧ ((3 :
 Int) = (3 : Int) ∧ (okW s ↔ x.2) ∧ True ∧ True) ∧ True) ∨ ∃ (x : Nat × Prop), ((x.2 ↔ ∀ (j : Nat), (3 : Nat) ≤ j → j < (3 : Nat) + x.fst → numP (wrd s j)) ∧ (3 : Nat) + x.fst ≤ (piecesOf (32 : UInt8)
 s).length ∧ Nat.le (1 : Nat) x.fst) ∧ ((3 : Int) = (↑((3 : Nat) + x.fst) : Int) ∧ (okW s ↔ x.2) ∧ False ∧ True) ∧ False ∧ True) ∧ (∀ (x : Nat × Prop), (x.2 ↔ ∀ (j : Nat), (3 : Nat) ≤ j → j < (3 : Nat)
 + x.fst → numP (wrd s j)) ∧ (3 : Nat) + x.fst ≤ (piecesOf (32 : UInt8) s).length ∧ x.fst = (0 : Nat) → (piecesOf (32 : UInt8) s).length - x.fst < LIM ∧ ((3 : Int) < (↑(pD (okW s) (D.list (strsD
 (piecesOf (32 : UInt8) s)))).len : Int) → (0 : Int) ≤ (3 : Int) ∧ (3 : Int) < (↑(pD (okW s) (D.list (strsD (piecesOf (32 : UInt8) s)))).len : Int) ∧ True ∧ (x.2 → (0 : Nat) + (1 : Nat) ≤ [D.int (numZ
 (el (pD (okW s) (D.list (strsD (piecesOf (32 : UInt8) s)))) (Int.toNat (3 : Int))).asStr)].length ∧ (1 : Nat) ≤ (16777216 : Nat) ∧ ((-9223372036854775808 : Int) ≤ (3 : Int) + (1 : Int) ∧ (3 : Int) +
 (1 : Int) < (9223372036854775808 : Int)) ∧ ((∃ (y : Nat × Prop), ((y.2 ↔ ∀ (j : Nat), (3 : Nat) ≤ j → j < (3 : Nat) + y.fst → numP (wrd s j)) ∧ (3 : Nat) + y.fst ≤ (piecesOf (32 : UInt8) s).length ∧
 y.fst = (0 : Nat)) ∧ (piecesOf (32 : UInt8) s).length - y.fst < (piecesOf (32 : UInt8) s).length - x.fst ∧ ((3 : Int) + (1 : Int) = (3 : Int) ∧ (numP (el (pD (okW s) (D.list (strsD (piecesOf (32 :
 UInt8) s)))) (Int.toNat (3 : Int))).asStr ↔ y.2) ∧ False ∧ True) ∧ True) ∨ ∃ (y : Nat × Prop), ((y.2 ↔ ∀ (j : Nat), (3 : Nat) ≤ j → j < (3 : Nat) + y.fst → numP (wrd s j)) ∧ (3 : Nat) + y.fst ≤
 (piecesOf (32 : UInt8) s).length ∧ Nat.le (1 : Nat) y.fst) ∧ (piecesOf (32 : UInt8) s).length - y.fst < (piecesOf (32 : UInt8) s).length - x.fst ∧ ((3 : Int) + (1 : Int) = (↑((3 : Nat) + y.fst) : Int)
 ∧ (numP (el (pD (okW s) (D.list (strsD (piecesOf (32 : UInt8) s)))) (Int.toNat (3 : Int))).asStr ↔ y.2) ∧ ((0 : Nat) = (0 : Nat) ∧ (1 : Nat) = y.fst ∧ True) ∧ True) ∧ List.take (1 : Nat) [D.int (numZ
 (el (pD (okW s) (D.list (strsD (piecesOf (32 : UInt8) s)))) (Int.toNat (3 : Int))).asStr)] = List.take y.fst (numsL s) ∧ True)) ∧ ((x.2 → False) → (0 : Nat) + (1 : Nat) ≤ [D.int (numZ (el (pD (okW s)
 (D.list (strsD (piecesOf (32 : UInt8) s)))) (Int.toNat (3 : Int))).asStr)].length ∧ (1 : Nat) ≤ (16777216 : Nat) ∧ ((-9223372036854775808 : Int) ≤ (3 : Int) + (1 : Int) ∧ (3 : Int) + (1 : Int) <
 (9223372036854775808 : Int)) ∧ ((∃ (y : Nat × Prop), ((y.2 ↔ ∀ (j : Nat), (3 : Nat) ≤ j → j < (3 : Nat) + y.fst → numP (wrd s j)) ∧ (3 : Nat) + y.fst ≤ (piecesOf (32 : UInt8) s).length ∧ y.fst = (0 :
 Nat)) ∧ (piecesOf (32 : UInt8) s).length - y.fst < (piecesOf (32 : UInt8) s).length - x.fst ∧ ((3 : Int) + (1 : Int) = (3 : Int) ∧ (false = true ↔ y.2) ∧ False ∧ True) ∧ True) ∨ ∃ (y : Nat × Prop),
 ((y.2 ↔ ∀ (j : Nat), (3 : Nat) ≤ j → j < (3 : Nat) + y.fst → numP (wrd s j)) ∧ (3 : Nat) + y.fst ≤ (piecesOf (32 : UInt8) s).length ∧ Nat.le (1 : Nat) y.fst) ∧ (piecesOf (32 : UInt8) s).length - y.fst
 < (piecesOf (32 : UInt8) s).length - x.fst ∧ ((3 : Int) + (1 : Int) = (↑((3 : Nat) + y.fst) : Int) ∧ (false = true ↔ y.2) ∧ ((0 : Nat) = (0 : Nat) ∧ (1 : Nat) = y.fst ∧ True) ∧ True) ∧ List.take (1 :
 Nat) [D.int (numZ (el (pD (okW s) (D.list (strsD (piecesOf (32 : UInt8) s)))) (Int.toNat (3 : Int))).asStr)] = List.take y.fst (numsL s) ∧ True))) ∧ (((3 : Int) < (↑(pD (okW s) (D.list (strsD
 (piecesOf (32 : UInt8) s)))).len : Int) → False) → False)) ∧ ∀ (x_1 : Nat × Prop), (x_1.2 ↔ ∀ (j : Nat), (3 : Nat) ≤ j → j < (3 : Nat) + x_1.fst → numP (wrd s j)) ∧ (3 : Nat) + x_1.fst ≤ (piecesOf (32
 : UInt8) s).length ∧ Nat.le (1 : Nat) x_1.fst → (piecesOf (32 : UInt8) s).length - x_1.fst < LIM ∧ ((↑((3 : Nat) + x_1.fst) : Int) < (↑(pD (okW s) (D.list (strsD (piecesOf (32 : UInt8) s)))).len :
 Int) → (0 : Int) ≤ (↑((3 : Nat) + x_1.fst) : Int) ∧ (↑((3 : Nat) + x_1.fst) : Int) < (↑(pD (okW s) (D.list (strsD (piecesOf (32 : UInt8) s)))).len : Int) ∧ True ∧ (x_1.2 → (0 : Nat) + (1 : Nat) ≤
 [D.int (numZ (el (pD (okW s) (D.list (strsD (piecesOf (32 : UInt8) s)))) ((3 : Nat) + x_1.fst)).asStr)].length ∧ (0 : Nat) + x_1.fst ≤ (List.take x_1.fst (numsL s)).length ∧ x_1.fst + (1 : Nat) ≤
 (16777216 : Nat) ∧ ((-9223372036854775808 : Int) ≤ (↑((3 : Nat) + x_1.fst) : Int) + (1 : Int) ∧ (↑((3 : Nat) + x_1.fst) : Int) + (1 : Int) < (9223372036854775808 : Int)) ∧ ((∃ (y : Nat × Prop), ((y.2
 ↔ ∀ (j : Nat), (3 : Nat) ≤ j → j < (3 : Nat) + y.fst → numP (wrd s j)) ∧ (3 : Nat) + y.fst ≤ (piecesOf (32 : UInt8) s).length ∧ y.fst = (0 : Nat)) ∧ (piecesOf (32 : UInt8) s).length - y.fst <
 (piecesOf (32 : UInt8) s).length - x_1.fst ∧ ((↑((3 : Nat) + x_1.fst) : Int) + (1 : Int) = (3 : Int) ∧ (numP (el (pD (okW s) (D.list (strsD (piecesOf (32 : UInt8) s)))) ((3 : Nat) + x_1.fst)).asStr ↔
 y.2) ∧ False ∧ True) ∧ True) ∨ ∃ (y : Nat × Prop), ((y.2 ↔ ∀ (j : Nat), (3 : Nat) ≤ j → j < (3 : Nat) + y.fst → numP (wrd s j)) ∧ (3 : Nat) + y.fst ≤ (piecesOf (32 : UInt8) s).length ∧ Nat.le (1 :
 Nat) y.fst) ∧ (piecesOf (32 : UInt8) s).length - y.fst < (piecesOf (32 : UInt8) s).length - x_1.fst ∧ ((↑((3 : Nat) + x_1.fst) : Int) + (1 : Int) = (↑((3 : Nat) + y.fst) : Int) ∧ (numP (el (pD (okW s)
 (D.list (strsD (piecesOf (32 : UInt8) s)))) ((3 : Nat) + x_1.fst)).asStr ↔ y.2) ∧ ((0 : Nat) = (0 : Nat) ∧ x_1.fst + (1 : Nat) = y.fst ∧ True) ∧ True) ∧ List.take x_1.fst (List.take x_1.fst (numsL s))
 ++ List.take (1 : Nat) [D.int (numZ (el (pD (okW s) (D.list (strsD (piecesOf (32 : UInt8) s)))) ((3 : Nat) + x_1.fst)).asStr)] = List.take y.fst (numsL s) ∧ True)) ∧ ((x_1.2 → False) → (0 : Nat) + (1
 : Nat) ≤ [D.int (numZ (el (pD (okW s) (D.list (strsD (piecesOf (32 : UInt8) s)))) ((3 : Nat) + x_1.fst)).asStr)].length ∧ (0 : Nat) + x_1.fst ≤ (List.take x_1.fst (numsL s)).length ∧ x_1.fst + (1 :
 Nat) ≤ (16777216 : Nat) ∧ ((-9223372036854775808 : Int) ≤ (↑((3 : Nat) + x_1.fst) : Int) + (1 : Int) ∧ (↑((3 : Nat) + x_1.fst) : Int) + (1 : Int) < (9223372036854775808 : Int)) ∧ ((∃ (y : Nat × Prop),
 ((y.2 ↔ ∀ (j : Nat), (3 : Nat) ≤ j → j < (3 : Nat) + y.fst → numP (wrd s j)) ∧ (3 : Nat) + y.fst ≤ (piecesOf (32 : UInt8) s).length ∧ y.fst = (0 : Nat)) ∧ (piecesOf (32 : UInt8) s).length - y.fst <
 (piecesOf (32 : UInt8) s).length - x_1.fst ∧ ((↑((3 : Nat) + x_1.fst) : Int) + (1 : Int) = (3 : Int) ∧ (false = true ↔ y.2) ∧ False ∧ True) ∧ True) ∨ ∃ (y : Nat × Prop), ((y.2 ↔ ∀ (j : Nat), (3 : Nat)
 ≤ j → j < (3 : Nat) + y.fst → numP (wrd s j)) ∧ (3 : Nat) + y.fst ≤ (piecesOf (32 : UInt8) s).length ∧ Nat.le (1 : Nat) y.fst) ∧ (piecesOf (32 : UInt8) s).length - y.fst < (piecesOf (32 : UInt8)
 s).length - x_1.fst ∧ ((↑((3 : Nat) + x_1.fst) : Int) + (1 : Int) = (↑((3 : Nat) + y.fst) : Int) ∧ (false = true ↔ y.2) ∧ ((0 : Nat) = (0 : Nat) ∧ x_1.fst + (1 : Nat) = y.fst ∧ True) ∧ True) ∧
 List.take x_1.fst (List.take x_1.fst (numsL s)) ++ List.take (1 : Nat) [D.int (numZ (el (pD (okW s) (D.list (strsD (piecesOf (32 : UInt8) s)))) ((3 : Nat) + x_1.fst)).asStr)] = List.take y.fst (numsL
 s) ∧ True))) ∧ (((↑((3 : Nat) + x_1.fst) : Int) < (↑(pD (okW s) (D.list (strsD (piecesOf (32 : UInt8) s)))).len : Int) → False) → (0 : Int) ≤ (0 : Int) ∧ (0 : Int) < (↑x_1.fst : Int) ∧ (0 : Nat) +
 Int.toNat (0 : Int) < (List.take x_1.fst (numsL s)).length ∧ (0 : Int) ≤ (1 : Int) ∧ (1 : Int) < (↑x_1.fst : Int) ∧ (0 : Nat) + Int.toNat (1 : Int) < (List.take x_1.fst (numsL s)).length ∧ (0 : Int) ≤
 (2 : Int) ∧ (2 : Int) < (↑x_1.fst : Int) ∧ (0 : Nat) + Int.toNat (2 : Int) < (List.take x_1.fst (numsL s)).length ∧ (0 : Int) ≤ (3 : Int) ∧ (3 : Int) < (↑x_1.fst : Int) ∧ (0 : Nat) + Int.toNat (3 :
 Int) < (List.take x_1.fst (numsL s)).length ∧ (0 : Int) ≤ (4 : Int) ∧ (4 : Int) ≤ (↑x_1.fst : Int) ∧ ((↑x_1.fst : Int) - (↑x_1.fst : Int)).NonNeg ∧ (0 : Nat) + Int.toNat (4 : Int) + (x_1.fst -
 Int.toNat (4 : Int)) ≤ (List.take x_1.fst (numsL s)).length ∧ (x_1.fst - Int.toNat (4 : Int) = (0 : Nat) → (x_1.2 → (wrd s (1 : Nat) = pS (headP s) (wrd s (1 : Nat)) ∧ shpN (wrd s (2 : Nat)) x = pI
 (headP s) (shapeZ (wrd s (2 : Nat))) ∧ (nthD (List.take x_1.fst (numsL s)) ((0 : Nat) + Int.toNat (0 : Int))).asInt = pI (headP s) (nAt s (0 : Nat)) ∧ (nthD (List.take x_1.fst (numsL s)) ((0 : Nat) +
 Int.toNat (1 : Int))).asInt = pI (headP s) (nAt s (1 : Nat)) ∧ D.nil = pD (headP s) (restD s) ∧ (nthD (List.take x_1.fst (numsL s)) ((0 : Nat) + Int.toNat (2 : Int))).asInt = pI (headP s) (nAt s (2 :
 Nat)) ∧ (nthD (List.take x_1.fst (numsL s)) ((0 : Nat) + Int.toNat (3 : Int))).asInt = pI (headP s) (nAt s (3 : Nat)) ∧ True) ∧ (shpN (wrd s (2 : Nat)) x = (0 : Int) → False ↔ lineP s) ∧ True) ∧
 ((x_1.2 → False) → (wrd s (1 : Nat) = pS (headP s) (wrd s (1 : Nat)) ∧ shpN (wrd s (2 : Nat)) x = pI (headP s) (shapeZ (wrd s (2 : Nat))) ∧ (nthD (List.take x_1.fst (numsL s)) ((0 : Nat) + Int.toNat
 (0 : Int))).asInt = pI (headP s) (nAt s (0 : Nat)) ∧ (nthD (List.take x_1.fst (numsL s)) ((0 : Nat) + Int.toNat (1 : Int))).asInt = pI (headP s) (nAt s (1 : Nat)) ∧ D.nil = pD (headP s) (restD s) ∧
 (nthD (List.take x_1.fst (numsL s)) ((0 : Nat) + Int.toNat (2 : Int))).asInt = pI (headP s) (nAt s (2 : Nat)) ∧ (nthD (List.take x_1.fst (numsL s)) ((0 : Nat) + Int.toNat (3 : Int))).asInt = pI (headP
 s) (nAt s (3 : Nat)) ∧ True) ∧ (false = true ↔ lineP s) ∧ True)) ∧ ((0 : Nat) < x_1.fst - Int.toNat (4 : Int) → x_1.fst - Int.toNat (4 : Int) ≤ (16777216 : Nat) ∧ (x_1.2 → (wrd s (1 : Nat) = pS (headP
 s) (wrd s (1 : Nat)) ∧ shpN (wrd s (2 : Nat)) x = pI (headP s) (shapeZ (wrd s (2 : Nat))) ∧ (nthD (List.take x_1.fst (numsL s)) ((0 : Nat) + Int.toNat (0 : Int))).asInt = pI (headP s) (nAt s (0 :
 Nat)) ∧ (nthD (List.take x_1.fst (numsL s)) ((0 : Nat) + Int.toNat (1 : Int))).asInt = pI (headP s) (nAt s (1 : Nat)) ∧ ((0 : Nat) + (x_1.fst - Int.toNat (4 : Int)) ≤ (List.take (x_1.fst - Int.toNat
 (4 : Int)) (List.drop ((0 : Nat) + Int.toNat (4 : Int)) (List.take x_1.fst (numsL s)))).length ∧ D.list (List.take (x_1.fst - Int.toNat (4 : Int)) (List.take (x_1.fst - Int.toNat (4 : Int)) (List.drop
 ((0 : Nat) + Int.toNat (4 : Int)) (List.take x_1.fst (numsL s))))) = pD (headP s) (restD s)) ∧ (nthD (List.take x_1.fst (numsL s)) ((0 : Nat) + Int.toNat (2 : Int))).asInt = pI (headP s) (nAt s (2 :
 Nat)) ∧ (nthD (List.take x_1.fst (numsL s)) ((0 : Nat) + Int.toNat (3 : Int))).asInt = pI (headP s) (nAt s (3 : Nat)) ∧ True) ∧ (shpN (wrd s (2 : Nat)) x = (0 : Int) → False ↔ lineP s) ∧ True) ∧
 ((x_1.2 → False) → (wrd s (1 : Nat) = pS (headP s) (wrd s (1 : Nat)) ∧ shpN (wrd s (2 : Nat)) x = pI (headP s) (shapeZ (wrd s (2 : Nat))) ∧ (nthD (List.take x_1.fst (numsL s)) ((0 : Nat) + Int.toNat
 (0 : Int))).asInt = pI (headP s) (nAt s (0 : Nat)) ∧ (nthD (List.take x_1.fst (numsL s)) ((0 : Nat) + Int.toNat (1 : Int))).asInt = pI (headP s) (nAt s (1 : Nat)) ∧ ((0 : Nat) + (x_1.fst - Int.toNat
 (4 : Int)) ≤ (List.take (x_1.fst - Int.toNat (4 : Int)) (List.drop ((0 : Nat) + Int.toNat (4 : Int)) (List.take x_1.fst (numsL s)))).length ∧ D.list (List.take (x_1.fst - Int.toNat (4 : Int))
 (List.take (x_1.fst - Int.toNat (4 : Int)) (List.drop ((0 : Nat) + Int.toNat (4 : Int)) (List.take x_1.fst (numsL s))))) = pD (headP s) (restD s)) ∧ (nthD (List.take x_1.fst (numsL s)) ((0 : Nat) +
 Int.toNat (2 : Int))).asInt = pI (headP s) (nAt s (2 : Nat)) ∧ (nthD (List.take x_1.fst (numsL s)) ((0 : Nat) + Int.toNat (3 : Int))).asInt = pI (headP s) (nAt s (3 : Nat)) ∧ True) ∧ (false = true ↔
 lineP s) ∧ True)))))) ∧ ((↑(pD (okW s) (D.list (strsD (piecesOf (32 : UInt8) s)))).len : Int) < (7 : Int) → ([] = pS (headP s) (wrd s (1 : Nat)) ∧ (0 : Int) = pI (headP s) (shapeZ (wrd s (2 : Nat))) ∧
 (0 : Int) = pI (headP s) (nAt s (0 : Nat)) ∧ (0 : Int) = pI (headP s) (nAt s (1 : Nat)) ∧ D.nil = pD (headP s) (restD s) ∧ (0 : Int) = pI (headP s) (nAt s (2 : Nat)) ∧ (0 : Int) = pI (headP s) (nAt s
 (3 : Nat)) ∧ True) ∧ (false = true ↔ lineP s) ∧ True)) ∧ ((okW s → False) → ([] = pS (headP s) (wrd s (1 : Nat)) ∧ (0 : Int) = pI (headP s) (shapeZ (wrd s (2 : Nat))) ∧ (0 : Int) = pI (headP s) (nAt s
 (0 : Nat)) ∧ (0 : Int) = pI (headP s) (nAt s (1 : Nat)) ∧ D.nil = pD (headP s) (restD s) ∧ (0 : Int) = pI (headP s) (nAt s (2 : Nat)) ∧ (0 : Int) = pI (headP s) (nAt s (3 : Nat)) ∧ True) ∧ (false =
 true ↔ lineP s) ∧ True)) := by intros; kernel_rfl
theorem shape_lim (w : List UInt8) : 0 ≤ shapeZ w ∧ shapeZ w ≤ 4 := by
 unfold shapeZ
 repeat' split
 all_goals omega
theorem shape_iff {k : Int} (h1 : 1 ≤ k) (h4 : k ≤ 4) (w : List UInt8) : shapeW k = w ↔ shapeZ w = k := by
 constructor
 ·intro h; subst h
  rcases (show k = 1 ∨ k = 2 ∨ k = 3 ∨ k = 4 by omega) with rfl | rfl | rfl | rfl <;> decide
 ·intro h
  unfold shapeZ at h
  split at h
  ·rename_i e; subst h; rw [e]; decide
  ·split at h
   ·rename_i e; subst h; rw [e]; decide
   ·split at h
    ·rename_i e; subst h; rw [e]; decide
    ·split at h
     ·rename_i e; subst h; rw [e]; decide
     ·omega
theorem nums_take {s : List UInt8} {k : Nat} (h : k < (piecesOf 32 s).length - 3) : (numsL s).take (k + 1) = (numsL s).take k ++ [.int (numZ (wrd s (3 + k)))] := by
 have hl : k < (numsL s).length := by rw [numsL_len]; exact h
 have hg : (numsL s)[k]? = some (.int (numZ (wrd s (3 + k)))) := by
  unfold numsL wrd pAt
  rw [List.getElem?_map, List.getElem?_drop, List.getElem?_eq_getElem (by omega : 3 + k < (piecesOf 32 s).length)]; rfl
 rw [List.getElem?_eq_getElem hl] at hg
 rw [List.take_succ_eq_append_getElem hl, Option.some.inj hg]
theorem s40 (s : List UInt8) (hs : s.length ≤ 100000) : symFun (ctx hp1 hpAnn) 4 40 [.str s] (.tup [rowV (headP s) s, .prop (lineP s)]) := by
 rw [vc40]
 have hP := pieces_len 32 s
 have hcl : s.count 32 ≤ s.length := List.count_le_length
 have bad : ¬ headP s → ([] = pS (headP s) (wrd s 1) ∧ 0 = pI (headP s) (shapeZ (wrd s 2)) ∧ 0 = pI (headP s) (nAt s 0) ∧ 0 = pI (headP s) (nAt s 1) ∧ D.nil = pD (headP s) (restD s) ∧ 0 = pI (headP s) (nAt s 2) ∧ 0 = pI (headP s) (nAt s 3) ∧ True) ∧ (false = true ↔ lineP s) ∧ True := fun h =>
  ⟨⟨pS_no _ h, pI_no _ h, pI_no _ h, pI_no _ h, pD_no _ h, pI_no _ h, pI_no _ h, trivial⟩, ⟨fun h => by simp at h, fun h' => absurd (line_head h') h⟩, trivial⟩
 refine ⟨hs, fun hok => ?_, fun hno => bad fun h => hno h.out.1⟩
 have hok := Classical.not_not.1 hok
 have eE : ∀ j, (el (D.list (strsD (piecesOf 32 s))) j).asStr = wrd s j := fun j => w_nth _ j
 have eL : (D.list (strsD (piecesOf 32 s))).len = (piecesOf 32 s).length := strs_len _
 rw [pD_yes _ hok]
 simp only [eE, eL]
 refine ⟨fun h7 => ?_, fun h7 => bad fun h => by have := h.out.2.1; omega⟩
 have h7 : ¬ ((piecesOf 32 s).length : Int) < 7 := h7
 refine ⟨by omega, by omega, fun h0 => bad fun h => h0 h.out.2.2, fun h0 => ?_⟩
 have h0 : wrd s 0 = tblW := Classical.not_not.1 h0
 have hH : headP s := ⟨hok, by omega, h0⟩
 have hsl := shape_lim (wrd s 2)
 have hw1 : wrd s 1 ≠ [] := hok.out _ (pAt_mem (by omega))
 refine ⟨by omega, by omega, ⟨1, ⟨by omega, by omega⟩, ⟨rfl, trivial⟩, ⟨by first | rfl | trivial, ?_, by trivial, by trivial, trivial, by trivial, by trivial, trivial⟩, trivial⟩, fun x ⟨hx1, hx5⟩ => ⟨by unfold LIM; omega, fun hx4 => ⟨trivial, by omega, by omega, fun he => ?_, fun he => ?_⟩, fun hx4 => ?_⟩⟩
 ·unfold shpN; split <;> omega
 ·have ew : IntKind.u8.wrap (x : Int) = x := wrap_small _ x (by omega)
  have hz : shapeZ (wrd s 2) = x := (shape_iff (by omega) (by omega) _).1 (by rw [← ew]; exact he)
  refine ⟨⟨by omega, by omega⟩, x + 1, ⟨by omega, by omega⟩, by omega, ⟨by omega, trivial⟩, ⟨by first | rfl | trivial, ?_, by trivial, by trivial, trivial, by trivial, by trivial, trivial⟩, trivial⟩
  rw [ew]; unfold shpN; rw [if_pos (by omega)]; omega
 ·have ew : IntKind.u8.wrap (x : Int) = x := wrap_small _ x (by omega)
  have hz : shapeZ (wrd s 2) ≠ x := fun h => he (by rw [ew]; exact (shape_iff (by omega) (by omega) _).2 h)
  refine ⟨⟨by omega, by omega⟩, x + 1, ⟨by omega, by omega⟩, by omega, ⟨by omega, trivial⟩, ⟨by first | rfl | trivial, ?_, by trivial, by trivial, trivial, by trivial, by trivial, trivial⟩, trivial⟩
  unfold shpN
  split <;> split <;> omega
 ·have hx4 : ¬ (x : Int) ≤ 4 := hx4
  have hx : x = 5 := by omega
  subst hx
  have e5 : shpN (wrd s 2) 5 = shapeZ (wrd s 2) := by unfold shpN; split <;> omega
  refine ⟨.inl ⟨(0, okW s), ⟨⟨fun _ j h1 h2 => by have h2 : j < 3 + 0 := h2; omega, fun _ => hok⟩, by show 3 + 0 ≤ _; omega, rfl⟩, ⟨by trivial, Iff.rfl, trivial, trivial⟩, trivial⟩, fun y ⟨hy, hyl, hy0⟩ => ⟨by unfold LIM; omega, fun hlt => ⟨by omega, by omega, trivial, fun ht => ?_, fun hn => absurd (hy.2 fun j h1 h2 => by omega) hn⟩, fun hge => absurd (show (3 : Int) < (piecesOf 32 s).length by omega) hge⟩, fun y ⟨hy, hyl, hy1⟩ => ⟨by unfold LIM; omega, fun hlt => ⟨by omega, hlt, trivial, fun ht => ?_, fun hn => ?_⟩, fun hge => ?_⟩⟩
  ·refine ⟨Nat.le_refl 1, by decide, ⟨by omega, by omega⟩, .inr ⟨(1, numP (wrd s 3)), ⟨⟨fun h j h1 h2 => ?_, fun h => h 3 (Nat.le_refl 3) (by show 3 < 3 + 1; omega)⟩, by show 3 + 1 ≤ _; omega, Nat.le_refl 1⟩, by show _ - 1 < _ - y.1; omega, ⟨by rfl, Iff.rfl, ⟨by trivial, rfl, trivial⟩, trivial⟩, ?_, trivial⟩⟩
   ·have h2 : j < 3 + 1 := h2
    have : j = 3 := by omega
    subst this; exact h
   ·show _ = List.take (0 + 1) (numsL s)
    rw [nums_take (by omega)]; rfl
  ·have hy1 : 1 ≤ y.1 := hy1
   have hk : y.1 < (piecesOf 32 s).length - 3 := by omega
   have hn := numsL_len s
   refine ⟨Nat.le_refl 1, by rw [List.length_take]; omega, by omega, ⟨by omega, by omega⟩, .inr ⟨(y.1 + 1, numP (wrd s (3 + y.1))), ⟨⟨fun h j h1 h2 => ?_, fun h => h (3 + y.1) (by omega) (by show 3 + y.1 < 3 + (y.1 + 1); omega)⟩, by show 3 + (y.1 + 1) ≤ _; omega, by show 1 ≤ y.1 + 1; omega⟩, by show _ - (y.1 + 1) < _ - y.1; omega, ⟨by show ((3 + y.1 : Nat) : Int) + 1 = ((3 + (y.1 + 1) : Nat) : Int); omega, Iff.rfl, ⟨by trivial, rfl, trivial⟩, trivial⟩, ?_, trivial⟩⟩
   ·have h2 : j < 3 + (y.1 + 1) := h2
    by_cases e : j = 3 + y.1
    ·subst e; exact h
    ·exact hy.1 ht j h1 (by omega)
   ·show _ = List.take (y.1 + 1) (numsL s)
    rw [nums_take hk, take_all (List.take y.1 (numsL s)) _ (by rw [List.length_take]; omega)]; rfl
  ·have hy1 : 1 ≤ y.1 := hy1
   have hk : y.1 < (piecesOf 32 s).length - 3 := by omega
   have hnl := numsL_len s
   refine ⟨Nat.le_refl 1, by rw [List.length_take]; omega, by omega, ⟨by omega, by omega⟩, .inr ⟨(y.1 + 1, False), ⟨⟨fun h => h.elim, fun h => hn (hy.2 fun j h1 h2 => h j h1 (by show j < 3 + (y.1 + 1); omega))⟩, by show 3 + (y.1 + 1) ≤ _; omega, by show 1 ≤ y.1 + 1; omega⟩, by show _ - (y.1 + 1) < _ - y.1; omega, ⟨by show ((3 + y.1 : Nat) : Int) + 1 = ((3 + (y.1 + 1) : Nat) : Int); omega, ⟨fun h => by simp at h, fun h => h.elim⟩, ⟨by trivial, rfl, trivial⟩, trivial⟩, ?_, trivial⟩⟩
   show _ = List.take (y.1 + 1) (numsL s)
   rw [nums_take hk, take_all (List.take y.1 (numsL s)) _ (by rw [List.length_take]; omega)]; rfl
  ·have hge : ¬ ((3 + y.1 : Nat) : Int) < (piecesOf 32 s).length := hge
   have hk : y.1 = (piecesOf 32 s).length - 3 := by omega
   have hnl := numsL_len s
   have et : List.take y.1 (numsL s) = numsL s := take_all _ _ (by omega)
   rw [et, e5]
   have nv : ∀ j : Nat, j < 4 → (nthD (numsL s) (0 + j)).asInt = pI (headP s) (nAt s j) := fun j hj => by rw [pI_yes _ hH, Nat.zero_add]; exact numsL_nth s j (by omega)
   have yes : y.2 → (shapeZ (wrd s 2) = 0 → False ↔ lineP s) := fun ht => ⟨fun h => ⟨hH.out.2.1, h0, hw1, h, fun j h1 h2 => hy.1 ht j h1 (by omega)⟩, fun h => h.out.2.2.2.1⟩
   have no : ¬ y.2 → (false = true ↔ lineP s) := fun hn => ⟨fun h => by simp at h, fun h => absurd (hy.2 fun j h1 h2 => h.out.2.2.2.2 j h1 (by omega)) hn⟩
   have r0 := nv 0 (by omega)
   have r1 := nv 1 (by omega)
   have r2 := nv 2 (by omega)
   have r3 := nv 3 (by omega)
   have rn : y.1 - Int.toNat 4 = 0 → D.nil = pD (headP s) (restD s) := fun hz => by
    rw [pD_yes _ hH]; unfold restD
    rw [List.drop_of_length_le (by have hz : y.1 - 4 = 0 := hz; omega)]; rfl
   have rl : 0 < y.1 - Int.toNat 4 → (0 + (y.1 - Int.toNat 4) ≤ (List.take (y.1 - Int.toNat 4) (List.drop (0 + Int.toNat 4) (numsL s))).length ∧ D.list (List.take (y.1 - Int.toNat 4) (List.take (y.1 - Int.toNat 4) (List.drop (0 + Int.toNat 4) (numsL s)))) = pD (headP s) (restD s)) := fun hz => by
    have hz : 0 < y.1 - 4 := hz
    show (0 + (y.1 - 4) ≤ (List.take (y.1 - 4) (List.drop 4 (numsL s))).length ∧ D.list (List.take (y.1 - 4) (List.take (y.1 - 4) (List.drop 4 (numsL s)))) = pD (headP s) (restD s))
    have ed : List.take (y.1 - 4) (List.drop 4 (numsL s)) = List.drop 4 (numsL s) := take_all _ _ (by rw [List.length_drop]; omega)
    rw [ed, ed, pD_yes _ hH]
    refine ⟨by rw [List.length_drop]; omega, ?_⟩
    unfold restD
    rw [listD_ne (by rw [List.length_drop]; omega)]
   have rs : shapeZ (wrd s 2) = pI (headP s) (shapeZ (wrd s 2)) := (pI_yes _ hH).symm
   have rw1 : wrd s 1 = pS (headP s) (wrd s 1) := (pS_yes _ hH).symm
   refine ⟨by omega, by omega, by rw [hnl]; show 0 + 0 < _; omega, by omega, by omega, by rw [hnl]; show 0 + 1 < _; omega, by omega, by omega, by rw [hnl]; show 0 + 2 < _; omega, by omega, by omega, by rw [hnl]; show 0 + 3 < _; omega, by omega, by omega, (show ((y.1 : Int)) ≤ (y.1 : Int) by omega), by rw [hnl]; show 0 + 4 + (y.1 - 4) ≤ _; omega, fun hz => ⟨fun ht => ⟨⟨rw1, rs, r0, r1, rn hz, r2, r3, trivial⟩, yes ht, trivial⟩, fun hn => ⟨⟨rw1, rs, r0, r1, rn hz, r2, r3, trivial⟩, no hn, trivial⟩⟩, fun hz => ⟨by show y.1 - 4 ≤ _; omega, fun ht => ⟨⟨rw1, rs, r0, r1, rl hz, r2, r3, trivial⟩, yes ht, trivial⟩, fun hn => ⟨⟨rw1, rs, r0, r1, rl hz, r2, r3, trivial⟩, no hn, trivial⟩⟩⟩
end Go.Ev

end

section
open Go.Proofs
namespace Go.Ev
set_option maxRecDepth 100000
def joinC (c : UInt8) : List (List UInt8) → List UInt8
 | [] => []
 | w :: r => match r with | [] => w | _ :: _ => w ++ c :: joinC c r
theorem join_cons (c : UInt8) (w : List UInt8) {r : List (List UInt8)} (h : r ≠ []) : joinC c (w :: r) = w ++ c :: joinC c r := by
 cases r with
 | nil => exact absurd rfl h
 | cons v r => rfl
theorem join_pieces (c : UInt8) : ∀ s, joinC c (piecesOf c s) = s
 | [] => rfl
 | b :: s => by
  have ih := join_pieces c s
  rw [pieces_cons]
  split
  ·rename_i h; subst h
   rw [join_cons b [] (pieces_ne b s), ih]; rfl
  ·cases hp : piecesOf c s with
   | nil => exact absurd hp (pieces_ne c s)
   | cons w r =>
    rw [hp] at ih
    show joinC c ((b :: w) :: r) = b :: s
    rw [← ih]
    cases r with
    | nil => rfl
    | cons v r => rfl
theorem pieces_app (c : UInt8) : ∀ (w v : List UInt8), c ∉ w → piecesOf c (w ++ c :: v) = w :: piecesOf c v
 | [], v, _ => by rw [List.nil_append, pieces_cons, if_pos rfl]
 | b :: w, v, h => by
  have ih := pieces_app c w v fun hm => h (List.mem_cons_of_mem _ hm)
  rw [List.cons_append, pieces_cons, if_neg fun e => h (by rw [e]; exact List.mem_cons_self), ih]
theorem pieces_alone (c : UInt8) : ∀ (w : List UInt8), c ∉ w → piecesOf c w = [w]
 | [], _ => rfl
 | b :: w, h => by
  have ih := pieces_alone c w fun hm => h (List.mem_cons_of_mem _ hm)
  rw [pieces_cons, if_neg fun e => h (by rw [e]; exact List.mem_cons_self), ih]
theorem pieces_join (c : UInt8) : ∀ (ws : List (List UInt8)), ws ≠ [] → (∀ w, w ∈ ws → c ∉ w) → piecesOf c (joinC c ws) = ws
 | [], h, _ => absurd rfl h
 | w :: r, _, h => by
  cases r with
  | nil => exact pieces_alone c w (h w List.mem_cons_self)
  | cons v r =>
   rw [join_cons c w (by simp), pieces_app c w _ (h w List.mem_cons_self), pieces_join c (v :: r) (by simp) fun u hu => h u (List.mem_cons_of_mem _ hu)]
def linesB (c : UInt8) : List (List UInt8) → List UInt8
 | [] => []
 | w :: r => w ++ c :: linesB c r
theorem pieces_lines (c : UInt8) : ∀ (ws : List (List UInt8)), (∀ w, w ∈ ws → c ∉ w) → piecesOf c (linesB c ws) = ws ++ [[]]
 | [], _ => rfl
 | w :: r, h => by
  show piecesOf c (w ++ c :: linesB c r) = _
  rw [pieces_app c w _ (h w List.mem_cons_self), pieces_lines c r fun u hu => h u (List.mem_cons_of_mem _ hu)]; rfl
theorem lines_join (c : UInt8) : ∀ (ws : List (List UInt8)), joinC c (ws ++ [[]]) = linesB c ws
 | [] => rfl
 | w :: r => by
  rw [List.cons_append, join_cons c w (by simp), lines_join c r]; rfl
theorem decF_succ (f n : Nat) : decF (f + 1) n = cond (Nat.ble n 9) [UInt8.ofNat (48 + n)] (decF f (n / 10) ++ [UInt8.ofNat (48 + n % 10)]) := rfl
theorem decF_small {f n : Nat} (h : n ≤ 9) : decF (f + 1) n = [UInt8.ofNat (48 + n)] := by rw [decF_succ, Nat.ble_eq_true_of_le h]; rfl
theorem decF_big {f n : Nat} (h : 9 < n) : decF (f + 1) n = decF f (n / 10) ++ [UInt8.ofNat (48 + n % 10)] := by
 rw [decF_succ]
 cases hb : Nat.ble n 9 with
 | true => have := Nat.le_of_ble_eq_true hb; omega
 | false => rfl
theorem byte_app_l {u v : List UInt8} {i : Nat} (h : i < u.length) : byteAt (u ++ v) i = byteAt u i := by unfold byteAt; rw [List.getElem?_append_left h]
theorem byte_app_r {u v : List UInt8} {i : Nat} (h : u.length ≤ i) : byteAt (u ++ v) i = byteAt v (i - u.length) := by unfold byteAt; rw [List.getElem?_append_right h]
theorem numV_app (u v : List UInt8) : ∀ n, n ≤ u.length → numV (u ++ v) n = numV u n
 | 0, _ => rfl
 | n + 1, h => by
  have ih := numV_app u v n (by omega)
  unfold numV; rw [ih, byte_app_l (by omega)]
theorem dig_byte {n : Nat} (h : n ≤ 9) : byteAt [UInt8.ofNat (48 + n)] 0 = 48 + n := by
 show ((UInt8.ofNat (48 + n)).toNat : Int) = _
 rw [UInt8.toNat_ofNat_of_lt' (by show 48 + n < 256; omega)]; omega
structure decP (w : List UInt8) (f n : Nat) : Prop where
 out : 1 ≤ w.length ∧ w.length ≤ f ∧ (∀ i, i < w.length → 48 ≤ byteAt w i ∧ byteAt w i ≤ 57) ∧ numV w w.length = n ∧ (1 ≤ n → byteAt w 0 ≠ 48) ∧ (n = 0 → w.length = 1)
theorem dec_ok : ∀ f n, n < 10 ^ (f + 1) → decP (decF (f + 1) n) (f + 1) n
 | 0, n, h => by
  have h9 : n ≤ 9 := by omega
  rw [decF_small h9]
  have hb := dig_byte h9
  refine ⟨Nat.le_refl 1, Nat.le_refl 1, fun i hi => ?_, ?_, fun _ => ?_, fun _ => rfl⟩
  ·have : i = 0 := by have hi : i < 1 := hi; omega
   subst this; rw [hb]; omega
  ·show 10 * 0 + (byteAt _ 0 - 48) = (n : Int); rw [hb]; omega
  ·rw [hb]; omega
 | f + 1, n, h => by
  by_cases h9 : n ≤ 9
  ·rw [decF_small h9]
   have hb := dig_byte h9
   refine ⟨Nat.le_refl 1, by show 1 ≤ f + 1 + 1; omega, fun i hi => ?_, ?_, fun _ => ?_, fun _ => rfl⟩
   ·have : i = 0 := by have hi : i < 1 := hi; omega
    subst this; rw [hb]; omega
   ·show 10 * 0 + (byteAt _ 0 - 48) = (n : Int); rw [hb]; omega
   ·rw [hb]; omega
  ·rw [decF_big (by omega)]
   obtain ⟨i1, i2, i3, i4, i5, i6⟩ := (dec_ok f (n / 10) (by rw [Nat.pow_succ] at h; omega)).out
   have hb := dig_byte (n := n % 10) (by omega)
   generalize decF (f + 1) (n / 10) = u at *
   have hl : (u ++ [UInt8.ofNat (48 + n % 10)]).length = u.length + 1 := by rw [List.length_append]; rfl
   have hlast : byteAt (u ++ [UInt8.ofNat (48 + n % 10)]) u.length = 48 + (n % 10 : Nat) := by rw [byte_app_r (Nat.le_refl _), Nat.sub_self, hb]
   refine ⟨by omega, by omega, fun i hi => ?_, ?_, fun _ => ?_, fun h0 => by omega⟩
   ·by_cases e : i < u.length
    ·rw [byte_app_l e]; exact i3 i e
    ·have : i = u.length := by omega
     subst this; rw [hlast]; omega
   ·rw [hl]; unfold numV
    rw [numV_app _ _ _ (Nat.le_refl _), i4, hlast]; omega
   ·rw [byte_app_l (by omega)]; exact i5 (by omega)
theorem decB_num {n : Int} (h0 : 0 ≤ n) (h1 : n ≤ 1000) : numP (decB n) ∧ numZ (decB n) = n := by
 have hp : (10 : Nat) ^ (4 + 1) = 100000 := by decide
 have h := dec_ok 4 n.toNat (by omega)
 have h : decP (decB n) 5 n.toNat := h
 obtain ⟨i1, i2, i3, i4, i5, i6⟩ := h.out
 have hne : 1 < (decB n).length → byteAt (decB n) 0 ≠ 48 := fun hl => i5 (by
  rcases Nat.eq_zero_or_pos n.toNat with h | h
  ·have := i6 h; omega
  ·exact h)
 have hn : numP (decB n) := ⟨i1, by omega, hne, i3⟩
 exact ⟨hn, by rw [numZ_yes (num_digs hn), i4]; omega⟩
theorem val_ge (s : List UInt8) (h0 : 49 ≤ byteAt s 0) : ∀ n, (∀ i, i < n + 1 → 48 ≤ byteAt s i) → ((10 ^ n : Nat) : Int) ≤ numV s (n + 1)
 | 0, _ => by show (1 : Int) ≤ 10 * 0 + (byteAt s 0 - 48); omega
 | n + 1, h => by
  have ih := val_ge s h0 n fun i hi => h i (by omega)
  have hb := h (n + 1) (by omega)
  show _ ≤ 10 * numV s (n + 1) + (byteAt s (n + 1) - 48)
  rw [Nat.pow_succ]; omega
theorem dec_val : ∀ (n : Nat) (w : List UInt8) (f : Nat), w.length = n + 1 → n < f → (∀ i, i < w.length → 48 ≤ byteAt w i ∧ byteAt w i ≤ 57) → (1 ≤ n → byteAt w 0 ≠ 48) → decF f (numV w (n + 1)).toNat = w
 | 0, w, f, hl, hf, hd, _ => by
  match w, hl with
  | [b], _ =>
   have hb : (48 : Int) ≤ b.toNat ∧ (b.toNat : Int) ≤ 57 := hd 0 (by simp)
   have e : (numV [b] (0 + 1)).toNat = b.toNat - 48 := by show (10 * 0 + ((b.toNat : Int) - 48)).toNat = _; omega
   obtain ⟨f, rfl⟩ : ∃ g, f = g + 1 := ⟨f - 1, by omega⟩
   rw [e, decF_small (by omega), show 48 + (b.toNat - 48) = b.toNat by omega, UInt8.ofNat_toNat]
 | n + 1, w, f, hl, hf, hd, h0 => by
  obtain ⟨f, rfl⟩ : ∃ g, f = g + 1 := ⟨f - 1, by omega⟩
  have hw : w = w.take (n + 1) ++ [w[n + 1]] := by rw [← List.take_succ_eq_append_getElem (by omega : n + 1 < w.length), List.take_of_length_le (by omega)]
  have hul : (w.take (n + 1)).length = n + 1 := by rw [List.length_take]; omega
  have hub : ∀ i, i < n + 1 → byteAt (w.take (n + 1)) i = byteAt w i := fun i hi => by unfold byteAt; rw [List.getElem?_take_of_lt hi]
  have hne := h0 (by omega)
  have h49 : 49 ≤ byteAt w 0 := by have := (hd 0 (by omega)).1; omega
  have hb := hd (n + 1) (by omega)
  have hbe : byteAt w (n + 1) = (w[n + 1].toNat : Int) := by unfold byteAt; rw [List.getElem?_eq_getElem (by omega : n + 1 < w.length)]; rfl
  have hv : numV w (n + 1 + 1) = 10 * numV w (n + 1) + (byteAt w (n + 1) - 48) := rfl
  have hge := val_ge w h49 n fun i hi => (hd i (by omega)).1
  have hpos : 1 ≤ 10 ^ n := Nat.one_le_pow _ _ (by omega)
  have hvu : numV (w.take (n + 1)) (n + 1) = numV w (n + 1) := by
   have := numV_app (w.take (n + 1)) [w[n + 1]] (n + 1) (by omega)
   rw [← hw] at this; exact this.symm
  have ih := dec_val n (w.take (n + 1)) f hul (by omega) (fun i hi => by rw [hul] at hi; rw [hub i hi]; exact hd i (by omega)) (fun _ => by rw [hub 0 (by omega)]; exact hne)
  rw [hvu] at ih
  rw [hv, decF_big (by omega)]
  have e1 : (10 * numV w (n + 1) + (byteAt w (n + 1) - 48)).toNat / 10 = (numV w (n + 1)).toNat := by omega
  have e2 : 48 + (10 * numV w (n + 1) + (byteAt w (n + 1) - 48)).toNat % 10 = w[n + 1].toNat := by omega
  rw [e1, e2, ih, UInt8.ofNat_toNat]
  exact hw.symm
theorem decB_val {w : List UInt8} (h : numP w) (hz : numZ w ≤ 1000) : decB (numZ w) = w := by
 obtain ⟨h1, h2, h3, h4⟩ := h.out
 have ez := numZ_yes (num_digs h)
 obtain ⟨n, hn⟩ : ∃ n, w.length = n + 1 := ⟨w.length - 1, by omega⟩
 have hle : n < 5 := by
  rcases Nat.lt_or_ge n 5 with h5 | h5
  ·exact h5
  ·have hne := h3 (by omega)
   have hge := val_ge w (by have := (h4 0 (by omega)).1; omega) n fun i hi => (h4 i (by omega)).1
   have : 10 ^ 5 ≤ 10 ^ n := Nat.pow_le_pow_right (by omega) h5
   have h6 : (10 : Nat) ^ 5 = 100000 := by decide
   rw [ez, hn] at hz
   omega
 unfold decB
 rw [ez, hn]
 exact dec_val n w 5 hn hle h4 fun hl => h3 (by omega)
end Go.Ev

end

section
open Go.Proofs
namespace Go.Ev
set_option maxRecDepth 100000
def tblB : List UInt8 := [116, 97, 98, 108, 101, 32]
def spB : List UInt8 := [32]
def nlB : List UInt8 := [10]
def wordB (sh : Int) : List UInt8 :=
 if sh = 1 then w1B else if sh = 2 then w2B else if sh = 3 then w3B else w4B
def headB (t : D) : List UInt8 := tblB ++ tName t ++ spB
def lineB (t : D) : List UInt8 := headB t ++ wordB (tShape t)
def nums4 (t : D) : List D := [.int (tA t), .int (tB t), .int (tX t), .int (tY t)]
def numsT (t : D) : List D := nums4 t ++ (tOpen t).asList
def numsB (L : List D) : Nat → List UInt8
 | 0 => []
 | k + 1 => numsB L k ++ (spB ++ decB (nthD L k).asInt)
def tableB (t : D) : List UInt8 := lineB t ++ numsB (numsT t) (numsT t).length ++ nlB
def fmtL (l : D) : Nat → List UInt8
 | 0 => []
 | n + 1 => fmtL l n ++ tableB (el l n)
def wordsT (t : D) : List (List UInt8) := tblW :: tName t :: wordB (tShape t) :: (numsT t).map fun d => decB d.asInt
def lineT (t : D) : List UInt8 := joinC 32 (wordsT t)
theorem nthD_get : ∀ (l : List D) (i : Nat) (h : i < l.length), nthD l i = l[i]
 | d :: _, 0, _ => rfl
 | _ :: l, i + 1, h => nthD_get l i (by simpa using h)
theorem numsB_flat (L : List D) : ∀ k, k ≤ L.length → numsB L k = (L.take k).flatMap fun d => 32 :: decB d.asInt
 | 0, _ => rfl
 | k + 1, h => by
  have ih := numsB_flat L k (by omega)
  have hk : k < L.length := by omega
  show numsB L k ++ (spB ++ decB (nthD L k).asInt) = _
  rw [ih, List.take_succ_eq_append_getElem hk, List.flatMap_append, nthD_get L k hk]
  simp [spB]
theorem join_flat (f : D → List UInt8) : ∀ (L : List D) (w : List UInt8), joinC 32 (w :: L.map f) = w ++ L.flatMap fun d => 32 :: f d
 | [], w => by simp [joinC]
 | d :: L, w => by
  have ih := join_flat f L (f d)
  rw [List.map_cons, join_cons 32 w (by simp), ih, List.flatMap_cons]
  simp
theorem line_join (t : D) : lineB t ++ numsB (numsT t) (numsT t).length = lineT t := by
 rw [numsB_flat _ _ (Nat.le_refl _), List.take_length]
 unfold lineT wordsT
 rw [join_cons 32 _ (by simp), join_cons 32 _ (by simp), join_flat (fun d => decB d.asInt)]
 unfold lineB headB tblB spB tblW
 simp
theorem lines_snoc (c : UInt8) (w : List UInt8) : ∀ ws, linesB c (ws ++ [w]) = linesB c ws ++ (w ++ [c])
 | [] => rfl
 | v :: r => by
  show v ++ c :: linesB c (r ++ [w]) = v ++ c :: linesB c r ++ (w ++ [c])
  rw [lines_snoc c w r]; simp
theorem fmt_lines (l : D) : ∀ n, fmtL l n = linesB 10 ((List.range n).map fun k => lineT (el l k))
 | 0 => rfl
 | n + 1 => by
  have ih := fmt_lines l n
  show fmtL l n ++ tableB (el l n) = _
  rw [ih, List.range_succ, List.map_append, List.map_singleton, lines_snoc]
  unfold tableB nlB
  rw [line_join]
theorem free_of {w : List UInt8} {c : UInt8} (h : ∀ i, i < w.length → byteAt w i ≠ c.toNat) : c ∉ w := fun hm => by
 obtain ⟨i, hi, e⟩ := List.mem_iff_getElem.1 hm
 apply h i hi
 unfold byteAt; rw [List.getElem?_eq_getElem hi, ← e]; rfl
theorem join_free {c d : UInt8} (hd : d ≠ c) : ∀ (ws : List (List UInt8)), (∀ w, w ∈ ws → d ∉ w) → d ∉ joinC c ws
 | [], _ => List.not_mem_nil
 | w :: r, h => by
  have hw := h w List.mem_cons_self
  cases r with
  | nil => exact hw
  | cons v r =>
   rw [join_cons c w (by simp)]
   intro hm
   rcases List.mem_append.1 hm with h1 | h1
   ·exact hw h1
   ·rcases List.mem_cons.1 h1 with h2 | h2
    ·exact hd h2
    ·exact join_free hd (v :: r) (fun u hu => h u (List.mem_cons_of_mem _ hu)) h2
theorem size_bnd {sh a b : Int} (h : sizeZ sh a b ≠ 0) : (0 ≤ a ∧ a ≤ 24) ∧ (0 ≤ b ∧ b ≤ 24) ∧ sizeZ sh a b ≤ 24 := by
 unfold sizeZ at h ⊢
 split
 ·omega
 ·split
  ·omega
  ·split
   ·omega
   ·split
    ·omega
    ·rename_i h1 h2 h3 h4
     rw [if_neg h1, if_neg h2, if_neg h3, if_neg h4] at h
     exact absurd rfl h
theorem errT_ok {d : D} (h : errT d = 0) : nameP (tName d) ∧ sizeT' d ≠ 0 ∧ risingP (tOpen d) (sizeT' d) ∧ placeP (tX d) ∧ placeP (tY d) := by
 unfold errT errZ at h
 split at h
 ·omega
 ·rename_i h1
  split at h
  ·omega
  ·rename_i h2
   split at h
   ·omega
   ·rename_i h3
    split at h
    ·omega
    ·rename_i h4
     exact ⟨Classical.byContradiction h1, h2, Classical.byContradiction h3, (Classical.byContradiction h4).1, (Classical.byContradiction h4).2⟩
theorem shape_of {d : D} (h : sizeT' d ≠ 0) : tShape d = 1 ∨ tShape d = 2 ∨ tShape d = 3 ∨ tShape d = 4 := by
 unfold sizeT' sizeZ at h
 split at h
 ·omega
 ·split at h
  ·omega
  ·split at h
   ·omega
   ·split at h
    ·omega
    ·exact absurd rfl h
theorem nums_in {t : D} (h : errT t = 0) : ∀ d, d ∈ numsT t → 0 ≤ d.asInt ∧ d.asInt ≤ 1000 := fun d hd => by
 obtain ⟨_, h2, h3, h4, h5⟩ := errT_ok h
 obtain ⟨b1, b2, b3⟩ := size_bnd h2
 unfold placeP at h4 h5
 unfold numsT nums4 at hd
 rcases List.mem_append.1 hd with h6 | h6
 ·simp only [List.mem_cons, List.not_mem_nil, or_false] at h6
  rcases h6 with rfl | rfl | rfl | rfl
  ·show 0 ≤ tA t ∧ tA t ≤ 1000; omega
  ·show 0 ≤ tB t ∧ tB t ≤ 1000; omega
  ·show 0 ≤ tX t ∧ tX t ≤ 1000; omega
  ·show 0 ≤ tY t ∧ tY t ≤ 1000; omega
 ·obtain ⟨i, hi, e⟩ := List.mem_iff_getElem.1 h6
  have := h3.out i hi
  have e2 : atI (tOpen t) i = d.asInt := by show (nthD (tOpen t).asList i).asInt = _; rw [nthD_get _ _ hi, e]
  have b3' : sizeT' t ≤ 24 := b3
  omega
theorem words_free {t : D} (h : errT t = 0) {c : UInt8} (hc : c = 32 ∨ c = 10) : ∀ w, w ∈ wordsT t → c ∉ w := fun w hw => by
 obtain ⟨h1, h2, _⟩ := errT_ok h
 unfold wordsT at hw
 rcases List.mem_cons.1 hw with rfl | hw
 ·rcases hc with rfl | rfl <;> decide
 ·rcases List.mem_cons.1 hw with rfl | hw
  ·refine free_of fun i hi => ?_
   have := h1.out.2.2 i hi
   rcases hc with rfl | rfl
   ·show byteAt _ i ≠ 32; omega
   ·show byteAt _ i ≠ 10; omega
  ·rcases List.mem_cons.1 hw with rfl | hw
   ·rcases shape_of h2 with e | e | e | e <;> rw [e] <;> rcases hc with rfl | rfl <;> decide
   ·obtain ⟨d, hd, rfl⟩ := List.mem_map.1 hw
    have hn := nums_in h d hd
    have hp := (decB_num hn.1 hn.2).1
    refine free_of fun i hi => ?_
    have := hp.out.2.2.2 i hi
    rcases hc with rfl | rfl
    ·show byteAt _ i ≠ 32; omega
    ·show byteAt _ i ≠ 10; omega
theorem line_words {t : D} (h : errT t = 0) : piecesOf 32 (lineT t) = wordsT t := pieces_join 32 _ (by unfold wordsT; simp) (words_free h (.inl rfl))
theorem line_free {t : D} (h : errT t = 0) : (10 : UInt8) ∉ lineT t := join_free (by decide) _ (words_free h (.inr rfl))
theorem words_len (t : D) : (wordsT t).length = 7 + (tOpen t).len := by
 unfold wordsT numsT nums4
 simp only [List.length_cons, List.length_map, List.length_append, List.length_nil]
 show 0 + 1 + 1 + 1 + 1 + (tOpen t).asList.length + 1 + 1 + 1 = 7 + (tOpen t).asList.length
 omega
theorem line_nums {t : D} (h : errT t = 0) : numsL (lineT t) = (numsT t).map fun d => .int d.asInt := by
 unfold numsL
 rw [line_words h]
 show ((numsT t).map fun d => decB d.asInt).map (fun w => D.int (numZ w)) = _
 rw [List.map_map]
 refine List.map_congr_left fun d hd => ?_
 have hn := nums_in h d hd
 show D.int (numZ (decB d.asInt)) = D.int d.asInt
 rw [(decB_num hn.1 hn.2).2]
theorem line_wrd {t : D} (h : errT t = 0) (j : Nat) : wrd (lineT t) j = pAt (wordsT t) j := by unfold wrd; rw [line_words h]
theorem shape_word {k : Int} (h : k = 1 ∨ k = 2 ∨ k = 3 ∨ k = 4) : shapeZ (wordB k) = k := by rcases h with rfl | rfl | rfl | rfl <;> decide
theorem line_p {t : D} (h : errT t = 0) : lineP (lineT t) := by
 obtain ⟨h1, h2, _⟩ := errT_ok h
 have hs := shape_of h2
 refine ⟨by rw [line_words h, words_len]; omega, by rw [line_wrd h]; rfl, ?_, ?_, fun j hj hl => ?_⟩
 ·rw [line_wrd h]
  show tName t ≠ []
  intro e
  have := h1.out.1
  rw [e] at this; simp at this
 ·rw [line_wrd h]
  show shapeZ (wordB (tShape t)) ≠ 0
  rw [shape_word hs]; omega
 ·rw [line_words h] at hl
  rw [line_wrd h]
  have hm := pAt_mem hl
  have e : pAt (wordsT t) j = pAt ((numsT t).map fun d => decB d.asInt) (j - 3) := by
   unfold pAt wordsT
   obtain ⟨i, rfl⟩ : ∃ i, j = i + 3 := ⟨j - 3, by omega⟩
   rfl
  rw [e]
  have hl' : j - 3 < ((numsT t).map fun d => decB d.asInt).length := by unfold wordsT at hl; simp only [List.length_cons] at hl; omega
  obtain ⟨d, hd, e2⟩ := List.mem_map.1 (pAt_mem hl')
  rw [← e2]
  have hn := nums_in h d hd
  exact (decB_num hn.1 hn.2).1
theorem rising_eq {a b : D} (h : eqD a b) {n : Int} (hr : risingP b n) : risingP a n := ⟨fun i hi => by
 have hi' : i < b.len := by rw [← h.1]; exact hi
 have := hr.out i hi'
 rw [h.2 i hi]
 refine ⟨this.1, this.2.1, fun h0 => ?_⟩
 rw [h.2 (i - 1) (by omega)]; exact this.2.2 h0⟩
theorem line_tab {t : D} (h : errT t = 0) : sameT (tabD (lineT t)) t := by
 obtain ⟨h1, h2, _⟩ := errT_ok h
 have hs := shape_of h2
 have hn := line_nums h
 have hl : (piecesOf 32 (lineT t)).length - 3 = 4 + (tOpen t).len := by rw [line_words h, words_len]; omega
 have at_ : ∀ j, j < 4 + (tOpen t).len → nAt (lineT t) j = (nthD ((numsT t).map fun d => D.int d.asInt) j).asInt := fun j hj => by rw [← numsL_nth _ j (by omega), hn]
 have hrest : restD (lineT t) = listD ((tOpen t).asList.map fun d => .int d.asInt) := by
  unfold restD; rw [hn]; unfold numsT nums4; rfl
 refine ⟨?_, ?_, ?_, ?_, ?_, ?_, ?_⟩
 ·show wrd (lineT t) 1 = _; rw [line_wrd h]; rfl
 ·show shapeZ (wrd (lineT t) 2) = _; rw [line_wrd h]; exact shape_word hs
 ·show nAt (lineT t) 0 = _; rw [at_ 0 (by omega)]; rfl
 ·show nAt (lineT t) 1 = _; rw [at_ 1 (by omega)]; rfl
 ·show nAt (lineT t) 2 = _; rw [at_ 2 (by omega)]; rfl
 ·show nAt (lineT t) 3 = _; rw [at_ 3 (by omega)]; rfl
 ·show eqD (restD (lineT t)) (tOpen t)
  rw [hrest]
  refine ⟨by rw [listD_len, List.length_map]; rfl, fun i hi => ?_⟩
  rw [listD_len, List.length_map] at hi
  show (nthD (listD _).asList i).asInt = (nthD (tOpen t).asList i).asInt
  rw [listD_as, nthD_get _ _ (by rw [List.length_map]; exact hi), List.getElem_map, nthD_get _ _ hi]; rfl
theorem errT_same {a b : D} (h : sameT a b) (hb : errT b = 0) : errT a = 0 := by
 obtain ⟨h1, h2, h3, h4, h5⟩ := errT_ok hb
 obtain ⟨s1, s2, s3, s4, s5, s6, s7⟩ := h.out
 have es : sizeT' a = sizeT' b := by unfold sizeT'; rw [s2, s3, s4]
 unfold errT errZ
 rw [if_neg (by rw [s1]; exact fun h => h h1), if_neg (by show ¬ sizeT' a = 0; rw [es]; exact h2), if_neg (fun h => h (by show risingP (tOpen a) (sizeT' a); rw [es]; exact rising_eq s7 h3)), if_neg (by rw [s5, s6]; exact fun h => h ⟨h4, h5⟩)]
end Go.Ev

end

section
open Go.Proofs
namespace Go.Ev
set_option maxRecDepth 100000
theorem scanZ_zero (l : D) : ∀ f i, (scanZ l f i).2 = 0 → ∀ j, i ≤ j → j < i + f → err1 l j = 0
 | 0, i, _, j, h1, h2 => by omega
 | f + 1, i, h, j, h1, h2 => by
  unfold scanZ at h
  by_cases e : err1 l i = 0
  ·rw [if_neg fun h => h e] at h
   by_cases ej : j = i
   ·subst ej; exact e
   ·exact scanZ_zero l f (i + 1) h j (by omega) (by omega)
  ·rw [if_pos e] at h; exact absurd h e
theorem scanZ_ok (l : D) : ∀ f i, (∀ j, i ≤ j → j < i + f → err1 l j = 0) → (scanZ l f i).2 = 0
 | 0, i, h => rfl
 | f + 1, i, h => by
  unfold scanZ
  rw [if_neg fun h' => h' (h i (by omega) (by omega))]; exact scanZ_ok l f (i + 1) fun j h1 h2 => h j (by omega) (by omega)
theorem err1_zero {l : D} {i : Nat} : err1 l i = 0 ↔ errT (el l i) = 0 ∧ ¬ twiceP l i := by
 unfold err1
 by_cases h : errT (el l i) = 0
 ·rw [if_neg fun h' => h' h]
  by_cases h2 : twiceP l i
  ·rw [if_pos h2]; exact ⟨fun h => by omega, fun h' => absurd h2 h'.2⟩
  ·rw [if_neg h2]; exact ⟨fun _ => ⟨h, h2⟩, fun _ => rfl⟩
 ·rw [if_pos h]; exact ⟨fun h' => absurd h' h, fun h' => absurd h'.1 h⟩
theorem bad_ok {l : D} (h : (badZ l).2 = 0) : l.len ≤ 16 ∧ ∀ i, i < l.len → errT (el l i) = 0 ∧ ¬ twiceP l i := by
 unfold badZ at h
 split at h
 ·omega
 ·exact ⟨by omega, fun i hi => err1_zero.1 (scanZ_zero l l.len 0 h i (by omega) (by omega))⟩
theorem bad_of {l : D} (hl : l.len ≤ 16) (h : ∀ i, i < l.len → errT (el l i) = 0 ∧ ¬ twiceP l i) : (badZ l).2 = 0 := by
 unfold badZ
 rw [if_neg (by omega)]
 exact scanZ_ok l l.len 0 fun j _ h2 => err1_zero.2 (h j (by omega))
theorem rising_len {o : D} {n : Int} (h : risingP o n) : (o.len : Int) ≤ n ∨ o.len = 0 := by
 have key : ∀ i, i < o.len → (i : Int) ≤ atI o i := fun i => by
  induction i with
  | zero => intro hi; exact (h.out 0 hi).1
  | succ i ih => intro hi; have h1 := ih (by omega); have h2 := (h.out (i + 1) hi).2.2 (by omega); rw [Nat.add_sub_cancel] at h2; omega
 rcases Nat.eq_zero_or_pos o.len with h0 | h0
 ·exact .inr h0
 ·left
  have h1 := key (o.len - 1) (by omega)
  have h2 := (h.out (o.len - 1) (by omega)).2.1
  omega
theorem decF_len : ∀ f n, (decF f n).length ≤ f
 | 0, _ => Nat.le_refl _
 | f + 1, n => by
  have ih := decF_len f (n / 10)
  rw [decF_succ]
  cases Nat.ble n 9 with
  | true => show 1 ≤ f + 1; omega
  | false => show (decF f (n / 10) ++ _).length ≤ f + 1; rw [List.length_append]; show _ + 1 ≤ _; omega
theorem decB_len (n : Int) : (decB n).length ≤ 5 := decF_len 5 _
theorem numsB_len (L : List D) : ∀ k, (numsB L k).length ≤ 6 * k
 | 0 => Nat.le_refl _
 | k + 1 => by
  have h1 := numsB_len L k
  have h2 := decB_len (nthD L k).asInt
  have h3 : spB.length = 1 := rfl
  unfold numsB
  simp only [List.length_append]
  omega
theorem wordB_len (sh : Int) : (wordB sh).length ≤ 9 := by
 unfold wordB
 split
 ·decide
 ·split
  ·decide
  ·split <;> decide
theorem tbl_len : tblB.length = 6 := rfl
theorem sp_len : spB.length = 1 := rfl
theorem nl_len : nlB.length = 1 := rfl
theorem head_len (t : D) : (headB t).length = 7 + (tName t).length := by unfold headB; simp only [List.length_append, tbl_len, sp_len]; omega
theorem line_len (t : D) : (lineB t).length ≤ 16 + (tName t).length := by
 have := wordB_len (tShape t)
 unfold lineB; simp only [List.length_append, head_len]; omega
theorem numsT_len (t : D) : (numsT t).length = 4 + (tOpen t).len := by unfold numsT; rw [List.length_append]; rfl
theorem table_len {t : D} (h : errT t = 0) : (tableB t).length ≤ 300 := by
 obtain ⟨h1, h2, h3, _⟩ := errT_ok h
 have b3 : sizeT' t ≤ 24 := (size_bnd h2).2.2
 have ho := rising_len h3
 have h0 := line_len t
 have h4 := numsB_len (numsT t) (numsT t).length
 have h5 := numsT_len t
 have h6 := h1.out.2.1
 unfold tableB
 simp only [List.length_append, nl_len]
 omega
theorem fmtL_len (l : D) : ∀ n, (∀ k, k < n → errT (el l k) = 0) → (fmtL l n).length ≤ 300 * n
 | 0, _ => Nat.le_refl _
 | n + 1, h => by
  have h1 := fmtL_len l n (fun k hk => h k (by omega))
  have h2 := table_len (h n (by omega))
  unfold fmtL
  rw [List.length_append]
  omega
theorem fmt_pieces {l : D} {n : Nat} (h : ∀ k, k < n → errT (el l k) = 0) : piecesOf 10 (fmtL l n) = ((List.range n).map fun k => lineT (el l k)) ++ [[]] := by
 rw [fmt_lines]
 refine pieces_lines 10 _ fun w hw => ?_
 obtain ⟨k, hk, rfl⟩ := List.mem_map.1 hw
 exact line_free (h k (List.mem_range.1 hk))
structure fmtF (l : D) (n : Nat) (s : List UInt8) : Prop where
 out : s.count 10 = n ∧ lastE s ∧ nLines s = n ∧ ∀ k, k < n → lnAt s k = lineT (el l k)
theorem fmt_facts {l : D} {n : Nat} (h : ∀ k, k < n → errT (el l k) = 0) : fmtF l n (fmtL l n) := by
 have hp := fmt_pieces h
 have hc : (fmtL l n).count 10 = n := by
  have := pieces_len 10 (fmtL l n)
  rw [hp, List.length_append, List.length_map, List.length_range] at this
  have h1 : ([[]] : List (List UInt8)).length = 1 := rfl
  omega
 have hL : lastE (fmtL l n) := by
  unfold lastE pAt; rw [hp, hc, List.getElem?_append_right (by rw [List.length_map, List.length_range]; exact Nat.le_refl _), List.length_map, List.length_range, Nat.sub_self]; rfl
 refine ⟨hc, hL, by rw [nL_last hL, hc], fun k hk => ?_⟩
 unfold lnAt pAt
 rw [hp, List.getElem?_append_left (by rw [List.length_map, List.length_range]; exact hk), List.getElem?_map, List.getElem?_range hk]; rfl
theorem fmt_err {l : D} (h : (badZ l).2 = 0) : ∀ k, k < l.len → errK (fmtL l l.len) k = 0 := fun k hk => by
 obtain ⟨hl, hb⟩ := bad_ok h
 obtain ⟨f1, f2, f3, f4⟩ := (fmt_facts (l := l) (n := l.len) fun k hk => (hb k hk).1).out
 have hk0 := (hb k hk).1
 have hL : lineP (lnAt (fmtL l l.len) k) := by rw [f4 k hk]; exact line_p hk0
 have hs : ∀ j, j < l.len → sameT (tabD (lnAt (fmtL l l.len) j)) (el l j) := fun j hj => by rw [f4 j hj]; exact line_tab (hb j hj).1
 rw [(ez_err hL (by omega)).2 (errT_same (hs k hk) hk0), if_neg, if_neg (by omega)]
 intro ht
 obtain ⟨j, h1, h2⟩ := ht.out
 have h1 : j < (tabsL (fmtL l l.len) k).length := h1
 rw [tabs_len] at h1
 have h2 : tName (nthD (tabsL (fmtL l l.len) k) j) = _ := h2
 rw [tabs_nth _ h1] at h2
 refine (hb k hk).2 ⟨j, h1, ?_⟩
 have e1 := (hs j (by omega)).out.1
 have e2 := (hs k hk).out.1
 exact e1.symm.trans (h2.trans e2)
theorem par_fmt {l : D} (h : (badZ l).2 = 0) : sameAll (parD (fmtL l l.len)) l ∧ parL (fmtL l l.len) = 0 ∧ parE (fmtL l l.len) = 0 ∧ (fmtL l l.len).count 10 = l.len ∧ (fmtL l l.len).length ≤ 4800 := by
 obtain ⟨hl, hb⟩ := bad_ok h
 obtain ⟨f1, f2, f3, f4⟩ := (fmt_facts (l := l) (n := l.len) fun k hk => (hb k hk).1).out
 have hlen := fmtL_len l l.len fun k hk => (hb k hk).1
 obtain ⟨p1, p2, p3, _⟩ := fin_ok (s := fmtL l l.len) (k := l.len) (by omega) (fmt_err h) f3.symm
 refine ⟨?_, p2.symm, p3.symm, f1, by omega⟩
 rw [p1]
 refine ⟨by rw [listD_len, tabs_len], fun i hi => ?_⟩
 rw [listD_len, tabs_len] at hi
 show sameT (nthD (listD _).asList i) (el l i)
 rw [listD_as, tabs_nth _ hi, f4 i hi]
 exact line_tab (hb i hi).1
theorem line_back {w : List UInt8} (hL : lineP w) (he : errT (tabD w) = 0) : lineT (tabD w) = w := by
 obtain ⟨h7, h0, h1, h2, h3⟩ := hL.out
 have hn := numsL_len w
 have hN : numsT (tabD w) = numsL w := by
  have e0 := numsL_nth w 0 (by omega)
  have hr : (tOpen (tabD w)).asList = (numsL w).drop 4 := listD_as _
  unfold numsT nums4
  rw [hr]
  have key : ∀ j, j < (numsL w).length → ∃ z, nthD (numsL w) j = .int z := fun j hj => by
   unfold numsL at hj ⊢
   rw [nthD_get _ _ hj, List.getElem_map]; exact ⟨_, rfl⟩
  have kv : ∀ j, j < (numsL w).length → D.int (nAt w j) = nthD (numsL w) j := fun j hj => by
   obtain ⟨z, hz⟩ := key j hj
   rw [← numsL_nth w j (by omega), hz]; rfl
  have t4 : (numsL w).take 4 = [D.int (nAt w 0), .int (nAt w 1), .int (nAt w 2), .int (nAt w 3)] := by
   rw [kv 0 (by omega), kv 1 (by omega), kv 2 (by omega), kv 3 (by omega)]
   match hq : numsL w, (show 4 ≤ (numsL w).length by omega) with
   | a :: b :: c :: d :: r, _ => rfl
  exact (congrArg (· ++ (numsL w).drop 4) t4.symm).trans (List.take_append_drop 4 _)
 have hw : wordsT (tabD w) = piecesOf 32 w := by
  unfold wordsT
  rw [hN]
  have e3 : (numsL w).map (fun d => decB d.asInt) = (piecesOf 32 w).drop 3 := by
   unfold numsL
   rw [List.map_map]
   conv => rhs; rw [← List.map_id ((piecesOf 32 w).drop 3)]
   refine List.map_congr_left fun v hv => ?_
   obtain ⟨i, hi, e⟩ := List.mem_iff_getElem.1 hv
   rw [List.length_drop] at hi
   have ew : wrd w (3 + i) = v := by
    unfold wrd pAt; rw [List.getElem?_eq_getElem (by omega : 3 + i < (piecesOf 32 w).length)]
    rw [List.getElem_drop] at e; exact e
   have hp : numP v := by rw [← ew]; exact h3 (3 + i) (by omega) (by omega)
   show decB (numZ v) = v
   refine decB_val hp ?_
   have hm : D.int (numZ v) ∈ numsT (tabD w) := by rw [hN]; unfold numsL; exact List.mem_map.2 ⟨v, hv, rfl⟩
   exact (nums_in he _ hm).2
  rw [e3]
  have e2 : wordB (shapeZ (wrd w 2)) = wrd w 2 := by
   have := shape_lim (wrd w 2)
   exact (shape_iff (by omega) (by omega) _).2 rfl
  show tblW :: wrd w 1 :: wordB (shapeZ (wrd w 2)) :: _ = _
  rw [e2, ← h0]
  unfold wrd pAt
  match hq : piecesOf 32 w, (show 7 ≤ (piecesOf 32 w).length from h7) with
  | a :: b :: c :: r, _ => rfl
 unfold lineT
 rw [hw, join_pieces]
theorem fmt_par {s : List UInt8} (hs : ¬ 65536 < s.length) (h : parE s = 0) : (badZ (parD s)).2 = 0 ∧ fmtL (parD s) (parD s).len = s ∧ parL s = 0 := by
 have h2 : (scanP s (nLines s) 0).2 = 0 := by unfold parE endP at h; rw [if_neg hs] at h; exact h
 have hz := scan_zero s (nLines s) 0 h2
 have hz : ∀ k, k < nLines s → errK s k = 0 := fun k hk => hz k (by omega) (by omega)
 obtain ⟨p1, p2, p3, _⟩ := fin_ok hs hz rfl
 have hn : nLines s ≤ 16 := by
  rcases Nat.lt_or_ge 16 (nLines s) with h | h
  ·exact absurd (hz 16 h) (err16 s)
  ·exact h
 have hf : ∀ k, k < nLines s → formK s k ∧ errT (tabD (lnAt s k)) = 0 ∧ ¬ twiceN (.list (tabsL s k)) (wrd (lnAt s k) 1) := fun k hk => by
  have e := hz k hk
  unfold errK at e
  split at e
  ·omega
  ·rename_i h1
   split at e
   ·rename_i h2; exact absurd e h2
   ·rename_i h2
    split at e
    ·omega
    ·rename_i h3; exact ⟨Classical.not_not.1 h1, Classical.not_not.1 h2, h3⟩
 have hlast : lastE s := by
  refine Classical.byContradiction fun hl => ?_
  have e := nL_not hl
  have := (hf (s.count 10) (by omega)).1.out.2
  omega
 have hcn := nL_last hlast
 have hel : ∀ k, k < nLines s → el (parD s) k = tabD (lnAt s k) := fun k hk => by
  unfold el; rw [p1, listD_as, tabs_nth _ hk]
 have hlen : (parD s).len = nLines s := by rw [p1, listD_len, tabs_len]
 refine ⟨bad_of (by omega) fun i hi => ?_, ?_, p2.symm⟩
 ·rw [hlen] at hi
  obtain ⟨g1, g2, g3⟩ := hf i hi
  refine ⟨by rw [hel i hi]; exact g2, fun ht => g3 ?_⟩
  obtain ⟨k, hk, e⟩ := ht.out
  rw [hel k (by omega), hel i hi] at e
  exact ⟨k, by show k < (tabsL s i).length; rw [tabs_len]; exact hk, by show tName (nthD (tabsL s i) k) = _; rw [tabs_nth _ hk]; exact e⟩
 ·rw [hlen, fmt_lines]
  have hP := pieces_len 10 s
  have e1 : ((List.range (nLines s)).map fun k => lineT (el (parD s) k)) = (piecesOf 10 s).take (nLines s) := by
   refine List.ext_getElem (by rw [List.length_map, List.length_range, List.length_take]; omega) fun k h1 h2 => ?_
   rw [List.length_map, List.length_range] at h1
   rw [List.getElem_map, List.getElem_range, List.getElem_take, hel k h1, line_back (hf k h1).1.out.1 (hf k h1).2.1]
   unfold lnAt pAt; rw [List.getElem?_eq_getElem (by omega)]; rfl
  have e2 : piecesOf 10 s = (piecesOf 10 s).take (nLines s) ++ [[]] := by
   have hq : nLines s < (piecesOf 10 s).length := by omega
   have e3 : (piecesOf 10 s)[nLines s] = [] := by
    have := hlast
    unfold lastE pAt at this
    rw [← hcn, List.getElem?_eq_getElem hq] at this; exact this
   have := List.take_succ_eq_append_getElem hq
   rw [e3, take_all _ _ (by omega)] at this; exact this
  rw [e1, ← lines_join, ← e2, join_pieces]
end Go.Ev

end

section
open Go.Proofs
namespace Go.Ev
set_option maxRecDepth 100000
set_option maxHeartbeats 4000000
def letter (i : Nat) : List UInt8 := [UInt8.ofNat (97 + i)]
def madeRow (c : D) (i : Nat) : D := .sct [.str (letter i), .int (mSh (cSh c)), .int (mA (cSh c) (cA c)), .int (mB (cSh c) (cA c) (cB c)), openD (cO c) (mN (cSh c) (cA c) (cB c)), .int (7 * i), .int (100 - i)]
def madeL (l : D) (x : Nat) : List D := (List.range x).map fun i => madeRow (el l i) i
def madeD (l : D) : D := listD (madeL l (min l.len 16))
structure codeP (c : D) : Prop where
 out : byteP (cSh c) ∧ byteP (cA c) ∧ byteP (cB c) ∧ bytesP (cO c)
structure codesP (l : D) : Prop where
 out : ∀ i, i < l.len → codeP (el l i)
structure okHall (l : D) : Prop where
 out : (badZ l).2 = 0
theorem err1_ok {l : D} {x : Nat} (h : errT (el l x) = 0) (ht : ¬ twiceP l x) : err1 l x = 0 := err1_zero.2 ⟨h, ht⟩
theorem mSh_lim {sh : Int} (h : byteP sh) : 1 ≤ mSh sh ∧ mSh sh ≤ 4 := by
 have := h.out
 have h1 := Int.tmod_nonneg 4 this.1
 have h2 := Int.tmod_lt_of_pos sh (show (0 : Int) < 4 by decide)
 unfold mSh; omega
theorem made_size {sh a b : Int} (hs : byteP sh) (ha : byteP a) (hb : byteP b) : sizeZ (mSh sh) (mA sh a) (mB sh a b) = mN sh a b ∧ 1 ≤ mN sh a b ∧ mN sh a b ≤ 24 := by
 have h := mSh_lim hs
 have ha := ha.out
 have hb := hb.out
 have t1 : ∀ m : Int, 0 < m → 0 ≤ a.tmod m ∧ a.tmod m < m := fun m hm => ⟨Int.tmod_nonneg m ha.1, Int.tmod_lt_of_pos a hm⟩
 have t2 : ∀ m : Int, 0 < m → 0 ≤ b.tmod m ∧ b.tmod m < m := fun m hm => ⟨Int.tmod_nonneg m hb.1, Int.tmod_lt_of_pos b hm⟩
 have a24 := t1 24 (by decide)
 have a11 := t1 11 (by decide)
 have a8 := t1 8 (by decide)
 have b8 := t2 8 (by decide)
 have b3 := t2 3 (by decide)
 have bA := t2 (1 + a.tmod 24 + 1) (by omega)
 rcases (by omega : mSh sh = 1 ∨ mSh sh = 2 ∨ mSh sh = 3 ∨ mSh sh = 4) with e | e | e | e
 ·have eA : mA sh a = 1 + a.tmod 24 := by unfold mA; rw [if_pos e]
  have eB : mB sh a b = 0 := by unfold mB; rw [if_pos e]
  have eN : mN sh a b = 1 + a.tmod 24 := by unfold mN; rw [if_pos e, eA]
  rw [eN, eA, eB, e]; unfold sizeZ; rw [if_pos ⟨rfl, by omega, rfl⟩]; omega
 ·have e1 : ¬ mSh sh = 1 := by omega
  have eA : mA sh a = 1 + a.tmod 11 := by unfold mA; rw [if_neg e1, if_pos e]
  have eB : mB sh a b = b.tmod 3 := by unfold mB; rw [if_neg e1, if_pos e]
  have eN : mN sh a b = 2 * (1 + a.tmod 11) + b.tmod 3 := by unfold mN; rw [if_neg e1, if_pos e, eA, eB]
  rw [eN, eA, eB, e]; unfold sizeZ; rw [if_neg (by omega), if_pos ⟨rfl, by omega, by omega, by omega⟩]; omega
 ·have e1 : ¬ mSh sh = 1 := by omega
  have e2 : ¬ mSh sh = 2 := by omega
  have eA : mA sh a = 1 + a.tmod 8 := by unfold mA; rw [if_neg e1, if_neg e2, if_pos e]
  have eB : mB sh a b = 1 + b.tmod 8 := by unfold mB; rw [if_neg e1, if_neg e2, if_pos e]
  have eN : mN sh a b = 1 + a.tmod 8 + 2 * (1 + b.tmod 8) := by unfold mN; rw [if_neg e1, if_neg e2, if_pos e, eA, eB]
  rw [eN, eA, eB, e]; unfold sizeZ; rw [if_neg (by omega), if_neg (by omega), if_pos ⟨rfl, by omega, by omega, by omega⟩]; omega
 ·have e1 : ¬ mSh sh = 1 := by omega
  have e2 : ¬ mSh sh = 2 := by omega
  have e3 : ¬ mSh sh = 3 := by omega
  have eA : mA sh a = 1 + a.tmod 24 := by unfold mA; rw [if_neg e1, if_neg e2, if_neg e3]
  have eB : mB sh a b = b.tmod (1 + a.tmod 24 + 1) := by unfold mB; rw [if_neg e1, if_neg e2, if_neg e3]
  have eN : mN sh a b = 1 + a.tmod 24 := by unfold mN; rw [if_neg e1, if_neg e2, if_neg e3, eA]
  rw [eN, eA, eB, e]; unfold sizeZ; rw [if_neg (by omega), if_neg (by omega), if_neg (by omega), if_pos ⟨rfl, by omega, by omega, by omega⟩]; omega
theorem open_rising {o : D} {n : Int} (hn : 0 < n) (ho : bytesP o) : risingP (openD o n) n ∧ (openD o n).len ≤ 24 := by
 have hx : min o.len 24 ≤ o.len := Nat.min_le_left _ _
 have h1 : (openZ o n).Pairwise (· < ·) := (sorted_rises (openI o n (min o.len 24))).1
 have h2 : ∀ y ∈ openZ o n, y ∈ openI o n (min o.len 24) := (sorted_rises (openI o n (min o.len 24))).2
 have hlen : (openD o n).len = (openZ o n).length := by
  show (listD _).asList.length = _
  rw [listD_as, List.length_map]
 have hat : ∀ i (h : i < (openZ o n).length), atI (openD o n) i = (openZ o n)[i] := fun i h => by
  show (nthD (listD _).asList i).asInt = _
  rw [listD_as]; unfold nthD
  rw [List.getElem?_map, List.getElem?_eq_getElem h]; rfl
 refine ⟨⟨fun i hi => ?_⟩, ?_⟩
 ·rw [hlen] at hi
  have hm : (openZ o n)[i] ∈ openI o n (min o.len 24) := h2 _ (List.getElem_mem hi)
  obtain ⟨j, hj, e⟩ := List.mem_map.1 hm
  have e : (atI o j).tmod n = (openZ o n)[i] := e
  have hb := ho.out j (by have := List.mem_range.1 hj; omega)
  have e1 := Int.tmod_nonneg n hb.1
  have e2 := Int.tmod_lt_of_pos (atI o j) hn
  rw [hat i hi]
  refine ⟨by omega, by omega, fun h0 => ?_⟩
  rw [hat (i - 1) (by omega)]
  exact List.pairwise_iff_getElem.1 h1 (i - 1) i (by omega) hi (by omega)
 ·rw [hlen]
  have : (openZ o n).length ≤ ((openI o n (min o.len 24)).mergeSort fun x y => decide (x ≤ y)).length := cmp_le _
  rw [len_srt] at this; omega
theorem letter_name {i : Nat} (h : i < 16) : nameP (letter i) := ⟨⟨by simp [letter], by simp [letter], fun k hk => by
 have hk0 : k = 0 := by simp [letter] at hk; omega
 subst hk0
 rcases (by omega : i = 0 ∨ i = 1 ∨ i = 2 ∨ i = 3 ∨ i = 4 ∨ i = 5 ∨ i = 6 ∨ i = 7 ∨ i = 8 ∨ i = 9 ∨ i = 10 ∨ i = 11 ∨ i = 12 ∨ i = 13 ∨ i = 14 ∨ i = 15) with e | e | e | e | e | e | e | e | e | e | e | e | e | e | e | e <;> subst e <;> decide⟩⟩
theorem letter_inj {i j : Nat} (hi : i < 16) (hj : j < 16) (h : letter i = letter j) : i = j := by
 unfold letter at h
 have h := (List.cons.inj h).1
 have h2 : (UInt8.ofNat (97 + i)).toNat = (UInt8.ofNat (97 + j)).toNat := by rw [h]
 simp [UInt8.toNat_ofNat'] at h2
 omega
theorem made_err {c : D} {i : Nat} (h : codeP c) (hi : i < 16) : errT (madeRow c i) = 0 ∧ sizeT' (madeRow c i) = mN (cSh c) (cA c) (cB c) ∧ (tOpen (madeRow c i)).len ≤ 24 := by
 obtain ⟨h1, h2, h3, h4⟩ := h.out
 obtain ⟨e, e1, e2⟩ := made_size h1 h2 h3
 obtain ⟨r1, r2⟩ := open_rising (n := mN (cSh c) (cA c) (cB c)) (by omega) h4
 refine ⟨?_, e, r2⟩
 show errZ (letter i) (mSh (cSh c)) (mA (cSh c) (cA c)) (mB (cSh c) (cA c) (cB c)) (openD (cO c) (mN (cSh c) (cA c) (cB c))) (7 * i) (100 - i) = 0
 unfold errZ
 rw [if_neg (fun hn => hn (letter_name hi)), e, if_neg (by omega), if_neg (fun hn => hn r1), if_neg (fun hn => hn (by unfold placeP; omega))]
theorem made_len (l : D) : (madeD l).len = min l.len 16 := by
 show (listD _).asList.length = _
 rw [listD_as]; simp [madeL]
theorem made_el (l : D) {i : Nat} (h : i < min l.len 16) : el (madeD l) i = madeRow (el l i) i := by
 show nthD (listD _).asList i = _
 rw [listD_as]; unfold nthD madeL
 rw [List.getElem?_map, List.getElem?_range h]; rfl
theorem scan_zero0 (l : D) (h : ∀ k, k < l.len → err1 l k = 0) : ∀ f i, i + f ≤ l.len → scanZ l f i = (0, 0)
 | 0, _, _ => rfl
 | f + 1, i, hf => by
  unfold scanZ
  rw [if_neg (fun hn => hn (h i (by omega)))]
  exact scan_zero0 l h f (i + 1) (by omega)
theorem made_ok {l : D} (h : codesP l) : okHall (madeD l) := ⟨by
 have hl := made_len l
 unfold badZ
 rw [if_neg (by omega), scan_zero0 (madeD l) (fun k hk => ?_) _ 0 (by omega)]
 rw [hl] at hk
 refine err1_ok ?_ fun ⟨j, hj, e⟩ => ?_
 ·rw [made_el l hk]; exact (made_err (h.out k (by omega)) (by omega)).1
 ·rw [made_el l hk, made_el l (by omega)] at e
  have := letter_inj (show j < 16 by omega) (show k < 16 by omega) e
  omega⟩
theorem made_small {l : D} (h : codesP l) : smallD (madeD l) := ⟨by rw [made_len]; omega, fun i hi => by
 rw [made_len] at hi
 rw [made_el l hi]
 have := (made_err (h.out i (by omega)) (show i < 16 by omega)).2.2
 omega⟩
theorem madeL_len (l : D) (x : Nat) : (madeL l x).length = x := by simp [madeL]
theorem madeL_succ (l : D) (x : Nat) : madeL l (x + 1) = madeL l x ++ [madeRow (el l x) x] := by unfold madeL; rw [List.range_succ, List.map_append]; rfl
theorem wrap8 {n : Int} (h1 : 0 ≤ n) (h2 : n < 256) : IntKind.u8.wrap n = n := by
 simp only [IntKind.wrap, IntKind.bits, IntKind.signed, Bool.false_and, Bool.false_eq_true, if_false]
 omega
theorem byteL_one {n : Int} (h1 : 0 ≤ n) (h2 : n < 256) : byteL [D.int n] := ⟨fun d hd => ⟨n.toNat, by omega, by rw [List.mem_singleton.1 hd]; congr 1; omega⟩⟩
theorem bytes_one (x : Nat) : bytesD [D.int (97 + (x : Int))] = letter x := by
 unfold bytesD letter
 simp only [List.map_cons, List.map_nil, D.asInt]
 congr 2
end Go.Ev

end
