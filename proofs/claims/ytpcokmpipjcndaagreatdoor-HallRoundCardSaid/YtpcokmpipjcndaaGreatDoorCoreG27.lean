/-
  Part of the engine that the claim is proved with: it states nothing of the document by itself.
-/
import Derived.Test.YtpcokmpipjcndaaGreatDoorCoreG26

section
open Go.Proofs
namespace Go.Ev
set_option maxRecDepth 100000
set_option maxHeartbeats 4000000
theorem vc32 : ∀ (s : List UInt8), symFun (ctx hp2 hpAnn) (4 : Nat) (32 : FuncId) [V.str s] (V.tup [rowV (lineP s) s, V.prop (lineP s)]) = (s.length ≤ (100000 : Nat) ∧ (((↑(strsD (piecesOf (32 :
 UInt8) s)).length : Int) < (7 : Int) → False) → (0 : Int) ≤ (0 : Int) ∧ (0 : Int) < (↑(strsD (piecesOf (32 : UInt8) s)).length : Int) ∧ ((((nthD (strsD (piecesOf (32 : UInt8) s)) (Int.toNat (0 :
 Int))).asStr = [(116 : UInt8), (97 : UInt8), (98 : UInt8), (108 : UInt8), (101 : UInt8)] → False) → False) → (0 : Int) ≤ (1 : Int) ∧ (1 : Int) < (↑(strsD (piecesOf (32 : UInt8) s)).length : Int) ∧
 ((nthD (strsD (piecesOf (32 : UInt8) s)) (Int.toNat (1 : Int))).asStr = [] → ([] = pS (lineP s) (wrd s (1 : Nat)) ∧ (0 : Int) = pI (lineP s) (shapeZ (wrd s (2 : Nat))) ∧ (0 : Int) = pI (lineP s) (nAt
 s (0 : Nat)) ∧ (0 : Int) = pI (lineP s) (nAt s (1 : Nat)) ∧ D.nil = pD (lineP s) (restD s) ∧ (0 : Int) = pI (lineP s) (nAt s (2 : Nat)) ∧ (0 : Int) = pI (lineP s) (nAt s (3 : Nat)) ∧ True) ∧ (false =
 true ↔ lineP s) ∧ True) ∧ (((nthD (strsD (piecesOf (32 : UInt8) s)) (Int.toNat (1 : Int))).asStr = [] → False) → (0 : Int) ≤ (2 : Int) ∧ (2 : Int) < (↑(strsD (piecesOf (32 : UInt8) s)).length : Int) ∧
 True ∧ (0 : Int) ≤ (3 : Int) ∧ (3 : Int) ≤ (↑(strsD (piecesOf (32 : UInt8) s)).length : Int) ∧ (↑(strsD (piecesOf (32 : UInt8) s)).length : Int) ≤ (↑(strsD (piecesOf (32 : UInt8) s)).length : Int) ∧
 ((D.list (strsD (piecesOf (32 : UInt8) s))).sub (Int.toNat (3 : Int)) ((strsD (piecesOf (32 : UInt8) s)).length - Int.toNat (3 : Int))).len ≤ (100000 : Nat) ∧ ((((shapeZ (nthD (strsD (piecesOf (32 :
 UInt8) s)) (Int.toNat (2 : Int))).asStr = (0 : Int) → False) → False) → False) → ((numsP ((D.list (strsD (piecesOf (32 : UInt8) s))).sub (Int.toNat (3 : Int)) ((strsD (piecesOf (32 : UInt8) s)).length
 - Int.toNat (3 : Int))) → False) → ([] = pS (lineP s) (wrd s (1 : Nat)) ∧ (0 : Int) = pI (lineP s) (shapeZ (wrd s (2 : Nat))) ∧ (0 : Int) = pI (lineP s) (nAt s (0 : Nat)) ∧ (0 : Int) = pI (lineP s)
 (nAt s (1 : Nat)) ∧ D.nil = pD (lineP s) (restD s) ∧ (0 : Int) = pI (lineP s) (nAt s (2 : Nat)) ∧ (0 : Int) = pI (lineP s) (nAt s (3 : Nat)) ∧ True) ∧ (false = true ↔ lineP s) ∧ True) ∧ (((numsP
 ((D.list (strsD (piecesOf (32 : UInt8) s))).sub (Int.toNat (3 : Int)) ((strsD (piecesOf (32 : UInt8) s)).length - Int.toNat (3 : Int))) → False) → False) → (0 : Int) ≤ (0 : Int) ∧ (0 : Int) < (↑(pD
 (numsP ((D.list (strsD (piecesOf (32 : UInt8) s))).sub (Int.toNat (3 : Int)) ((strsD (piecesOf (32 : UInt8) s)).length - Int.toNat (3 : Int)))) (D.list (List.map (fun (d : D) => D.int (numZ d.asStr))
 ((D.list (strsD (piecesOf (32 : UInt8) s))).sub (Int.toNat (3 : Int)) ((strsD (piecesOf (32 : UInt8) s)).length - Int.toNat (3 : Int))).asList))).len : Int) ∧ (0 : Int) ≤ (1 : Int) ∧ (1 : Int) < (↑(pD
 (numsP ((D.list (strsD (piecesOf (32 : UInt8) s))).sub (Int.toNat (3 : Int)) ((strsD (piecesOf (32 : UInt8) s)).length - Int.toNat (3 : Int)))) (D.list (List.map (fun (d : D) => D.int (numZ d.asStr))
 ((D.list (strsD (piecesOf (32 : UInt8) s))).sub (Int.toNat (3 : Int)) ((strsD (piecesOf (32 : UInt8) s)).length - Int.toNat (3 : Int))).asList))).len : Int) ∧ (0 : Int) ≤ (2 : Int) ∧ (2 : Int) < (↑(pD
 (numsP ((D.list (strsD (piecesOf (32 : UInt8) s))).sub (Int.toNat (3 : Int)) ((strsD (piecesOf (32 : UInt8) s)).length - Int.toNat (3 : Int)))) (D.list (List.map (fun (d : D) => D.int (numZ d.asStr))
 ((D.list (strsD (piecesOf (32 : UInt8) s))).sub (Int.toNat (3 : Int)) ((strsD (piecesOf (32 : UInt8) s)).length - Int.toNat (3 : Int))).asList))).len : Int) ∧ (0 : Int) ≤ (3 : Int) ∧ (3 : Int) < (↑(pD
 (numsP ((D.list (strsD (piecesOf (32 : UInt8) s))).sub (Int.toNat (3 : Int)) ((strsD (piecesOf (32 : UInt8) s)).length - Int.toNat (3 : Int)))) (D.list (List.map (fun (d : D) => D.int (numZ d.asStr))
 ((D.list (strsD (piecesOf (32 : UInt8) s))).sub (Int.toNat (3 : Int)) ((strsD (piecesOf (32 : UInt8) s)).length - Int.toNat (3 : Int))).asList))).len : Int) ∧ (0 : Int) ≤ (1 : Int) ∧ (1 : Int) <
 (↑(strsD (piecesOf (32 : UInt8) s)).length : Int) ∧ (nthD (strsD (piecesOf (32 : UInt8) s)) (Int.toNat (1 : Int))).asStr.length ≤ (100000 : Nat) ∧ (0 : Int) ≤ (4 : Int) ∧ (4 : Int) ≤ (↑(pD (numsP
 ((D.list (strsD (piecesOf (32 : UInt8) s))).sub (Int.toNat (3 : Int)) ((strsD (piecesOf (32 : UInt8) s)).length - Int.toNat (3 : Int)))) (D.list (List.map (fun (d : D) => D.int (numZ d.asStr))
 ((D.list (strsD (piecesOf (32 : UInt8) s))).sub (Int.toNat (3 : Int)) ((strsD (piecesOf (32 : UInt8) s)).length - Int.toNat (3 : Int))).asList))).len : Int) ∧ (↑(pD (numsP ((D.list (strsD (piecesOf
 (32 : UInt8) s))).sub (Int.toNat (3 : Int)) ((strsD (piecesOf (32 : UInt8) s)).length - Int.toNat (3 : Int)))) (D.list (List.map (fun (d : D) => D.int (numZ d.asStr)) ((D.list (strsD (piecesOf (32 :
 UInt8) s))).sub (Int.toNat (3 : Int)) ((strsD (piecesOf (32 : UInt8) s)).length - Int.toNat (3 : Int))).asList))).len : Int) ≤ (↑(pD (numsP ((D.list (strsD (piecesOf (32 : UInt8) s))).sub (Int.toNat
 (3 : Int)) ((strsD (piecesOf (32 : UInt8) s)).length - Int.toNat (3 : Int)))) (D.list (List.map (fun (d : D) => D.int (numZ d.asStr)) ((D.list (strsD (piecesOf (32 : UInt8) s))).sub (Int.toNat (3 :
 Int)) ((strsD (piecesOf (32 : UInt8) s)).length - Int.toNat (3 : Int))).asList))).len : Int) ∧ (((pD (numsP ((D.list (strsD (piecesOf (32 : UInt8) s))).sub (Int.toNat (3 : Int)) ((strsD (piecesOf (32
 : UInt8) s)).length - Int.toNat (3 : Int)))) (D.list (List.map (fun (d : D) => D.int (numZ d.asStr)) ((D.list (strsD (piecesOf (32 : UInt8) s))).sub (Int.toNat (3 : Int)) ((strsD (piecesOf (32 :
 UInt8) s)).length - Int.toNat (3 : Int))).asList))).sub (Int.toNat (4 : Int)) ((pD (numsP ((D.list (strsD (piecesOf (32 : UInt8) s))).sub (Int.toNat (3 : Int)) ((strsD (piecesOf (32 : UInt8)
 s)).length - Int.toNat (3 : Int)))) (D.list (List.map (fun (d : D) => D.int (numZ d.asStr)) ((D.list (strsD (piecesOf (32 : UInt8) s))).sub (Int.toNat (3 : Int)) ((strsD (piecesOf (32 : UInt8)
 s)).length - Int.toNat (3 : Int))).asList))).len - Int.toNat (4 : Int))).len = (0 : Nat) → ((nthD (strsD (piecesOf (32 : UInt8) s)) (Int.toNat (1 : Int))).asStr = pS (lineP s) (wrd s (1 : Nat)) ∧
 shapeZ (nthD (strsD (piecesOf (32 : UInt8) s)) (Int.toNat (2 : Int))).asStr = pI (lineP s) (shapeZ (wrd s (2 : Nat))) ∧ (el (pD (numsP ((D.list (strsD (piecesOf (32 : UInt8) s))).sub (Int.toNat (3 :
 Int)) ((strsD (piecesOf (32 : UInt8) s)).length - Int.toNat (3 : Int)))) (D.list (List.map (fun (d : D) => D.int (numZ d.asStr)) ((D.list (strsD (piecesOf (32 : UInt8) s))).sub (Int.toNat (3 : Int))
 ((strsD (piecesOf (32 : UInt8) s)).length - Int.toNat (3 : Int))).asList))) (Int.toNat (0 : Int))).asInt = pI (lineP s) (nAt s (0 : Nat)) ∧ (el (pD (numsP ((D.list (strsD (piecesOf (32 : UInt8)
 s))).sub (Int.toNat (3 : Int)) ((strsD (piecesOf (32 : UInt8) s)).length - Int.toNat (3 : Int)))) (D.list (List.map (fun (d : D) => D.int (numZ d.asStr)) ((D.list (strsD (piecesOf (32 : UInt8)
 s))).sub (Int.toNat (3 : Int)) ((strsD (piecesOf (32 : UInt8) s)).length - Int.toNat (3 : Int))).asList))) (Int.toNat (1 : Int))).asInt = pI (lineP s) (nAt s (1 : Nat)) ∧ D.nil = pD (lineP s) (restD
 s) ∧ (el (pD (numsP ((D.list (strsD (piecesOf (32 : UInt8) s))).sub (Int.toNat (3 : Int)) ((strsD (piecesOf (32 : UInt8) s)).length - Int.toNat (3 : Int)))) (D.list (List.map (fun (d : D) => D.int
 (numZ d.asStr)) ((D.list (strsD (piecesOf (32 : UInt8) s))).sub (Int.toNat (3 : Int)) ((strsD (piecesOf (32 : UInt8) s)).length - Int.toNat (3 : Int))).asList))) (Int.toNat (2 : Int))).asInt = pI
 (lineP s) (nAt s (2 : Nat)) ∧ (el (pD (numsP ((D.list (strsD (piecesOf (32 : UInt8) s))).sub (Int.toNat (3 : Int)) ((strsD (piecesOf (32 : UInt8) s)).length - Int.toNat (3 : Int)))) (D.list (List.map
 (fun (d : D) => D.int (numZ d.asStr)) ((D.list (strsD (piecesOf (32 : UInt8) s))).sub (Int.toNat (3 : Int)) ((strsD (piecesOf (32 : UInt8) s)).length - Int.toNat (3 : Int))).asList))) (Int.toNat (3 :
 Int))).asInt = pI (lineP s) (nAt s (3 : Nat)) ∧ True) ∧ (true = true ↔ lineP s) ∧ True) ∧ ((0 : Nat) < ((pD (numsP ((D.list (strsD (piecesOf (32 : UInt8) s))).sub (Int.toNat (3 : Int)) ((strsD
 (piecesOf (32 : UInt8) s)).length - Int.toNat (3 : Int)))) (D.list (List.map (fun (d : D) => D.int (numZ d.asStr)) ((D.list (strsD (piecesOf (32 : UInt8) s))).sub (Int.toNat (3 : Int)) ((strsD
 (piecesOf (32 : UInt8) s)).length - Int.toNat (3 : Int))).asList))).sub (Int.toNat (4 : Int)) ((pD (numsP ((D.list (strsD (piecesOf (32 : UInt8) s))).sub (Int.toNat (3 : Int)) ((strsD (piecesOf (32 :
 UInt8) s)).length - Int.toNat (3 : Int)))) (D.list (List.map (fun (d : D) => D.int (numZ d.asStr)) ((D.list (strsD (piecesOf (32 : UInt8) s))).sub (Int.toNat (3 : Int)) ((strsD (piecesOf (32 : UInt8)
 s)).length - Int.toNat (3 : Int))).asList))).len - Int.toNat (4 : Int))).len → ((pD (numsP ((D.list (strsD (piecesOf (32 : UInt8) s))).sub (Int.toNat (3 : Int)) ((strsD (piecesOf (32 : UInt8)
 s)).length - Int.toNat (3 : Int)))) (D.list (List.map (fun (d : D) => D.int (numZ d.asStr)) ((D.list (strsD (piecesOf (32 : UInt8) s))).sub (Int.toNat (3 : Int)) ((strsD (piecesOf (32 : UInt8)
 s)).length - Int.toNat (3 : Int))).asList))).sub (Int.toNat (4 : Int)) ((pD (numsP ((D.list (strsD (piecesOf (32 : UInt8) s))).sub (Int.toNat (3 : Int)) ((strsD (piecesOf (32 : UInt8) s)).length -
 Int.toNat (3 : Int)))) (D.list (List.map (fun (d : D) => D.int (numZ d.asStr)) ((D.list (strsD (piecesOf (32 : UInt8) s))).sub (Int.toNat (3 : Int)) ((strsD (piecesOf (32 : UInt8) s)).length -
 Int.toNat (3 : Int))).asList))).len - Int.toNat (4 : Int))).len ≤ (16777216 : Nat) ∧ ((nthD (strsD (piecesOf (32 : UInt8) s)) (Int.toNat (1 : Int))).asStr = pS (lineP s) (wrd s (1 : Nat)) ∧ shapeZ
 (nthD (strsD (piecesOf (32 : UInt8) s)) (Int.toNat (2 : Int))).asStr = pI (lineP s) (shapeZ (wrd s (2 : Nat))) ∧ (el (pD (numsP ((D.list (strsD (piecesOf (32 : UInt8) s))).sub (Int.toNat (3 : Int))
 ((strsD (piecesOf (32 : UInt8) s)).length - Int.toNat (3 : Int)))) (D.list (List.map (fun (d : D) => D.int (numZ d.asStr)) ((D.list (strsD (piecesOf (32 : UInt8) s))).sub (Int.toNat (3 : Int)) ((strsD
 (piecesOf (32 : UInt8) s)).length - Int.toNat (3 : Int))).asList))) (Int.toNat (0 : Int))).asInt = pI (lineP s) (nAt s (0 : Nat)) ∧ (el (pD (numsP ((D.list (strsD (piecesOf (32 : UInt8) s))).sub
 (Int.toNat (3 : Int)) ((strsD (piecesOf (32 : UInt8) s)).length - Int.toNat (3 : Int)))) (D.list (List.map (fun (d : D) => D.int (numZ d.asStr)) ((D.list (strsD (piecesOf (32 : UInt8) s))).sub
 (Int.toNat (3 : Int)) ((strsD (piecesOf (32 : UInt8) s)).length - Int.toNat (3 : Int))).asList))) (Int.toNat (1 : Int))).asInt = pI (lineP s) (nAt s (1 : Nat)) ∧ ((0 : Nat) + ((pD (numsP ((D.list
 (strsD (piecesOf (32 : UInt8) s))).sub (Int.toNat (3 : Int)) ((strsD (piecesOf (32 : UInt8) s)).length - Int.toNat (3 : Int)))) (D.list (List.map (fun (d : D) => D.int (numZ d.asStr)) ((D.list (strsD
 (piecesOf (32 : UInt8) s))).sub (Int.toNat (3 : Int)) ((strsD (piecesOf (32 : UInt8) s)).length - Int.toNat (3 : Int))).asList))).sub (Int.toNat (4 : Int)) ((pD (numsP ((D.list (strsD (piecesOf (32 :
 UInt8) s))).sub (Int.toNat (3 : Int)) ((strsD (piecesOf (32 : UInt8) s)).length - Int.toNat (3 : Int)))) (D.list (List.map (fun (d : D) => D.int (numZ d.asStr)) ((D.list (strsD (piecesOf (32 : UInt8)
 s))).sub (Int.toNat (3 : Int)) ((strsD (piecesOf (32 : UInt8) s)).length - Int.toNat (3 : Int))).asList))).len - Int.toNat (4 : Int))).len ≤ ((pD (numsP ((D.list (strsD (piecesOf (32 : UInt8) s))).sub
 (Int.toNat (3 : Int)) ((strsD (piecesOf (32 : UInt8) s)).length - Int.toNat (3 : Int)))) (D.list (List.map (fun (d : D) => D.int (numZ d.asStr)) ((D.list (strsD (piecesOf (32 : UInt8) s))).sub
 (Int.toNat (3 : Int)) ((strsD (piecesOf (32 : UInt8) s)).length - Int.toNat (3 : Int))).asList))).sub (Int.toNat (4 : Int)) ((pD (numsP ((D.list (strsD (piecesOf (32 : UInt8) s))).sub (Int.toNat (3 :
 Int)) ((strsD (piecesOf (32 : UInt8) s)).length - Int.toNat (3 : Int)))) (D.list (List.map (fun (d : D) => D.int (numZ d.asStr)) ((D.list (strsD (piecesOf (32 : UInt8) s))).sub (Int.toNat (3 : Int))
 ((strsD (piecesOf (32 : UInt8) s)).length - Int.toNat (3 : Int))).asList))).len - Int.toNat (4 : Int))).asList.length ∧ D.list (List.take ((pD (numsP ((D.list (strsD (piecesOf (32 : UInt8) s))).sub
 (Int.toNat (3 : Int)) ((strsD (piecesOf (32 : UInt8) s)).length - Int.toNat (3 : Int)))) (D.list (List.map (fun (d : D) => D.int (numZ d.asStr)) ((D.list (strsD (piecesOf (32 : UInt8) s))).sub
 (Int.toNat (3 : Int)) ((strsD (piecesOf (32 : UInt8) s)).length - Int.toNat (3 : Int))).asList))).sub (Int.toNat (4 : Int)) ((pD (numsP ((D.list (strsD (piecesOf (32 : UInt8) s))).sub (Int.toNat (3 :
 Int)) ((strsD (piecesOf (32 : UInt8) s)).length - Int.toNat (3 : Int)))) (D.list (List.map (fun (d : D) => D.int (numZ d.asStr)) ((D.list (strsD (piecesOf (32 : UInt8) s))).sub (Int.toNat (3 : Int))
 ((strsD (piecesOf (32 : UInt8) s)).length - Int.toNat (3 : Int))).asList))).len - Int.toNat (4 : Int))).len ((pD (numsP ((D.list (strsD (piecesOf (32 : UInt8) s))).sub (Int.toNat (3 : Int)) ((strsD
 (piecesOf (32 : UInt8) s)).length - Int.toNat (3 : Int)))) (D.list (List.map (fun (d : D) => D.int (numZ d.asStr)) ((D.list (strsD (piecesOf (32 : UInt8) s))).sub (Int.toNat (3 : Int)) ((strsD
 (piecesOf (32 : UInt8) s)).length - Int.toNat (3 : Int))).asList))).sub (Int.toNat (4 : Int)) ((pD (numsP ((D.list (strsD (piecesOf (32 : UInt8) s))).sub (Int.toNat (3 : Int)) ((strsD (piecesOf (32 :
 UInt8) s)).length - Int.toNat (3 : Int)))) (D.list (List.map (fun (d : D) => D.int (numZ d.asStr)) ((D.list (strsD (piecesOf (32 : UInt8) s))).sub (Int.toNat (3 : Int)) ((strsD (piecesOf (32 : UInt8)
 s)).length - Int.toNat (3 : Int))).asList))).len - Int.toNat (4 : Int))).asList) = pD (lineP s) (restD s)) ∧ (el (pD (numsP ((D.list (strsD (piecesOf (32 : UInt8) s))).sub (Int.toNat (3 : Int))
 ((strsD (piecesOf (32 : UInt8) s)).length - Int.toNat (3 : Int)))) (D.list (List.map (fun (d : D) => D.int (numZ d.asStr)) ((D.list (strsD (piecesOf (32 : UInt8) s))).sub (Int.toNat (3 : Int)) ((strsD
 (piecesOf (32 : UInt8) s)).length - Int.toNat (3 : Int))).asList))) (Int.toNat (2 : Int))).asInt = pI (lineP s) (nAt s (2 : Nat)) ∧ (el (pD (numsP ((D.list (strsD (piecesOf (32 : UInt8) s))).sub
 (Int.toNat (3 : Int)) ((strsD (piecesOf (32 : UInt8) s)).length - Int.toNat (3 : Int)))) (D.list (List.map (fun (d : D) => D.int (numZ d.asStr)) ((D.list (strsD (piecesOf (32 : UInt8) s))).sub
 (Int.toNat (3 : Int)) ((strsD (piecesOf (32 : UInt8) s)).length - Int.toNat (3 : Int))).asList))) (Int.toNat (3 : Int))).asInt = pI (lineP s) (nAt s (3 : Nat)) ∧ True) ∧ (true = true ↔ lineP s) ∧
 True))) ∧ (((shapeZ (nthD (strsD (piecesOf (32 : UInt8) s)) (Int.toNat (2 : Int))).asStr = (0 : Int) → False) → False) → ([] = pS (lineP s) (wrd s (1 : Nat)) ∧ (0 : Int) = pI (lineP s) (shapeZ (wrd s
 (2 : Nat))) ∧ (0 : Int) = pI (lineP s) (nAt s (0 : Nat)) ∧ (0 : Int) = pI (lineP s) (nAt s (1 : Nat)) ∧ D.nil = pD (lineP s) (restD s) ∧ (0 : Int) = pI (lineP s) (nAt s (2 : Nat)) ∧ (0 : Int) = pI
 (lineP s) (nAt s (3 : Nat)) ∧ True) ∧ (false = true ↔ lineP s) ∧ True))) ∧ (((nthD (strsD (piecesOf (32 : UInt8) s)) (Int.toNat (0 : Int))).asStr = [(116 : UInt8), (97 : UInt8), (98 : UInt8), (108 :
 UInt8), (101 : UInt8)] → False) → ([] = pS (lineP s) (wrd s (1 : Nat)) ∧ (0 : Int) = pI (lineP s) (shapeZ (wrd s (2 : Nat))) ∧ (0 : Int) = pI (lineP s) (nAt s (0 : Nat)) ∧ (0 : Int) = pI (lineP s)
 (nAt s (1 : Nat)) ∧ D.nil = pD (lineP s) (restD s) ∧ (0 : Int) = pI (lineP s) (nAt s (2 : Nat)) ∧ (0 : Int) = pI (lineP s) (nAt s (3 : Nat)) ∧ True) ∧ (false = true ↔ lineP s) ∧ True)) ∧ ((↑(strsD
 (piecesOf (32 : UInt8) s)).length : Int) < (7 : Int) → ([] = pS (lineP s) (wrd s (1 : Nat)) ∧ (0 : Int) = pI (lineP s) (shapeZ (wrd s (2 : Nat))) ∧ (0 : Int) = pI (lineP s) (nAt s (0 : Nat)) ∧ (0 :
 Int) = pI (lineP s) (nAt s (1 : Nat)) ∧ D.nil = pD (lineP s) (restD s) ∧ (0 : Int) = pI (lineP s) (nAt s (2 : Nat)) ∧ (0 : Int) = pI (lineP s) (nAt s (3 : Nat)) ∧ True) ∧ (false = true ↔ lineP s) ∧
 True)) := by intros; kernel_rfl
theorem vc33 : ∀ (l : D) (nm : List UInt8) (sh a b : Int) (o : D) (x y : Int), symFun (ctx hp2 hpAnn) (4 : Nat) (33 : FuncId) [V.dat (25 : TypeId) l, V.agg [V.str nm, V.int IntKind.u8 sh, V.int
 IntKind.i64 a, V.int IntKind.i64 b, V.dat (37 : TypeId) o, V.int IntKind.i64 x, V.int IntKind.i64 y]] (V.int IntKind.i64 (nextZ l nm sh a b o x y)) = (o.len ≤ (100000 : Nat) ∧ ((errZ nm sh a b o x y =
 (0 : Int) → False) → errZ nm sh a b o x y = nextZ l nm sh a b o x y) ∧ (((errZ nm sh a b o x y = (0 : Int) → False) → False) → l.len ≤ (100 : Nat) ∧ ((0 : Int) ≤ idxZ l nm l.len (0 : Nat) → (5 : Int)
 = nextZ l nm sh a b o x y) ∧ (((0 : Int) ≤ idxZ l nm l.len (0 : Nat) → False) → (0 : Int) = nextZ l nm sh a b o x y))) := by intros; kernel_rfl
theorem w_nth (W : List (List UInt8)) (j : Nat) : (nthD (strsD W) j).asStr = pAt W j := by
 unfold nthD strsD pAt; rw [List.getElem?_map]; cases W[j]? <;> rfl
theorem sub_strs (W : List (List UInt8)) : (D.list (strsD W)).sub 3 ((strsD W).length - 3) = .list (strsD (W.drop 3)) := by
 show D.list (((strsD W).drop 3).take ((strsD W).length - 3)) = _
 rw [take_all _ _ (by rw [List.length_drop]; omega)]
 congr 1
 unfold strsD
 rw [List.map_drop]
theorem sub_all (L : List D) (k : Nat) : (D.list L).sub k (L.length - k) = .list (L.drop k) := by
 show D.list ((L.drop k).take (L.length - k)) = _
 rw [take_all _ _ (by rw [List.length_drop]; omega)]
theorem nums_map (s : List UInt8) : List.map (fun d : D => D.int (numZ d.asStr)) (strsD ((piecesOf 32 s).drop 3)) = numsL s := by
 unfold numsL strsD; rw [List.map_map]; rfl
theorem p_drop (W : List (List UInt8)) (k j : Nat) : pAt (W.drop k) j = pAt W (k + j) := by unfold pAt; rw [List.getElem?_drop]
theorem nums_iff (s : List UInt8) : numsP (.list (strsD ((piecesOf 32 s).drop 3))) ↔ ∀ j, 3 ≤ j → j < (piecesOf 32 s).length → numP (wrd s j) := by
 have hl : (D.list (strsD ((piecesOf 32 s).drop 3))).len = (piecesOf 32 s).length - 3 := by show (strsD _).length = _; rw [strs_len, List.length_drop]
 have hv : ∀ i, sAt (.list (strsD ((piecesOf 32 s).drop 3))) i = wrd s (3 + i) := fun i => by show (nthD (strsD _) i).asStr = _; rw [w_nth, p_drop]; rfl
 constructor
 ·intro h j h1 h2
  have := h.out (j - 3) (by rw [hl]; omega)
  rw [hv, show 3 + (j - 3) = j by omega] at this; exact this
 ·intro h
  exact ⟨fun i hi => by rw [hl] at hi; rw [hv]; exact h _ (by omega) (by omega)⟩
theorem numsL_len (s : List UInt8) : (numsL s).length = (piecesOf 32 s).length - 3 := by unfold numsL; rw [List.length_map, List.length_drop]
theorem numsL_nth (s : List UInt8) (j : Nat) (hj : j < (piecesOf 32 s).length - 3) : (nthD (numsL s) j).asInt = nAt s j := by
 unfold nthD numsL nAt wrd pAt
 rw [List.getElem?_map, List.getElem?_drop]
 have : 3 + j < (piecesOf 32 s).length := by omega
 rw [List.getElem?_eq_getElem this]; rfl
theorem pS_no {p : Prop} (w : List UInt8) (h : ¬ p) : [] = pS p w := by unfold pS; rw [if_neg h]
theorem pS_yes {p : Prop} (w : List UInt8) (h : p) : pS p w = w := by unfold pS; rw [if_pos h]
theorem piece_len (c : UInt8) : ∀ (s : List UInt8) (w : List UInt8), w ∈ piecesOf c s → w.length ≤ s.length
 | [], w, h => by rw [show piecesOf c [] = [[]] from rfl] at h; rw [List.mem_singleton.1 h]; exact Nat.le_refl _
 | b :: s, w, h => by
  have ih := piece_len c s
  rw [pieces_cons] at h
  split at h
  ·rcases List.mem_cons.1 h with h1 | h1
   ·rw [h1]; exact Nat.zero_le _
   ·have := ih w h1; rw [List.length_cons]; omega
  ·split at h
   ·rename_i hn; exact absurd hn (pieces_ne c s)
   ·rename_i v r hv
    rcases List.mem_cons.1 h with h1 | h1
    ·have := ih v (by rw [hv]; exact List.mem_cons_self); rw [h1, List.length_cons, List.length_cons]; omega
    ·have := ih w (by rw [hv]; exact List.mem_cons_of_mem _ h1); rw [List.length_cons]; omega
theorem pAt_len (c : UInt8) (s : List UInt8) (j : Nat) : (pAt (piecesOf c s) j).length ≤ s.length := by
 unfold pAt
 cases h : (piecesOf c s)[j]? with
 | none => exact Nat.zero_le _
 | some w => exact piece_len c s w (List.mem_of_getElem? h)
theorem pAt_mem {W : List (List UInt8)} {j : Nat} (h : j < W.length) : pAt W j ∈ W := by
 unfold pAt; rw [List.getElem?_eq_getElem h]; exact List.getElem_mem h
theorem shp_ne {w : List UInt8} (h : shapeZ w ≠ 0) : w ≠ [] := fun e => by subst e; exact h (by decide)
theorem line_ok {s : List UInt8} (h : lineP s) : okW s := ⟨fun w hw he => by
 obtain ⟨h7, h0, h1, h2, h3⟩ := h.out
 obtain ⟨j, hj, rfl⟩ := List.mem_iff_getElem.1 hw
 have e : wrd s j = (piecesOf 32 s)[j] := by unfold wrd pAt; rw [List.getElem?_eq_getElem hj]; rfl
 rw [← e] at he
 rcases (show j = 0 ∨ j = 1 ∨ j = 2 ∨ 3 ≤ j by omega) with rfl | rfl | rfl | hj3
 ·rw [h0] at he; cases he
 ·exact h1 he
 ·exact shp_ne h2 he
 ·have := (h3 j hj3 hj).out.1
  rw [he] at this; simp at this⟩
theorem s32 (s : List UInt8) (hs : s.length ≤ 100000) : symFun (ctx hp2 hpAnn) 4 32 [.str s] (.tup [rowV (lineP s) s, .prop (lineP s)]) := by
 rw [vc32]
 have eR : (D.list (strsD (piecesOf 32 s))).sub (Int.toNat 3) ((strsD (piecesOf 32 s)).length - Int.toNat 3) = .list (strsD ((piecesOf 32 s).drop 3)) := sub_strs _
 have e0 : (nthD (strsD (piecesOf 32 s)) (Int.toNat 0)).asStr = wrd s 0 := w_nth _ _
 have e1 : (nthD (strsD (piecesOf 32 s)) (Int.toNat 1)).asStr = wrd s 1 := w_nth _ _
 have e2 : (nthD (strsD (piecesOf 32 s)) (Int.toNat 2)).asStr = wrd s 2 := w_nth _ _
 rw [eR, e0, e1, e2, strs_len]
 have hP := pieces_len 32 s
 have hcl : s.count 32 ≤ s.length := List.count_le_length
 have bad : ¬ lineP s → ([] = pS (lineP s) (wrd s 1) ∧ 0 = pI (lineP s) (shapeZ (wrd s 2)) ∧ 0 = pI (lineP s) (nAt s 0) ∧ 0 = pI (lineP s) (nAt s 1) ∧ D.nil = pD (lineP s) (restD s) ∧ 0 = pI (lineP s) (nAt s 2) ∧ 0 = pI (lineP s) (nAt s 3) ∧ True) ∧ (false = true ↔ lineP s) ∧ True := fun h =>
  ⟨⟨pS_no _ h, pI_no _ h, pI_no _ h, pI_no _ h, pD_no _ h, pI_no _ h, pI_no _ h, trivial⟩, ⟨fun h => by simp at h, fun h' => absurd h' h⟩, trivial⟩
 refine ⟨hs, fun h7 => ⟨by omega, ?_, fun h0 => ⟨by omega, ?_, fun h1 => bad fun h => h.out.2.2.1 h1, fun h1 => ⟨by omega, ?_, trivial, by omega, ?_, by omega, ?_, fun h2 => ⟨fun h3 => bad fun h => h3 ((nums_iff s).2 h.out.2.2.2.2), fun h3 => ?_⟩, fun h2 => bad fun h => h2 h.out.2.2.2.1⟩⟩, fun h0 => bad fun h => h0 h.out.2.1⟩, fun h7 => bad fun h => by have := h.out.1; omega⟩
 ·have h7 : ¬ ((piecesOf 32 s).length : Int) < 7 := h7
  omega
 ·have h7 : ¬ ((piecesOf 32 s).length : Int) < 7 := h7
  omega
 ·have h7 : ¬ ((piecesOf 32 s).length : Int) < 7 := h7
  omega
 ·have h7 : ¬ ((piecesOf 32 s).length : Int) < 7 := h7
  omega
 ·show (strsD _).length ≤ _
  rw [strs_len, List.length_drop]; omega
 ·have h7 : ¬ ((piecesOf 32 s).length : Int) < 7 := h7
  have h3 := Classical.not_not.1 h3
  have h0 := Classical.not_not.1 h0
  have hL : lineP s := ⟨by omega, h0, h1, Classical.not_not.1 fun h => h2 h, (nums_iff s).1 h3⟩
  have hn := numsL_len s
  have ea : (D.list (strsD ((piecesOf 32 s).drop 3))).asList = strsD ((piecesOf 32 s).drop 3) := rfl
  have el4 : (D.list (numsL s)).len = (numsL s).length := rfl
  have es : (D.list (numsL s)).sub (Int.toNat 4) ((numsL s).length - Int.toNat 4) = .list ((numsL s).drop 4) := sub_all _ 4
  have ed : (D.list ((numsL s).drop 4)).len = (numsL s).length - 4 := by show ((numsL s).drop 4).length = _; rw [List.length_drop]
  have q : ∀ j : Nat, j < 4 → (el (D.list (numsL s)) j).asInt = nAt s j := fun j hj => numsL_nth s j (by omega)
  have tl : (wrd s 1).length ≤ s.length := pAt_len 32 s 1
  rw [pD_yes _ h3, ea, nums_map, el4, es, ed]
  refine ⟨by omega, by omega, by omega, by omega, by omega, by omega, by omega, by omega, by omega, by omega, by omega, by omega, by omega, by omega, fun hz => ⟨⟨(pS_yes _ hL).symm, (pI_yes _ hL).symm, (q 0 (by omega)).trans (pI_yes _ hL).symm, (q 1 (by omega)).trans (pI_yes _ hL).symm, ?_, (q 2 (by omega)).trans (pI_yes _ hL).symm, (q 3 (by omega)).trans (pI_yes _ hL).symm, trivial⟩, ⟨fun _ => hL, fun _ => by trivial⟩, trivial⟩, fun hz => ⟨by omega, ⟨(pS_yes _ hL).symm, (pI_yes _ hL).symm, (q 0 (by omega)).trans (pI_yes _ hL).symm, (q 1 (by omega)).trans (pI_yes _ hL).symm, ⟨?_, ?_⟩, (q 2 (by omega)).trans (pI_yes _ hL).symm, (q 3 (by omega)).trans (pI_yes _ hL).symm, trivial⟩, ⟨fun _ => hL, fun _ => by trivial⟩, trivial⟩⟩
  ·rw [pD_yes _ hL]; unfold restD
   rw [List.drop_of_length_le (by omega)]; rfl
  ·show _ ≤ ((numsL s).drop 4).length
   rw [List.length_drop]; omega
  ·rw [pD_yes _ hL]; unfold restD
   rw [listD_ne (by rw [List.length_drop]; omega)]
   show D.list (List.take _ ((numsL s).drop 4)) = _
   rw [take_all _ _ (by rw [List.length_drop]; omega)]
theorem idx_iff (l : D) (nm : List UInt8) : ∀ f i, i + f = l.len → (0 ≤ idxZ l nm f i ↔ ∃ k, i ≤ k ∧ k < l.len ∧ tName (el l k) = nm)
 | 0, i, h => by
  unfold idxZ
  constructor
  ·intro h; omega
  ·rintro ⟨k, h1, h2, _⟩; omega
 | f + 1, i, h => by
  have ih := idx_iff l nm f (i + 1) (by omega)
  unfold idxZ
  by_cases e : tName (el l i) = nm
  ·rw [if_pos e]; exact ⟨fun _ => ⟨i, Nat.le_refl _, by omega, e⟩, fun _ => by omega⟩
  ·rw [if_neg e, ih]
   constructor
   ·rintro ⟨k, h1, h2, h3⟩; exact ⟨k, by omega, h2, h3⟩
   ·rintro ⟨k, h1, h2, h3⟩
    by_cases ek : k = i
    ·subst ek; exact absurd h3 e
    ·exact ⟨k, by omega, h2, h3⟩
theorem s33 (l : D) (nm : List UInt8) (sh a b : Int) (o : D) (x y : Int) (h : l.len ≤ 100 ∧ o.len ≤ 100000) : symFun (ctx hp2 hpAnn) 4 33 [.dat 25 l, .agg [.str nm, .int .u8 sh, .int .i64 a, .int .i64 b, .dat 37 o, .int .i64 x, .int .i64 y]] (.int .i64 (nextZ l nm sh a b o x y)) := by
 rw [vc33]
 have ht : 0 ≤ idxZ l nm l.len 0 ↔ twiceN l nm := (idx_iff l nm l.len 0 (by omega)).trans ⟨fun ⟨k, _, h2, h3⟩ => ⟨k, h2, h3⟩, fun h => by obtain ⟨k, h2, h3⟩ := h.out; exact ⟨k, by omega, h2, h3⟩⟩
 unfold nextZ
 refine ⟨h.2, fun he => by rw [if_pos he], fun he => ⟨h.1, fun hi => ?_, fun hi => ?_⟩⟩
 ·rw [if_neg he, if_pos (ht.1 hi)]
 ·rw [if_neg he, if_neg fun h => hi (ht.2 h)]
end Go.Ev

end

section
open Go.Proofs
namespace Go.Ev
set_option maxRecDepth 100000
set_option maxHeartbeats 4000000
theorem vc9 : ∀ (s : List UInt8), symFun (ctx hp3 hpAnn) (5 : Nat) (9 : FuncId) [V.str s] (V.tup [V.dat (25 : TypeId) (parD s), V.int IntKind.i64 (parL s), V.int IntKind.i64 (parE s)]) = (((65536 :
 Int) < (↑s.length : Int) → D.nil = parD s ∧ (0 : Int) = parL s ∧ (7 : Int) = parE s ∧ True) ∧ (((65536 : Int) < (↑s.length : Int) → False) → ((∃ (x : Nat × List UInt8), ((x.fst ≤ List.count (10 :
 UInt8) s ∧ x.fst ≤ (16 : Nat) ∧ List.drop x.fst (piecesOf (10 : UInt8) s) = piecesOf (10 : UInt8) x.snd ∧ x.snd.length ≤ s.length ∧ ∀ (k : Nat), k < x.fst → errK s k = (0 : Int)) ∧ x.fst = (0 : Nat))
 ∧ (s = x.snd ∧ (0 : Int) = (↑x.fst : Int) ∧ True ∧ (0 : Int) = (0 : Int) ∧ True) ∧ True) ∨ ∃ (x : Nat × List UInt8), ((x.fst ≤ List.count (10 : UInt8) s ∧ x.fst ≤ (16 : Nat) ∧ List.drop x.fst
 (piecesOf (10 : UInt8) s) = piecesOf (10 : UInt8) x.snd ∧ x.snd.length ≤ s.length ∧ ∀ (k : Nat), k < x.fst → errK s k = (0 : Int)) ∧ Nat.le (1 : Nat) x.fst) ∧ (s = x.snd ∧ (0 : Int) = (↑x.fst : Int) ∧
 False ∧ (0 : Int) = (0 : Int) ∧ True) ∧ False ∧ True) ∧ (∀ (x : Nat × List UInt8), (x.fst ≤ List.count (10 : UInt8) s ∧ x.fst ≤ (16 : Nat) ∧ List.drop x.fst (piecesOf (10 : UInt8) s) = piecesOf (10 :
 UInt8) x.snd ∧ x.snd.length ≤ s.length ∧ ∀ (k : Nat), k < x.fst → errK s k = (0 : Int)) ∧ x.fst = (0 : Nat) → List.count (10 : UInt8) s + (1 : Nat) - x.fst < LIM ∧ ((x.snd = [] → False) → x.snd.length
 ≤ (100000 : Nat) ∧ (cutA x.snd).length ≤ (100000 : Nat) ∧ ((((0 : Int) ≤ cutI x.snd (10 : UInt8) → False) → False) → ((lineP (cutA x.snd) → False) → D.nil = parD s ∧ (↑x.fst : Int) = parL s ∧ (3 :
 Int) = parE s ∧ True) ∧ (((lineP (cutA x.snd) → False) → False) → ((0 : Nat) ≤ (100 : Nat) ∧ (pD (lineP (cutA x.snd)) (restD (cutA x.snd))).len ≤ (100000 : Nat)) ∧ ((nextZ D.nil (pS (lineP (cutA
 x.snd)) (wrd (cutA x.snd) (1 : Nat))) (pI (lineP (cutA x.snd)) (shapeZ (wrd (cutA x.snd) (2 : Nat)))) (pI (lineP (cutA x.snd)) (nAt (cutA x.snd) (0 : Nat))) (pI (lineP (cutA x.snd)) (nAt (cutA x.snd)
 (1 : Nat))) (pD (lineP (cutA x.snd)) (restD (cutA x.snd))) (pI (lineP (cutA x.snd)) (nAt (cutA x.snd) (2 : Nat))) (pI (lineP (cutA x.snd)) (nAt (cutA x.snd) (3 : Nat))) = (0 : Int) → False) → ((nextZ
 D.nil (pS (lineP (cutA x.snd)) (wrd (cutA x.snd) (1 : Nat))) (pI (lineP (cutA x.snd)) (shapeZ (wrd (cutA x.snd) (2 : Nat)))) (pI (lineP (cutA x.snd)) (nAt (cutA x.snd) (0 : Nat))) (pI (lineP (cutA
 x.snd)) (nAt (cutA x.snd) (1 : Nat))) (pD (lineP (cutA x.snd)) (restD (cutA x.snd))) (pI (lineP (cutA x.snd)) (nAt (cutA x.snd) (2 : Nat))) (pI (lineP (cutA x.snd)) (nAt (cutA x.snd) (3 : Nat))) = (0
 : Int) → False) → D.nil = parD s ∧ (↑x.fst : Int) = parL s ∧ nextZ D.nil (pS (lineP (cutA x.snd)) (wrd (cutA x.snd) (1 : Nat))) (pI (lineP (cutA x.snd)) (shapeZ (wrd (cutA x.snd) (2 : Nat)))) (pI
 (lineP (cutA x.snd)) (nAt (cutA x.snd) (0 : Nat))) (pI (lineP (cutA x.snd)) (nAt (cutA x.snd) (1 : Nat))) (pD (lineP (cutA x.snd)) (restD (cutA x.snd))) (pI (lineP (cutA x.snd)) (nAt (cutA x.snd) (2 :
 Nat))) (pI (lineP (cutA x.snd)) (nAt (cutA x.snd) (3 : Nat))) = parE s ∧ True) ∧ (((nextZ D.nil (pS (lineP (cutA x.snd)) (wrd (cutA x.snd) (1 : Nat))) (pI (lineP (cutA x.snd)) (shapeZ (wrd (cutA
 x.snd) (2 : Nat)))) (pI (lineP (cutA x.snd)) (nAt (cutA x.snd) (0 : Nat))) (pI (lineP (cutA x.snd)) (nAt (cutA x.snd) (1 : Nat))) (pD (lineP (cutA x.snd)) (restD (cutA x.snd))) (pI (lineP (cutA
 x.snd)) (nAt (cutA x.snd) (2 : Nat))) (pI (lineP (cutA x.snd)) (nAt (cutA x.snd) (3 : Nat))) = (0 : Int) → False) → False) → D.nil = parD s ∧ (0 : Int) = parL s ∧ (0 : Int) = parE s ∧ True)) ∧
 (((nextZ D.nil (pS (lineP (cutA x.snd)) (wrd (cutA x.snd) (1 : Nat))) (pI (lineP (cutA x.snd)) (shapeZ (wrd (cutA x.snd) (2 : Nat)))) (pI (lineP (cutA x.snd)) (nAt (cutA x.snd) (0 : Nat))) (pI (lineP
 (cutA x.snd)) (nAt (cutA x.snd) (1 : Nat))) (pD (lineP (cutA x.snd)) (restD (cutA x.snd))) (pI (lineP (cutA x.snd)) (nAt (cutA x.snd) (2 : Nat))) (pI (lineP (cutA x.snd)) (nAt (cutA x.snd) (3 : Nat)))
 = (0 : Int) → False) → False) → (0 : Nat) + (1 : Nat) ≤ [D.sct [D.str (pS (lineP (cutA x.snd)) (wrd (cutA x.snd) (1 : Nat))), D.int (pI (lineP (cutA x.snd)) (shapeZ (wrd (cutA x.snd) (2 : Nat)))),
 D.int (pI (lineP (cutA x.snd)) (nAt (cutA x.snd) (0 : Nat))), D.int (pI (lineP (cutA x.snd)) (nAt (cutA x.snd) (1 : Nat))), pD (lineP (cutA x.snd)) (restD (cutA x.snd)), D.int (pI (lineP (cutA x.snd))
 (nAt (cutA x.snd) (2 : Nat))), D.int (pI (lineP (cutA x.snd)) (nAt (cutA x.snd) (3 : Nat)))]].length ∧ (1 : Nat) ≤ (16777216 : Nat) ∧ ((-9223372036854775808 : Int) ≤ (↑x.fst : Int) + (1 : Int) ∧
 (↑x.fst : Int) + (1 : Int) < (9223372036854775808 : Int)) ∧ ((∃ (y : Nat × List UInt8), ((y.fst ≤ List.count (10 : UInt8) s ∧ y.fst ≤ (16 : Nat) ∧ List.drop y.fst (piecesOf (10 : UInt8) s) = piecesOf
 (10 : UInt8) y.snd ∧ y.snd.length ≤ s.length ∧ ∀ (k : Nat), k < y.fst → errK s k = (0 : Int)) ∧ y.fst = (0 : Nat)) ∧ List.count (10 : UInt8) s + (1 : Nat) - y.fst < List.count (10 : UInt8) s + (1 :
 Nat) - x.fst ∧ (cutB x.snd = y.snd ∧ (↑x.fst : Int) + (1 : Int) = (↑y.fst : Int) ∧ False ∧ (0 : Int) = (0 : Int) ∧ True) ∧ True) ∨ ∃ (y : Nat × List UInt8), ((y.fst ≤ List.count (10 : UInt8) s ∧ y.fst
 ≤ (16 : Nat) ∧ List.drop y.fst (piecesOf (10 : UInt8) s) = piecesOf (10 : UInt8) y.snd ∧ y.snd.length ≤ s.length ∧ ∀ (k : Nat), k < y.fst → errK s k = (0 : Int)) ∧ Nat.le (1 : Nat) y.fst) ∧ List.count
 (10 : UInt8) s + (1 : Nat) - y.fst < List.count (10 : UInt8) s + (1 : Nat) - x.fst ∧ (cutB x.snd = y.snd ∧ (↑x.fst : Int) + (1 : Int) = (↑y.fst : Int) ∧ ((0 : Nat) = (0 : Nat) ∧ (1 : Nat) = y.fst ∧
 True) ∧ (0 : Int) = (0 : Int) ∧ True) ∧ List.take (1 : Nat) [D.sct [D.str (pS (lineP (cutA x.snd)) (wrd (cutA x.snd) (1 : Nat))), D.int (pI (lineP (cutA x.snd)) (shapeZ (wrd (cutA x.snd) (2 : Nat)))),
 D.int (pI (lineP (cutA x.snd)) (nAt (cutA x.snd) (0 : Nat))), D.int (pI (lineP (cutA x.snd)) (nAt (cutA x.snd) (1 : Nat))), pD (lineP (cutA x.snd)) (restD (cutA x.snd)), D.int (pI (lineP (cutA x.snd))
 (nAt (cutA x.snd) (2 : Nat))), D.int (pI (lineP (cutA x.snd)) (nAt (cutA x.snd) (3 : Nat)))]] = tabsL s y.fst ∧ True)))) ∧ (((0 : Int) ≤ cutI x.snd (10 : UInt8) → False) → D.nil = parD s ∧ (↑x.fst :
 Int) = parL s ∧ (3 : Int) = parE s ∧ True)) ∧ (((x.snd = [] → False) → False) → (((0 : Int) = (0 : Int) → False) → D.nil = parD s ∧ (↑x.fst : Int) = parL s ∧ (0 : Int) = parE s ∧ True) ∧ ((((0 : Int)
 = (0 : Int) → False) → False) → D.nil = parD s ∧ (0 : Int) = parL s ∧ (0 : Int) = parE s ∧ True))) ∧ ∀ (x : Nat × List UInt8), (x.fst ≤ List.count (10 : UInt8) s ∧ x.fst ≤ (16 : Nat) ∧ List.drop x.fst
 (piecesOf (10 : UInt8) s) = piecesOf (10 : UInt8) x.snd ∧ x.snd.length ≤ s.length ∧ ∀ (k : Nat), k < x.fst → errK s k = (0 : Int)) ∧ Nat.le (1 : Nat) x.fst → List.count (10 : UInt8) s + (1 : Nat) -
 x.fst < LIM ∧ ((x.snd = [] → False) → x.snd.length ≤ (100000 : Nat) ∧ (cutA x.snd).length ≤ (100000 : Nat) ∧ ((((0 : Int) ≤ cutI x.snd (10 : UInt8) → False) → False) → ((lineP (cutA x.snd) → False) →
 D.nil = parD s ∧ (↑x.fst : Int) = parL s ∧ (3 : Int) = parE s ∧ True) ∧ (((lineP (cutA x.snd) → False) → False) → (0 : Nat) + x.fst ≤ (tabsL s x.fst).length ∧ ((List.take x.fst (tabsL s x.fst)).length
 ≤ (100 : Nat) ∧ (pD (lineP (cutA x.snd)) (restD (cutA x.snd))).len ≤ (100000 : Nat)) ∧ ((nextZ (D.list (List.take x.fst (tabsL s x.fst))) (pS (lineP (cutA x.snd)) (wrd (cutA x.snd) (1 : Nat))) (pI
 (lineP (cutA x.snd)) (shapeZ (wrd (cutA x.snd) (2 : Nat)))) (pI (lineP (cutA x.snd)) (nAt (cutA x.snd) (0 : Nat))) (pI (lineP (cutA x.snd)) (nAt (cutA x.snd) (1 : Nat))) (pD (lineP (cutA x.snd))
 (restD (cutA x.snd))) (pI (lineP (cutA x.snd)) (nAt (cutA x.snd) (2 : Nat))) (pI (lineP (cutA x.snd)) (nAt (cutA x.snd) (3 : Nat))) = (0 : Int) → False) → ((nextZ (D.list (List.take x.fst (tabsL s
 x.fst))) (pS (lineP (cutA x.snd)) (wrd (cutA x.snd) (1 : Nat))) (pI (lineP (cutA x.snd)) (shapeZ (wrd (cutA x.snd) (2 : Nat)))) (pI (lineP (cutA x.snd)) (nAt (cutA x.snd) (0 : Nat))) (pI (lineP (cutA
 x.snd)) (nAt (cutA x.snd) (1 : Nat))) (pD (lineP (cutA x.snd)) (restD (cutA x.snd))) (pI (lineP (cutA x.snd)) (nAt (cutA x.snd) (2 : Nat))) (pI (lineP (cutA x.snd)) (nAt (cutA x.snd) (3 : Nat))) = (0
 : Int) → False) → D.nil = parD s ∧ (↑x.fst : Int) = parL s ∧ nextZ (D.list (List.take x.fst (tabsL s x.fst))) (pS (lineP (cutA x.snd)) (wrd (cutA x.snd) (1 : Nat))) (pI (lineP (cutA x.snd)) (shapeZ
 (wrd (cutA x.snd) (2 : Nat)))) (pI (lineP (cutA x.snd)) (nAt (cutA x.snd) (0 : Nat))) (pI (lineP (cutA x.snd)) (nAt (cutA x.snd) (1 : Nat))) (pD (lineP (cutA x.snd)) (restD (cutA x.snd))) (pI (lineP
 (cutA x.snd)) (nAt (cutA x.snd) (2 : Nat))) (pI (lineP (cutA x.snd)) (nAt (cutA x.snd) (3 : Nat))) = parE s ∧ True) ∧ (((nextZ (D.list (List.take x.fst (tabsL s x.fst))) (pS (lineP (cutA x.snd)) (wrd
 (cutA x.snd) (1 : Nat))) (pI (lineP (cutA x.snd)) (shapeZ (wrd (cutA x.snd) (2 : Nat)))) (pI (lineP (cutA x.snd)) (nAt (cutA x.snd) (0 : Nat))) (pI (lineP (cutA x.snd)) (nAt (cutA x.snd) (1 : Nat)))
 (pD (lineP (cutA x.snd)) (restD (cutA x.snd))) (pI (lineP (cutA x.snd)) (nAt (cutA x.snd) (2 : Nat))) (pI (lineP (cutA x.snd)) (nAt (cutA x.snd) (3 : Nat))) = (0 : Int) → False) → False) → ((0 : Nat)
 + x.fst ≤ (tabsL s x.fst).length ∧ D.list (List.take x.fst (tabsL s x.fst)) = parD s) ∧ (0 : Int) = parL s ∧ (0 : Int) = parE s ∧ True)) ∧ (((nextZ (D.list (List.take x.fst (tabsL s x.fst))) (pS
 (lineP (cutA x.snd)) (wrd (cutA x.snd) (1 : Nat))) (pI (lineP (cutA x.snd)) (shapeZ (wrd (cutA x.snd) (2 : Nat)))) (pI (lineP (cutA x.snd)) (nAt (cutA x.snd) (0 : Nat))) (pI (lineP (cutA x.snd)) (nAt
 (cutA x.snd) (1 : Nat))) (pD (lineP (cutA x.snd)) (restD (cutA x.snd))) (pI (lineP (cutA x.snd)) (nAt (cutA x.snd) (2 : Nat))) (pI (lineP (cutA x.snd)) (nAt (cutA x.snd) (3 : Nat))) = (0 : Int) →
 False) → False) → ((↑x.fst : Int) = (16 : Int) → D.nil = parD s ∧ (↑x.fst : Int) = parL s ∧ (7 : Int) = parE s ∧ True) ∧ (((↑x.fst : Int) = (16 : Int) → False) → (0 : Nat) + (1 : Nat) ≤ [D.sct [D.str
 (pS (lineP (cutA x.snd)) (wrd (cutA x.snd) (1 : Nat))), D.int (pI (lineP (cutA x.snd)) (shapeZ (wrd (cutA x.snd) (2 : Nat)))), D.int (pI (lineP (cutA x.snd)) (nAt (cutA x.snd) (0 : Nat))), D.int (pI
 (lineP (cutA x.snd)) (nAt (cutA x.snd) (1 : Nat))), pD (lineP (cutA x.snd)) (restD (cutA x.snd)), D.int (pI (lineP (cutA x.snd)) (nAt (cutA x.snd) (2 : Nat))), D.int (pI (lineP (cutA x.snd)) (nAt
 (cutA x.snd) (3 : Nat)))]].length ∧ (0 : Nat) + x.fst ≤ (tabsL s x.fst).length ∧ x.fst + (1 : Nat) ≤ (16777216 : Nat) ∧ ((-9223372036854775808 : Int) ≤ (↑x.fst : Int) + (1 : Int) ∧ (↑x.fst : Int) + (1
 : Int) < (9223372036854775808 : Int)) ∧ ((∃ (y : Nat × List UInt8), ((y.fst ≤ List.count (10 : UInt8) s ∧ y.fst ≤ (16 : Nat) ∧ List.drop y.fst (piecesOf (10 : UInt8) s) = piecesOf (10 : UInt8) y.snd ∧
 y.snd.length ≤ s.length ∧ ∀ (k : Nat), k < y.fst → errK s k = (0 : Int)) ∧ y.fst = (0 : Nat)) ∧ List.count (10 : UInt8) s + (1 : Nat) - y.fst < List.count (10 : UInt8) s + (1 : Nat) - x.fst ∧ (cutB
 x.snd = y.snd ∧ (↑x.fst : Int) + (1 : Int) = (↑y.fst : Int) ∧ False ∧ (0 : Int) = (0 : Int) ∧ True) ∧ True) ∨ ∃ (y : Nat × List UInt8), ((y.fst ≤ List.count (10 : UInt8) s ∧ y.fst ≤ (16 : Nat) ∧
 List.drop y.fst (piecesOf (10 : UInt8) s) = piecesOf (10 : UInt8) y.snd ∧ y.snd.length ≤ s.length ∧ ∀ (k : Nat), k < y.fst → errK s k = (0 : Int)) ∧ Nat.le (1 : Nat) y.fst) ∧ List.count (10 : UInt8) s
 + (1 : Nat) - y.fst < List.count (10 : UInt8) s + (1 : Nat) - x.fst ∧ (cutB x.snd = y.snd ∧ (↑x.fst : Int) + (1 : Int) = (↑y.fst : Int) ∧ ((0 : Nat) = (0 : Nat) ∧ x.fst + (1 : Nat) = y.fst ∧ True) ∧
 (0 : Int) = (0 : Int) ∧ True) ∧ List.take x.fst (tabsL s x.fst) ++ List.take (1 : Nat) [D.sct [D.str (pS (lineP (cutA x.snd)) (wrd (cutA x.snd) (1 : Nat))), D.int (pI (lineP (cutA x.snd)) (shapeZ (wrd
 (cutA x.snd) (2 : Nat)))), D.int (pI (lineP (cutA x.snd)) (nAt (cutA x.snd) (0 : Nat))), D.int (pI (lineP (cutA x.snd)) (nAt (cutA x.snd) (1 : Nat))), pD (lineP (cutA x.snd)) (restD (cutA x.snd)),
 D.int (pI (lineP (cutA x.snd)) (nAt (cutA x.snd) (2 : Nat))), D.int (pI (lineP (cutA x.snd)) (nAt (cutA x.snd) (3 : Nat)))]] = tabsL s y.fst ∧ True))))) ∧ (((0 : Int) ≤ cutI x.snd (10 : UInt8) →
 False) → D.nil = parD s ∧ (↑x.fst : Int) = parL s ∧ (3 : Int) = parE s ∧ True)) ∧ (((x.snd = [] → False) → False) → (((0 : Int) = (0 : Int) → False) → D.nil = parD s ∧ (↑x.fst : Int) = parL s ∧ (0 :
 Int) = parE s ∧ True) ∧ ((((0 : Int) = (0 : Int) → False) → False) → ((0 : Nat) + x.fst ≤ (tabsL s x.fst).length ∧ D.list (List.take x.fst (tabsL s x.fst)) = parD s) ∧ (0 : Int) = parL s ∧ (0 : Int) =
 parE s ∧ True)))) := by intros; kernel_rfl
theorem tabs_len (s : List UInt8) (n : Nat) : (tabsL s n).length = n := by unfold tabsL; rw [List.length_map, List.length_range]
theorem tabs_succ (s : List UInt8) (n : Nat) : tabsL s (n + 1) = tabsL s n ++ [tabD (lnAt s n)] := by unfold tabsL; rw [List.range_succ, List.map_append]; rfl
theorem tabs_nth (s : List UInt8) {n k : Nat} (h : k < n) : nthD (tabsL s n) k = tabD (lnAt s k) := by unfold tabsL nthD; rw [List.getElem?_map, List.getElem?_range h]; rfl
theorem listD_len (l : List D) : (listD l).len = l.length := by cases l <;> rfl
theorem listD_as (l : List D) : (listD l).asList = l := by cases l <;> rfl
theorem scan_stop (s : List UInt8) (k : Nat) (hk : ∀ j, j < k → errK s j = 0) (he : errK s k ≠ 0) : ∀ f i, i ≤ k → k < i + f → scanP s f i = ((k : Int), errK s k)
 | 0, i, h1, h2 => by omega
 | f + 1, i, h1, h2 => by
  unfold scanP
  by_cases e : i = k
  ·subst e; rw [if_pos he]
  ·rw [if_neg fun h => h (hk i (by omega))]; exact scan_stop s k hk he f (i + 1) (by omega) (by omega)
theorem scan_end (s : List UInt8) : ∀ f i, (∀ j, i ≤ j → j < i + f → errK s j = 0) → scanP s f i = (0, 0)
 | 0, i, h => rfl
 | f + 1, i, h => by
  unfold scanP
  rw [if_neg fun h' => h' (h i (by omega) (by omega))]; exact scan_end s f (i + 1) fun j h1 h2 => h j (by omega) (by omega)
theorem fin_big {s : List UInt8} (h : 65536 < s.length) : D.nil = parD s ∧ 0 = parL s ∧ 7 = parE s ∧ True := by
 unfold parD parL parE; rw [if_pos h, if_pos h, if_pos h]; exact ⟨rfl, rfl, rfl, trivial⟩
theorem fin_err {s : List UInt8} {k : Nat} {e : Int} (h : ¬ 65536 < s.length) (hk : ∀ j, j < k → errK s j = 0) (hn : k < nLines s) (he : errK s k = e) (h0 : e ≠ 0) : D.nil = parD s ∧ (k : Int) = parL s ∧ e = parE s ∧ True := by
 subst he
 have := scan_stop s k hk h0 (nLines s) 0 (Nat.zero_le _) (by omega)
 unfold parD parL parE endP
 rw [this, if_neg h, if_neg h, if_neg h, if_pos h0]; exact ⟨rfl, rfl, rfl, trivial⟩
theorem fin_ok {s : List UInt8} {k : Nat} (h : ¬ 65536 < s.length) (hk : ∀ j, j < k → errK s j = 0) (hn : k = nLines s) : parD s = listD (tabsL s k) ∧ 0 = parL s ∧ 0 = parE s ∧ True := by
 subst hn
 have := scan_end s (nLines s) 0 fun j _ h2 => hk j (by omega)
 unfold parD parL parE endP
 rw [this, if_neg h, if_neg h, if_neg h, if_neg fun h => h rfl]; exact ⟨rfl, rfl, rfl, trivial⟩
theorem err_form {s : List UInt8} {k : Nat} (h : ¬ formK s k) : errK s k = 3 := by unfold errK; rw [if_pos h]
theorem next_err {s : List UInt8} {k : Nat} {L : D} {z : Int} (hL : lineP (lnAt s k)) (hk : k < s.count 10) (ht : twiceN L (wrd (lnAt s k) 1) ↔ twiceN (.list (tabsL s k)) (wrd (lnAt s k) 1))
  (hz : z = nextZ L (wrd (lnAt s k) 1) (shapeZ (wrd (lnAt s k) 2)) (nAt (lnAt s k) 0) (nAt (lnAt s k) 1) (restD (lnAt s k)) (nAt (lnAt s k) 2) (nAt (lnAt s k) 3)) :
  (z ≠ 0 → errK s k = z) ∧ (z = 0 → errK s k = if k = 16 then 7 else 0) := by
 have e : errZ (wrd (lnAt s k) 1) (shapeZ (wrd (lnAt s k) 2)) (nAt (lnAt s k) 0) (nAt (lnAt s k) 1) (restD (lnAt s k)) (nAt (lnAt s k) 2) (nAt (lnAt s k) 3) = errT (tabD (lnAt s k)) := rfl
 unfold nextZ at hz
 rw [e] at hz
 unfold errK
 rw [if_neg fun h => h ⟨hL, hk⟩]
 by_cases h1 : errT (tabD (lnAt s k)) = 0
 ·rw [if_neg fun h => h h1] at hz ⊢
  by_cases h2 : twiceN L (wrd (lnAt s k) 1)
  ·rw [if_pos h2] at hz; rw [if_pos (ht.1 h2)]
   exact ⟨fun _ => hz.symm, fun h => by omega⟩
  ·rw [if_neg h2] at hz; rw [if_neg fun h => h2 (ht.2 h)]
   exact ⟨fun h => absurd hz h, fun _ => rfl⟩
 ·rw [if_pos h1] at hz ⊢
  exact ⟨fun _ => hz.symm, fun h => absurd (hz.symm.trans h) h1⟩
theorem head_piece {P r : List (List UInt8)} {w : List UInt8} {k : Nat} (hd : P.drop k = w :: r) : pAt P k = w := by
 have h2 : (P.drop k)[0]? = some w := by rw [hd]; rfl
 rw [List.getElem?_drop, Nat.add_zero] at h2
 unfold pAt; rw [h2]; rfl
theorem last_piece {s : List UInt8} {c : Nat} {w : List UInt8} (hd : (piecesOf 10 s).drop c = [w]) : c = s.count 10 ∧ pAt (piecesOf 10 s) (s.count 10) = w := by
 have h1 : ((piecesOf 10 s).drop c).length = 1 := by rw [hd]; rfl
 rw [List.length_drop, pieces_len] at h1
 have hc : c = s.count 10 := by omega
 exact ⟨hc, by rw [← hc]; exact head_piece hd⟩
theorem nL_last {s : List UInt8} (h : lastE s) : nLines s = s.count 10 := by
 unfold nLines linesL; rw [if_pos h, List.length_take, pieces_len]; omega
theorem nL_not {s : List UInt8} (h : ¬ lastE s) : nLines s = s.count 10 + 1 := by
 unfold nLines linesL; rw [if_neg h, pieces_len]
theorem nL_ge (s : List UInt8) : s.count 10 ≤ nLines s := by
 by_cases h : lastE s
 ·rw [nL_last h]; exact Nat.le_refl _
 ·rw [nL_not h]; omega
theorem cutA_len (t : List UInt8) : (cutA t).length ≤ t.length := by
 unfold cutA
 split
 ·rw [List.length_take]; omega
 ·exact Nat.le_refl _
theorem cutB_len (t : List UInt8) : (cutB t).length ≤ t.length := by
 unfold cutB
 split
 ·rw [List.length_drop]; omega
 ·exact Nat.zero_le _
theorem cut_line {s t : List UInt8} {k : Nat} (hd : (piecesOf 10 s).drop k = piecesOf 10 t) (h : 0 ≤ cutI t 10) : k < s.count 10 ∧ cutA t = lnAt s k ∧ (piecesOf 10 s).drop (k + 1) = piecesOf 10 (cutB t) := by
 obtain ⟨h1, h2⟩ := cut_yes h
 rw [h2] at hd
 obtain ⟨t1, t2, t3⟩ := drop_tail hd
 have eB : cutB t = t.drop ((cutI t 10).toNat + 1) := by unfold cutB; rw [if_pos h]
 have eA : cutA t = t.take (cutI t 10).toNat := by unfold cutA; rw [if_pos h]
 have h3 : ((piecesOf 10 s).drop (k + 1)).length ≠ 0 := by rw [t2]; exact fun h => pieces_ne 10 _ (List.eq_nil_of_length_eq_zero h)
 rw [List.length_drop, pieces_len] at h3
 exact ⟨by omega, by rw [eA]; exact (head_piece hd).symm, by rw [eB]; exact t2⟩
theorem cut_none {s t : List UInt8} {k : Nat} (hd : (piecesOf 10 s).drop k = piecesOf 10 t) (h : ¬ 0 ≤ cutI t 10) (ht : t ≠ []) : k < nLines s ∧ ¬ formK s k := by
 rw [show piecesOf 10 t = [t] from cut_no (by omega)] at hd
 obtain ⟨h1, h2⟩ := last_piece hd
 have hl : ¬ lastE s := fun h => ht (h2.symm.trans h)
 exact ⟨by rw [nL_not hl]; omega, fun h => by have := h.out.2; omega⟩
theorem t_nil {s : List UInt8} {k : Nat} (hd : (piecesOf 10 s).drop k = piecesOf 10 []) : k = nLines s := by
 obtain ⟨h1, h2⟩ := last_piece (w := []) hd
 rw [nL_last h2]; exact h1
theorem rest_len (p : Prop) (w : List UInt8) (h : w.length ≤ 70000) : (pD p (restD w)).len ≤ 100000 := by
 have h1 : (restD w).len ≤ 100000 := by
  unfold restD; rw [listD_len, List.length_drop, numsL_len, pieces_len]
  have : w.count 32 ≤ w.length := List.count_le_length
  omega
 unfold pD
 split
 ·exact h1
 ·exact Nat.zero_le _
theorem tab_row {w : List UInt8} {p : Prop} (h : p) : D.sct [.str (pS p (wrd w 1)), .int (pI p (shapeZ (wrd w 2))), .int (pI p (nAt w 0)), .int (pI p (nAt w 1)), pD p (restD w), .int (pI p (nAt w 2)), .int (pI p (nAt w 3))] = tabD w := by
 rw [pS_yes _ h, pI_yes _ h, pI_yes _ h, pI_yes _ h, pD_yes _ h, pI_yes _ h, pI_yes _ h]; rfl
theorem nz_row {L : D} {w : List UInt8} {p : Prop} (h : p) : nextZ L (pS p (wrd w 1)) (pI p (shapeZ (wrd w 2))) (pI p (nAt w 0)) (pI p (nAt w 1)) (pD p (restD w)) (pI p (nAt w 2)) (pI p (nAt w 3)) = nextZ L (wrd w 1) (shapeZ (wrd w 2)) (nAt w 0) (nAt w 1) (restD w) (nAt w 2) (nAt w 3) := by
 rw [pS_yes _ h, pI_yes _ h, pI_yes _ h, pI_yes _ h, pD_yes _ h, pI_yes _ h, pI_yes _ h]
theorem no_twice (s : List UInt8) (k : Nat) (h0 : k = 0) (nm : List UInt8) : twiceN .nil nm ↔ twiceN (.list (tabsL s k)) nm := by
 subst h0
 exact ⟨fun h => by obtain ⟨j, h1, _⟩ := h.out; exact absurd h1 (Nat.not_lt_zero _), fun h => by obtain ⟨j, h1, _⟩ := h.out; exact absurd h1 (Nat.not_lt_zero _)⟩
theorem err_ext {s : List UInt8} {k : Nat} (hk : ∀ j, j < k → errK s j = 0) (h : errK s k = 0) : ∀ j, j < k + 1 → errK s j = 0 := fun j hj => by
 by_cases e : j = k
 ·subst e; exact h
 ·exact hk j (by omega)
theorem s9 (s : List UInt8) : symFun (ctx hp3 hpAnn) 5 9 [.str s] (.tup [.dat 25 (parD s), .int .i64 (parL s), .int .i64 (parE s)]) := by
 rw [vc9]
 refine ⟨fun h => fin_big (by omega), fun h => ?_⟩
 have h : ¬ (65536 : Int) < s.length := h
 have hb : ¬ 65536 < s.length := by omega
 have hcl : s.count 10 ≤ s.length := List.count_le_length
 refine ⟨.inl ⟨(0, s), ⟨⟨Nat.zero_le _, Nat.zero_le _, rfl, Nat.le_refl _, fun k hk => absurd hk (Nat.not_lt_zero _)⟩, rfl⟩, ⟨rfl, rfl, trivial, rfl, trivial⟩, trivial⟩, fun x ⟨⟨hc, h16, hd, hl, hk⟩, h0⟩ => ⟨by unfold LIM; omega, fun hne => ⟨by omega, Nat.le_trans (cutA_len _) (by omega), fun hcut => ⟨fun hnl => ?_, fun hL => ⟨⟨by decide, rest_len _ _ (Nat.le_trans (cutA_len _) (by omega))⟩, fun hz => ⟨fun _ => ?_, fun h => absurd hz h⟩, fun hz => ?_⟩⟩, fun hcut => ?_⟩, fun he => ⟨fun h => absurd rfl h, fun _ => ?_⟩⟩, fun x ⟨⟨hc, h16, hd, hl, hk⟩, h0⟩ => ⟨by unfold LIM; omega, fun hne => ⟨by omega, Nat.le_trans (cutA_len _) (by omega), fun hcut => ⟨fun hnl => ?_, fun hL => ⟨by rw [tabs_len]; omega, ⟨by rw [List.length_take, tabs_len]; omega, rest_len _ _ (Nat.le_trans (cutA_len _) (by omega))⟩, fun hz => ⟨fun _ => ?_, fun h => absurd hz h⟩, fun hz => ⟨fun he16 => ?_, fun hn16 => ?_⟩⟩⟩, fun hcut => ?_⟩, fun he => ⟨fun h => absurd rfl h, fun _ => ?_⟩⟩⟩
 ·obtain ⟨c1, c2, c3⟩ := cut_line hd (Classical.not_not.1 hcut)
  exact fin_err hb hk (by have := nL_ge s; omega) (err_form fun h => hnl (by rw [c2]; exact h.out.1)) (by decide)
 ·obtain ⟨c1, c2, c3⟩ := cut_line hd (Classical.not_not.1 hcut)
  have hL := Classical.not_not.1 hL
  rw [nz_row hL] at hz ⊢
  rw [c2] at hz hL ⊢
  exact fin_err hb hk (by have := nL_ge s; omega) ((next_err hL c1 (no_twice s x.1 h0 _) rfl).1 hz) hz
 ·obtain ⟨c1, c2, c3⟩ := cut_line hd (Classical.not_not.1 hcut)
  have hL := Classical.not_not.1 hL
  have hz := Classical.not_not.1 hz
  rw [nz_row hL] at hz
  rw [tab_row hL]
  rw [c2] at hz hL ⊢
  have he := (next_err hL c1 (no_twice s x.1 h0 _) rfl).2 hz
  rw [if_neg (by omega)] at he
  refine ⟨Nat.le_refl 1, by decide, ⟨by omega, by omega⟩, .inr ⟨(x.1 + 1, cutB x.2), ⟨⟨by show x.1 + 1 ≤ s.count 10; omega, by show x.1 + 1 ≤ 16; omega, c3, Nat.le_trans (cutB_len _) hl, err_ext hk he⟩, by show 1 ≤ x.1 + 1; omega⟩, by show s.count 10 + 1 - (x.1 + 1) < s.count 10 + 1 - x.1; omega, ⟨rfl, by show (x.1 : Int) + 1 = ((x.1 + 1 : Nat) : Int); omega, ⟨rfl, by show 1 = x.1 + 1; omega, trivial⟩, rfl, trivial⟩, ?_, trivial⟩⟩
  show _ = tabsL s (x.1 + 1)
  rw [tabs_succ, show tabsL s x.1 = [] by rw [h0]; rfl]; rfl
 ·obtain ⟨c1, c2⟩ := cut_none hd hcut hne
  exact fin_err hb hk c1 (err_form c2) (by decide)
 ·have he := Classical.not_not.1 he
  rw [he] at hd
  obtain ⟨f1, f2⟩ := fin_ok hb hk (t_nil hd)
  refine ⟨?_, f2⟩
  rw [f1, h0]; rfl
 ·obtain ⟨c1, c2, c3⟩ := cut_line hd (Classical.not_not.1 hcut)
  exact fin_err hb hk (by have := nL_ge s; omega) (err_form fun h => hnl (by rw [c2]; exact h.out.1)) (by decide)
 ·obtain ⟨c1, c2, c3⟩ := cut_line hd (Classical.not_not.1 hcut)
  have hL := Classical.not_not.1 hL
  rw [take_all _ _ (by rw [tabs_len]; omega), nz_row hL] at hz ⊢
  rw [c2] at hz hL ⊢
  exact fin_err hb hk (by have := nL_ge s; omega) ((next_err hL c1 Iff.rfl rfl).1 hz) hz
 ·obtain ⟨c1, c2, c3⟩ := cut_line hd (Classical.not_not.1 hcut)
  have hL := Classical.not_not.1 hL
  have hz := Classical.not_not.1 hz
  have he16 : (x.1 : Int) = 16 := he16
  rw [take_all _ _ (by rw [tabs_len]; omega), nz_row hL] at hz
  rw [c2] at hz hL
  have he := (next_err hL c1 Iff.rfl rfl).2 hz
  rw [if_pos (by omega)] at he
  exact fin_err hb hk (by have := nL_ge s; omega) he (by decide)
 ·obtain ⟨c1, c2, c3⟩ := cut_line hd (Classical.not_not.1 hcut)
  have hL := Classical.not_not.1 hL
  have hz := Classical.not_not.1 hz
  have hn16 : ¬ (x.1 : Int) = 16 := hn16
  rw [take_all _ _ (by rw [tabs_len]; omega), nz_row hL] at hz
  rw [tab_row hL, take_all _ _ (by rw [tabs_len]; omega)]
  rw [c2] at hz hL ⊢
  have he := (next_err hL c1 Iff.rfl rfl).2 hz
  rw [if_neg (by omega)] at he
  refine ⟨Nat.le_refl 1, by rw [tabs_len]; omega, by omega, ⟨by omega, by omega⟩, .inr ⟨(x.1 + 1, cutB x.2), ⟨⟨by show x.1 + 1 ≤ s.count 10; omega, by show x.1 + 1 ≤ 16; omega, c3, Nat.le_trans (cutB_len _) hl, err_ext hk he⟩, by show 1 ≤ x.1 + 1; omega⟩, by show s.count 10 + 1 - (x.1 + 1) < s.count 10 + 1 - x.1; omega, ⟨rfl, by show (x.1 : Int) + 1 = ((x.1 + 1 : Nat) : Int); omega, ⟨rfl, rfl, trivial⟩, rfl, trivial⟩, ?_, trivial⟩⟩
  show _ = tabsL s (x.1 + 1)
  rw [tabs_succ]; rfl
 ·obtain ⟨c1, c2⟩ := cut_none hd hcut hne
  exact fin_err hb hk c1 (err_form c2) (by decide)
 ·have he := Classical.not_not.1 he
  rw [he] at hd
  obtain ⟨f1, f2⟩ := fin_ok hb hk (t_nil hd)
  have h0 : 1 ≤ x.1 := h0
  refine ⟨⟨by rw [tabs_len]; omega, ?_⟩, f2⟩
  rw [f1, take_all _ _ (by rw [tabs_len]; omega), listD_ne (by rw [tabs_len]; omega)]
end Go.Ev

end

section
open Go.Proofs
namespace Go.Ev
set_option maxRecDepth 100000
set_option maxHeartbeats 4000000
open Classical in
theorem ez_err {s : List UInt8} {k : Nat} (hL : lineP (lnAt s k)) (hk : k < s.count 10) :
  (errT (tabD (lnAt s k)) ≠ 0 → errK s k = errT (tabD (lnAt s k))) ∧ (errT (tabD (lnAt s k)) = 0 → errK s k = if twiceN (.list (tabsL s k)) (wrd (lnAt s k) 1) then 5 else if k = 16 then 7 else 0) := by
 unfold errK
 rw [if_neg fun h => h ⟨hL, hk⟩]
 exact ⟨fun h => by rw [if_pos h], fun h => by rw [if_neg fun h' => h' h]⟩
theorem line_head {w : List UInt8} (h : lineP w) : headP w := ⟨line_ok h, h.out.1, h.out.2.1⟩
end Go.Ev

end

section
open Go.Proofs
namespace Go.Ev
set_option maxRecDepth 100000
set_option maxHeartbeats 4000000
theorem err16 (s : List UInt8) : errK s 16 ≠ 0 := by
 unfold errK
 split
 ·decide
 ·split
  ·assumption
  ·split
   ·decide
   ·rw [if_pos rfl]; decide
theorem scan_zero (s : List UInt8) : ∀ f i, (scanP s f i).2 = 0 → ∀ j, i ≤ j → j < i + f → errK s j = 0
 | 0, i, _, j, h1, h2 => by omega
 | f + 1, i, h, j, h1, h2 => by
  unfold scanP at h
  by_cases e : errK s i = 0
  ·rw [if_neg fun h => h e] at h
   by_cases ej : j = i
   ·subst ej; exact e
   ·exact scan_zero s f (i + 1) h j (by omega) (by omega)
  ·rw [if_pos e] at h; exact absurd h e
theorem small_par (s : List UInt8) : smallD (parD s) := by
 unfold parD
 split
 ·exact ⟨Nat.zero_le _, fun i hi => absurd hi (Nat.not_lt_zero _)⟩
 ·rename_i h1
  split
  ·exact ⟨Nat.zero_le _, fun i hi => absurd hi (Nat.not_lt_zero _)⟩
  ·rename_i h2
   have h2 : (scanP s (nLines s) 0).2 = 0 := Classical.not_not.1 h2
   have hz := scan_zero s (nLines s) 0 h2
   have hn : nLines s ≤ 16 := by
    rcases Nat.lt_or_ge 16 (nLines s) with h | h
    ·exact absurd (hz 16 (by omega) (by omega)) (err16 s)
    ·exact h
   have hl : (listD (tabsL s (nLines s))).len = nLines s := by rw [listD_len, tabs_len]
   refine ⟨by rw [hl]; omega, fun i hi => ?_⟩
   rw [hl] at hi
   unfold el; rw [listD_as, tabs_nth s hi]
   show (restD (lnAt s i)).len ≤ 100000
   have := rest_len True (lnAt s i) (Nat.le_trans (pAt_len 10 s i) (by omega))
   rw [pD_yes _ trivial] at this; exact this
end Go.Ev

end
