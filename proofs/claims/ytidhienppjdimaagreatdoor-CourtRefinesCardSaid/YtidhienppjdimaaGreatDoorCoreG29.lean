/-
  Part of the engine that the claim is proved with: it states nothing of the document by itself.
-/
import Derived.Test.YtidhienppjdimaaGreatDoorCoreG28
import Derived.Test.YtidhienppjdimaaGreatDoorCoreG25

section
open Go.Proofs
namespace Go.Ev
set_option maxRecDepth 100000
set_option maxHeartbeats 4000000
theorem vc11 : ∀ (l : D), symFun (ctxr (fun _ => none) rfAnn) (3 : Nat) (11 : FuncId) [V.dat (31 : TypeId) l] (V.dat (22 : TypeId) (mD l)) = ((0 : Int) ≤ (0 : Int) ∧ (0 : Int) ≤ min (↑l.len : Int) (8
 : Int) ∧ min (↑l.len : Int) (8 : Int) ≤ (↑l.len : Int) ∧ ((∃ (x : Nat), x = (0 : Nat) ∧ ((0 : Int) = (0 : Int) ∧ True ∧ ([] : List UInt8) = [] ∧ True) ∧ True) ∨ ∃ (x : Nat), ((0 : Nat) < x ∧ x ≤ (m8
 l).len) ∧ ((0 : Int) = (↑x : Int) ∧ False ∧ [] = mR (m8 l) x ∧ True) ∧ False ∧ True) ∧ (∀ (x : Nat), x = (0 : Nat) → (m8 l).len - x < LIM ∧ ((0 : Int) < (↑(m8 l).len : Int) → (0 : Int) ≤ (0 : Int) ∧
 (0 : Int) < (↑(m8 l).len : Int) ∧ ((10 : Int) = (0 : Int) → False) ∧ ((4 : Int) = (0 : Int) → False) ∧ (0 : Int) ≤ ((el (m8 l) (0 : Nat)).fld (2 : Nat)).asInt.tmod (4 : Int) ∧ ((el (m8 l) (0 :
 Nat)).fld (2 : Nat)).asInt.tmod (4 : Int) ≤ (↑abcd.length : Int) ∧ (↑abcd.length : Int) ≤ (↑abcd.length : Int) ∧ (0 : Int) ≤ (0 : Int) ∧ (0 : Int) ≤ (1 : Int) ∧ (1 : Int) ≤ (↑(List.take (abcd.length -
 (((el (m8 l) (0 : Nat)).fld (2 : Nat)).asInt.tmod (4 : Int)).toNat) (List.drop (((el (m8 l) (0 : Nat)).fld (2 : Nat)).asInt.tmod (4 : Int)).toNat abcd)).length : Int) ∧ ((0 : Int) ≤ ((el (m8 l) (0 :
 Nat)).fld (2 : Nat)).asInt ∧ (0 : Int) ≤ (4 : Int) ∧ ((0 : Int) ≤ ((el (m8 l) (0 : Nat)).fld (2 : Nat)).asInt ∧ ((el (m8 l) (0 : Nat)).fld (2 : Nat)).asInt < (256 : Int)) ∧ ((0 : Int) ≤ (4 : Int) ∧ (4
 : Int) < (256 : Int)) ∧ ((bitsN ((el (m8 l) (0 : Nat)).fld (2 : Nat)).asInt (4 : Int) = (0 : Int) → False) → ((4 : Int) = (0 : Int) → False) ∧ (0 : Int) ≤ (IntKind.u8.wrap (((el (m8 l) (0 : Nat)).fld
 (2 : Nat)).asInt + (1 : Int))).tmod (4 : Int) ∧ (IntKind.u8.wrap (((el (m8 l) (0 : Nat)).fld (2 : Nat)).asInt + (1 : Int))).tmod (4 : Int) ≤ (↑abcd.length : Int) ∧ (↑abcd.length : Int) ≤ (↑abcd.length
 : Int) ∧ (0 : Int) ≤ (0 : Int) ∧ (0 : Int) ≤ (1 : Int) ∧ (1 : Int) ≤ (↑(List.take (abcd.length - ((IntKind.u8.wrap (((el (m8 l) (0 : Nat)).fld (2 : Nat)).asInt + (1 : Int))).tmod (4 : Int)).toNat)
 (List.drop ((IntKind.u8.wrap (((el (m8 l) (0 : Nat)).fld (2 : Nat)).asInt + (1 : Int))).tmod (4 : Int)).toNat abcd)).length : Int) ∧ (0 : Nat) + (1 : Nat) ≤ [D.str (nm2 (el (m8 l) (0 : Nat)))].length
 ∧ (0 : Nat) + (1 : Nat) ≤ [D.str (nm1 (el (m8 l) (0 : Nat)))].length ∧ (1 : Nat) + (1 : Nat) ≤ (16777216 : Nat) ∧ ((∃ (x : Unit), bitsN ((el (m8 l) (0 : Nat)).fld (2 : Nat)).asInt (4 : Int) = (0 :
 Int) ∧ False) ∨ ∃ (x : Unit), (bitsN ((el (m8 l) (0 : Nat)).fld (2 : Nat)).asInt (4 : Int) = (0 : Int) → False) ∧ (((0 : Nat) = (0 : Nat) ∧ (1 : Nat) + (1 : Nat) = (2 : Nat) ∧ True) ∧ True) ∧
 List.take (1 : Nat) [D.str (nm1 (el (m8 l) (0 : Nat)))] ++ List.take (1 : Nat) [D.str (nm2 (el (m8 l) (0 : Nat)))] = [D.str (nm1 (el (m8 l) (0 : Nat)))] ++ [D.str (nm2 (el (m8 l) (0 : Nat)))] ∧ True))
 ∧ (((bitsN ((el (m8 l) (0 : Nat)).fld (2 : Nat)).asInt (4 : Int) = (0 : Int) → False) → False) → (∃ (x : Unit), bitsN ((el (m8 l) (0 : Nat)).fld (2 : Nat)).asInt (4 : Int) = (0 : Int) ∧ (((0 : Nat) =
 (0 : Nat) ∧ (1 : Nat) = (1 : Nat) ∧ (1 : Nat) = (1 : Nat)) ∧ True) ∧ [D.str (nm1 (el (m8 l) (0 : Nat)))] = [D.str (nm1 (el (m8 l) (0 : Nat)))] ∧ True) ∨ ∃ (x : Unit), (bitsN ((el (m8 l) (0 : Nat)).fld
 (2 : Nat)).asInt (4 : Int) = (0 : Int) → False) ∧ False)) ∧ (∀ (x_1 : Unit), bitsN ((el (m8 l) (0 : Nat)).fld (2 : Nat)).asInt (4 : Int) = (0 : Int) → (((el (m8 l) (0 : Nat)).fld (4 : Nat)).asProp →
 ((mK (el (m8 l) (0 : Nat)) = (1 : Int) → False) → (mK (el (m8 l) (0 : Nat)) = (1 : Int) → (0 : Int) ≤ (0 : Int) ∧ (0 : Int) < (↑(1 : Nat) : Int) ∧ (0 : Nat) + (0 : Nat) < [D.str (nm1 (el (m8 l) (0 :
 Nat)))].length ∧ (0 : Nat) + (1 : Nat) ≤ [D.str (nm1 (el (m8 l) (0 : Nat)))].length ∧ end0P l x ((nthD [D.str (nm1 (el (m8 l) (0 : Nat)))] ((0 : Nat) + (0 : Nat))).asStr) (D.sct [D.int (mK (el (m8 l)
 (0 : Nat))), D.str [], D.bool (false = true), D.list (List.take (1 : Nat) [D.str (nm1 (el (m8 l) (0 : Nat)))]), D.int (0 : Int)])) ∧ ((mK (el (m8 l) (0 : Nat)) = (1 : Int) → False) → (mK (el (m8 l) (0
 : Nat)) = (4 : Int) → ((2 : Int) = (0 : Int) → False) ∧ ((-9223372036854775808 : Int) ≤ (1 : Int) + IntKind.i64.wrap (((el (m8 l) (0 : Nat)).fld (1 : Nat)).asInt.tmod (2 : Int)) ∧ (1 : Int) +
 IntKind.i64.wrap (((el (m8 l) (0 : Nat)).fld (1 : Nat)).asInt.tmod (2 : Int)) < (9223372036854775808 : Int)) ∧ end0P l x (([] : List UInt8)) (D.sct [D.int (mK (el (m8 l) (0 : Nat))), D.str [], D.bool
 (cNm (el (m8 l) (0 : Nat))).asProp, D.nil, D.int ((1 : Int) + IntKind.i64.wrap (((el (m8 l) (0 : Nat)).fld (1 : Nat)).asInt.tmod (2 : Int)))])) ∧ ((mK (el (m8 l) (0 : Nat)) = (4 : Int) → False) → (mK
 (el (m8 l) (0 : Nat)) = (5 : Int) → end0P l x (([] : List UInt8)) (D.sct [D.int (mK (el (m8 l) (0 : Nat))), D.str [], D.bool (cNm (el (m8 l) (0 : Nat))).asProp, D.nil, D.int (0 : Int)])) ∧ ((mK (el
 (m8 l) (0 : Nat)) = (5 : Int) → False) → (mK (el (m8 l) (0 : Nat)) = (6 : Int) → (0 : Nat) + (1 : Nat) ≤ [D.str (nm1 (el (m8 l) (0 : Nat)))].length ∧ end0P l x (([] : List UInt8)) (D.sct [D.int (mK
 (el (m8 l) (0 : Nat))), D.str [], D.bool (cNm (el (m8 l) (0 : Nat))).asProp, D.list (List.take (1 : Nat) [D.str (nm1 (el (m8 l) (0 : Nat)))]), D.int (0 : Int)])) ∧ ((mK (el (m8 l) (0 : Nat)) = (6 :
 Int) → False) → (mK (el (m8 l) (0 : Nat)) = (7 : Int) → (0 : Nat) + (1 : Nat) ≤ [D.str (nm1 (el (m8 l) (0 : Nat)))].length ∧ end0P l x (([] : List UInt8)) (D.sct [D.int (mK (el (m8 l) (0 : Nat))),
 D.str [], D.bool (cNm (el (m8 l) (0 : Nat))).asProp, D.list (List.take (1 : Nat) [D.str (nm1 (el (m8 l) (0 : Nat)))]), D.int (0 : Int)])) ∧ ((mK (el (m8 l) (0 : Nat)) = (7 : Int) → False) → (mK (el
 (m8 l) (0 : Nat)) = (10 : Int) → ((64 : Int) = (0 : Int) → False) ∧ end0P l x (([] : List UInt8)) (D.sct [D.int (mK (el (m8 l) (0 : Nat))), D.str [], D.bool (false = true), D.nil, D.int
 (IntKind.i64.wrap (((el (m8 l) (0 : Nat)).fld (1 : Nat)).asInt.tmod (64 : Int)))])) ∧ ((mK (el (m8 l) (0 : Nat)) = (10 : Int) → False) → end0P l x (([] : List UInt8)) (D.sct [D.int (mK (el (m8 l) (0 :
 Nat))), D.str [], D.bool (false = true), D.nil, D.int (0 : Int)])))))))) ∧ (((mK (el (m8 l) (0 : Nat)) = (1 : Int) → False) → False) → (mK (el (m8 l) (0 : Nat)) = (1 : Int) → (0 : Int) ≤ (0 : Int) ∧
 (0 : Int) < (↑(1 : Nat) : Int) ∧ (0 : Nat) + (0 : Nat) < [D.str (nm1 (el (m8 l) (0 : Nat)))].length ∧ (0 : Nat) + (1 : Nat) ≤ [D.str (nm1 (el (m8 l) (0 : Nat)))].length ∧ end0P l x ((nthD [D.str (nm1
 (el (m8 l) (0 : Nat)))] ((0 : Nat) + (0 : Nat))).asStr) (D.sct [D.int (mK (el (m8 l) (0 : Nat))), D.str [], D.bool (false = true), D.list (List.take (1 : Nat) [D.str (nm1 (el (m8 l) (0 : Nat)))]),
 D.int (0 : Int)])) ∧ ((mK (el (m8 l) (0 : Nat)) = (1 : Int) → False) → (mK (el (m8 l) (0 : Nat)) = (4 : Int) → ((2 : Int) = (0 : Int) → False) ∧ ((-9223372036854775808 : Int) ≤ (1 : Int) +
 IntKind.i64.wrap (((el (m8 l) (0 : Nat)).fld (1 : Nat)).asInt.tmod (2 : Int)) ∧ (1 : Int) + IntKind.i64.wrap (((el (m8 l) (0 : Nat)).fld (1 : Nat)).asInt.tmod (2 : Int)) < (9223372036854775808 : Int))
 ∧ end0P l x (([] : List UInt8)) (D.sct [D.int (mK (el (m8 l) (0 : Nat))), D.str [], D.bool (cNm (el (m8 l) (0 : Nat))).asProp, D.nil, D.int ((1 : Int) + IntKind.i64.wrap (((el (m8 l) (0 : Nat)).fld (1
 : Nat)).asInt.tmod (2 : Int)))])) ∧ ((mK (el (m8 l) (0 : Nat)) = (4 : Int) → False) → (mK (el (m8 l) (0 : Nat)) = (5 : Int) → end0P l x (([] : List UInt8)) (D.sct [D.int (mK (el (m8 l) (0 : Nat))),
 D.str [], D.bool (cNm (el (m8 l) (0 : Nat))).asProp, D.nil, D.int (0 : Int)])) ∧ ((mK (el (m8 l) (0 : Nat)) = (5 : Int) → False) → (mK (el (m8 l) (0 : Nat)) = (6 : Int) → (0 : Nat) + (1 : Nat) ≤
 [D.str (nm1 (el (m8 l) (0 : Nat)))].length ∧ end0P l x (([] : List UInt8)) (D.sct [D.int (mK (el (m8 l) (0 : Nat))), D.str [], D.bool (cNm (el (m8 l) (0 : Nat))).asProp, D.list (List.take (1 : Nat)
 [D.str (nm1 (el (m8 l) (0 : Nat)))]), D.int (0 : Int)])) ∧ ((mK (el (m8 l) (0 : Nat)) = (6 : Int) → False) → (mK (el (m8 l) (0 : Nat)) = (7 : Int) → (0 : Nat) + (1 : Nat) ≤ [D.str (nm1 (el (m8 l) (0 :
 Nat)))].length ∧ end0P l x (([] : List UInt8)) (D.sct [D.int (mK (el (m8 l) (0 : Nat))), D.str [], D.bool (cNm (el (m8 l) (0 : Nat))).asProp, D.list (List.take (1 : Nat) [D.str (nm1 (el (m8 l) (0 :
 Nat)))]), D.int (0 : Int)])) ∧ ((mK (el (m8 l) (0 : Nat)) = (7 : Int) → False) → (mK (el (m8 l) (0 : Nat)) = (10 : Int) → ((64 : Int) = (0 : Int) → False) ∧ end0P l x (([] : List UInt8)) (D.sct [D.int
 (mK (el (m8 l) (0 : Nat))), D.str [], D.bool (false = true), D.nil, D.int (IntKind.i64.wrap (((el (m8 l) (0 : Nat)).fld (1 : Nat)).asInt.tmod (64 : Int)))])) ∧ ((mK (el (m8 l) (0 : Nat)) = (10 : Int)
 → False) → end0P l x (([] : List UInt8)) (D.sct [D.int (mK (el (m8 l) (0 : Nat))), D.str [], D.bool (false = true), D.nil, D.int (0 : Int)]))))))))) ∧ ((((el (m8 l) (0 : Nat)).fld (4 : Nat)).asProp →
 False) → (mK (el (m8 l) (0 : Nat)) = (1 : Int) → (0 : Int) ≤ (0 : Int) ∧ (0 : Int) < (↑(1 : Nat) : Int) ∧ (0 : Nat) + (0 : Nat) < [D.str (nm1 (el (m8 l) (0 : Nat)))].length ∧ (0 : Nat) + (1 : Nat) ≤
 [D.str (nm1 (el (m8 l) (0 : Nat)))].length ∧ end0P l x ((nthD [D.str (nm1 (el (m8 l) (0 : Nat)))] ((0 : Nat) + (0 : Nat))).asStr) (D.sct [D.int (mK (el (m8 l) (0 : Nat))), D.str [], D.bool (false =
 true), D.list (List.take (1 : Nat) [D.str (nm1 (el (m8 l) (0 : Nat)))]), D.int (0 : Int)])) ∧ ((mK (el (m8 l) (0 : Nat)) = (1 : Int) → False) → (mK (el (m8 l) (0 : Nat)) = (4 : Int) → ((2 : Int) = (0
 : Int) → False) ∧ ((-9223372036854775808 : Int) ≤ (1 : Int) + IntKind.i64.wrap (((el (m8 l) (0 : Nat)).fld (1 : Nat)).asInt.tmod (2 : Int)) ∧ (1 : Int) + IntKind.i64.wrap (((el (m8 l) (0 : Nat)).fld
 (1 : Nat)).asInt.tmod (2 : Int)) < (9223372036854775808 : Int)) ∧ end0P l x (([] : List UInt8)) (D.sct [D.int (mK (el (m8 l) (0 : Nat))), D.str [], D.bool (cNm (el (m8 l) (0 : Nat))).asProp, D.nil,
 D.int ((1 : Int) + IntKind.i64.wrap (((el (m8 l) (0 : Nat)).fld (1 : Nat)).asInt.tmod (2 : Int)))])) ∧ ((mK (el (m8 l) (0 : Nat)) = (4 : Int) → False) → (mK (el (m8 l) (0 : Nat)) = (5 : Int) → end0P l
 x (([] : List UInt8)) (D.sct [D.int (mK (el (m8 l) (0 : Nat))), D.str [], D.bool (cNm (el (m8 l) (0 : Nat))).asProp, D.nil, D.int (0 : Int)])) ∧ ((mK (el (m8 l) (0 : Nat)) = (5 : Int) → False) → (mK
 (el (m8 l) (0 : Nat)) = (6 : Int) → (0 : Nat) + (1 : Nat) ≤ [D.str (nm1 (el (m8 l) (0 : Nat)))].length ∧ end0P l x (([] : List UInt8)) (D.sct [D.int (mK (el (m8 l) (0 : Nat))), D.str [], D.bool (cNm
 (el (m8 l) (0 : Nat))).asProp, D.list (List.take (1 : Nat) [D.str (nm1 (el (m8 l) (0 : Nat)))]), D.int (0 : Int)])) ∧ ((mK (el (m8 l) (0 : Nat)) = (6 : Int) → False) → (mK (el (m8 l) (0 : Nat)) = (7 :
 Int) → (0 : Nat) + (1 : Nat) ≤ [D.str (nm1 (el (m8 l) (0 : Nat)))].length ∧ end0P l x (([] : List UInt8)) (D.sct [D.int (mK (el (m8 l) (0 : Nat))), D.str [], D.bool (cNm (el (m8 l) (0 : Nat))).asProp,
 D.list (List.take (1 : Nat) [D.str (nm1 (el (m8 l) (0 : Nat)))]), D.int (0 : Int)])) ∧ ((mK (el (m8 l) (0 : Nat)) = (7 : Int) → False) → (mK (el (m8 l) (0 : Nat)) = (10 : Int) → ((64 : Int) = (0 :
 Int) → False) ∧ end0P l x (([] : List UInt8)) (D.sct [D.int (mK (el (m8 l) (0 : Nat))), D.str [], D.bool (false = true), D.nil, D.int (IntKind.i64.wrap (((el (m8 l) (0 : Nat)).fld (1 :
 Nat)).asInt.tmod (64 : Int)))])) ∧ ((mK (el (m8 l) (0 : Nat)) = (10 : Int) → False) → end0P l x (([] : List UInt8)) (D.sct [D.int (mK (el (m8 l) (0 : Nat))), D.str [], D.bool (false = true), D.nil,
 D.int (0 : Int)]))))))))) ∧ ∀ (x_1 : Unit), (bitsN ((el (m8 l) (0 : Nat)).fld (2 : Nat)).asInt (4 : Int) = (0 : Int) → False) → (((el (m8 l) (0 : Nat)).fld (4 : Nat)).asProp → ((mK (el (m8 l) (0 :
 Nat)) = (1 : Int) → False) → (mK (el (m8 l) (0 : Nat)) = (1 : Int) → (0 : Int) ≤ (0 : Int) ∧ (0 : Int) < (↑(2 : Nat) : Int) ∧ (0 : Nat) + (0 : Nat) < ([D.str (nm1 (el (m8 l) (0 : Nat)))] ++ [D.str
 (nm2 (el (m8 l) (0 : Nat)))]).length ∧ (0 : Nat) + (2 : Nat) ≤ ([D.str (nm1 (el (m8 l) (0 : Nat)))] ++ [D.str (nm2 (el (m8 l) (0 : Nat)))]).length ∧ end0P l x ((nthD ([D.str (nm1 (el (m8 l) (0 :
 Nat)))] ++ [D.str (nm2 (el (m8 l) (0 : Nat)))]) ((0 : Nat) + (0 : Nat))).asStr) (D.sct [D.int (mK (el (m8 l) (0 : Nat))), D.str [], D.bool (false = true), D.list (List.take (2 : Nat) ([D.str (nm1 (el
 (m8 l) (0 : Nat)))] ++ [D.str (nm2 (el (m8 l) (0 : Nat)))])), D.int (0 : Int)])) ∧ ((mK (el (m8 l) (0 : Nat)) = (1 : Int) → False) → (mK (el (m8 l) (0 : Nat)) = (4 : Int) → ((2 : Int) = (0 : Int) →
 False) ∧ ((-9223372036854775808 : Int) ≤ (1 : Int) + IntKind.i64.wrap (((el (m8 l) (0 : Nat)).fld (1 : Nat)).asInt.tmod (2 : Int)) ∧ (1 : Int) + IntKind.i64.wrap (((el (m8 l) (0 : Nat)).fld (1 :
 Nat)).asInt.tmod (2 : Int)) < (9223372036854775808 : Int)) ∧ end0P l x (([] : List UInt8)) (D.sct [D.int (mK (el (m8 l) (0 : Nat))), D.str [], D.bool (cNm (el (m8 l) (0 : Nat))).asProp, D.nil, D.int
 ((1 : Int) + IntKind.i64.wrap (((el (m8 l) (0 : Nat)).fld (1 : Nat)).asInt.tmod (2 : Int)))])) ∧ ((mK (el (m8 l) (0 : Nat)) = (4 : Int) → False) → (mK (el (m8 l) (0 : Nat)) = (5 : Int) → end0P l x
 (([] : List UInt8)) (D.sct [D.int (mK (el (m8 l) (0 : Nat))), D.str [], D.bool (cNm (el (m8 l) (0 : Nat))).asProp, D.nil, D.int (0 : Int)])) ∧ ((mK (el (m8 l) (0 : Nat)) = (5 : Int) → False) → (mK (el
 (m8 l) (0 : Nat)) = (6 : Int) → (0 : Nat) + (2 : Nat) ≤ ([D.str (nm1 (el (m8 l) (0 : Nat)))] ++ [D.str (nm2 (el (m8 l) (0 : Nat)))]).length ∧ end0P l x (([] : List UInt8)) (D.sct [D.int (mK (el (m8 l)
 (0 : Nat))), D.str [], D.bool (cNm (el (m8 l) (0 : Nat))).asProp, D.list (List.take (2 : Nat) ([D.str (nm1 (el (m8 l) (0 : Nat)))] ++ [D.str (nm2 (el (m8 l) (0 : Nat)))])), D.int (0 : Int)])) ∧ ((mK
 (el (m8 l) (0 : Nat)) = (6 : Int) → False) → (mK (el (m8 l) (0 : Nat)) = (7 : Int) → (0 : Nat) + (2 : Nat) ≤ ([D.str (nm1 (el (m8 l) (0 : Nat)))] ++ [D.str (nm2 (el (m8 l) (0 : Nat)))]).length ∧ end0P
 l x (([] : List UInt8)) (D.sct [D.int (mK (el (m8 l) (0 : Nat))), D.str [], D.bool (cNm (el (m8 l) (0 : Nat))).asProp, D.list (List.take (2 : Nat) ([D.str (nm1 (el (m8 l) (0 : Nat)))] ++ [D.str (nm2
 (el (m8 l) (0 : Nat)))])), D.int (0 : Int)])) ∧ ((mK (el (m8 l) (0 : Nat)) = (7 : Int) → False) → (mK (el (m8 l) (0 : Nat)) = (10 : Int) → ((64 : Int) = (0 : Int) → False) ∧ end0P l x (([] : List
 UInt8)) (D.sct [D.int (mK (el (m8 l) (0 : Nat))), D.str [], D.bool (false = true), D.nil, D.int (IntKind.i64.wrap (((el (m8 l) (0 : Nat)).fld (1 : Nat)).asInt.tmod (64 : Int)))])) ∧ ((mK (el (m8 l) (0
 : Nat)) = (10 : Int) → False) → end0P l x (([] : List UInt8)) (D.sct [D.int (mK (el (m8 l) (0 : Nat))), D.str [], D.bool (false = true), D.nil, D.int (0 : Int)])))))))) ∧ (((mK (el (m8 l) (0 : Nat)) =
 (1 : Int) → False) → False) → (mK (el (m8 l) (0 : Nat)) = (1 : Int) → (0 : Int) ≤ (0 : Int) ∧ (0 : Int) < (↑(2 : Nat) : Int) ∧ (0 : Nat) + (0 : Nat) < ([D.str (nm1 (el (m8 l) (0 : Nat)))] ++ [D.str
 (nm2 (el (m8 l) (0 : Nat)))]).length ∧ (0 : Nat) + (2 : Nat) ≤ ([D.str (nm1 (el (m8 l) (0 : Nat)))] ++ [D.str (nm2 (el (m8 l) (0 : Nat)))]).length ∧ end0P l x ((nthD ([D.str (nm1 (el (m8 l) (0 :
 Nat)))] ++ [D.str (nm2 (el (m8 l) (0 : Nat)))]) ((0 : Nat) + (0 : Nat))).asStr) (D.sct [D.int (mK (el (m8 l) (0 : Nat))), D.str [], D.bool (false = true), D.list (List.take (2 : Nat) ([D.str (nm1 (el
 (m8 l) (0 : Nat)))] ++ [D.str (nm2 (el (m8 l) (0 : Nat)))])), D.int (0 : Int)])) ∧ ((mK (el (m8 l) (0 : Nat)) = (1 : Int) → False) → (mK (el (m8 l) (0 : Nat)) = (4 : Int) → ((2 : Int) = (0 : Int) →
 False) ∧ ((-9223372036854775808 : Int) ≤ (1 : Int) + IntKind.i64.wrap (((el (m8 l) (0 : Nat)).fld (1 : Nat)).asInt.tmod (2 : Int)) ∧ (1 : Int) + IntKind.i64.wrap (((el (m8 l) (0 : Nat)).fld (1 :
 Nat)).asInt.tmod (2 : Int)) < (9223372036854775808 : Int)) ∧ end0P l x (([] : List UInt8)) (D.sct [D.int (mK (el (m8 l) (0 : Nat))), D.str [], D.bool (cNm (el (m8 l) (0 : Nat))).asProp, D.nil, D.int
 ((1 : Int) + IntKind.i64.wrap (((el (m8 l) (0 : Nat)).fld (1 : Nat)).asInt.tmod (2 : Int)))])) ∧ ((mK (el (m8 l) (0 : Nat)) = (4 : Int) → False) → (mK (el (m8 l) (0 : Nat)) = (5 : Int) → end0P l x
 (([] : List UInt8)) (D.sct [D.int (mK (el (m8 l) (0 : Nat))), D.str [], D.bool (cNm (el (m8 l) (0 : Nat))).asProp, D.nil, D.int (0 : Int)])) ∧ ((mK (el (m8 l) (0 : Nat)) = (5 : Int) → False) → (mK (el
 (m8 l) (0 : Nat)) = (6 : Int) → (0 : Nat) + (2 : Nat) ≤ ([D.str (nm1 (el (m8 l) (0 : Nat)))] ++ [D.str (nm2 (el (m8 l) (0 : Nat)))]).length ∧ end0P l x (([] : List UInt8)) (D.sct [D.int (mK (el (m8 l)
 (0 : Nat))), D.str [], D.bool (cNm (el (m8 l) (0 : Nat))).asProp, D.list (List.take (2 : Nat) ([D.str (nm1 (el (m8 l) (0 : Nat)))] ++ [D.str (nm2 (el (m8 l) (0 : Nat)))])), D.int (0 : Int)])) ∧ ((mK
 (el (m8 l) (0 : Nat)) = (6 : Int) → False) → (mK (el (m8 l) (0 : Nat)) = (7 : Int) → (0 : Nat) + (2 : Nat) ≤ ([D.str (nm1 (el (m8 l) (0 : Nat)))] ++ [D.str (nm2 (el (m8 l) (0 : Nat)))]).length ∧ end0P
 l x (([] : List UInt8)) (D.sct [D.int (mK (el (m8 l) (0 : Nat))), D.str [], D.bool (cNm (el (m8 l) (0 : Nat))).asProp, D.list (List.take (2 : Nat) ([D.str (nm1 (el (m8 l) (0 : Nat)))] ++ [D.str (nm2
 (el (m8 l) (0 : Nat)))])), D.int (0 : Int)])) ∧ ((mK (el (m8 l) (0 : Nat)) = (7 : Int) → False) → (mK (el (m8 l) (0 : Nat)) = (10 : Int) → ((64 : Int) = (0 : Int) → False) ∧ end0P l x (([] : List
 UInt8)) (D.sct [D.int (mK (el (m8 l) (0 : Nat))), D.str [], D.bool (false = true), D.nil, D.int (IntKind.i64.wrap (((el (m8 l) (0 : Nat)).fld (1 : Nat)).asInt.tmod (64 : Int)))])) ∧ ((mK (el (m8 l) (0
 : Nat)) = (10 : Int) → False) → end0P l x (([] : List UInt8)) (D.sct [D.int (mK (el (m8 l) (0 : Nat))), D.str [], D.bool (false = true), D.nil, D.int (0 : Int)]))))))))) ∧ ((((el (m8 l) (0 : Nat)).fld
 (4 : Nat)).asProp → False) → (mK (el (m8 l) (0 : Nat)) = (1 : Int) → (0 : Int) ≤ (0 : Int) ∧ (0 : Int) < (↑(2 : Nat) : Int) ∧ (0 : Nat) + (0 : Nat) < ([D.str (nm1 (el (m8 l) (0 : Nat)))] ++ [D.str
 (nm2 (el (m8 l) (0 : Nat)))]).length ∧ (0 : Nat) + (2 : Nat) ≤ ([D.str (nm1 (el (m8 l) (0 : Nat)))] ++ [D.str (nm2 (el (m8 l) (0 : Nat)))]).length ∧ end0P l x ((nthD ([D.str (nm1 (el (m8 l) (0 :
 Nat)))] ++ [D.str (nm2 (el (m8 l) (0 : Nat)))]) ((0 : Nat) + (0 : Nat))).asStr) (D.sct [D.int (mK (el (m8 l) (0 : Nat))), D.str [], D.bool (false = true), D.list (List.take (2 : Nat) ([D.str (nm1 (el
 (m8 l) (0 : Nat)))] ++ [D.str (nm2 (el (m8 l) (0 : Nat)))])), D.int (0 : Int)])) ∧ ((mK (el (m8 l) (0 : Nat)) = (1 : Int) → False) → (mK (el (m8 l) (0 : Nat)) = (4 : Int) → ((2 : Int) = (0 : Int) →
 False) ∧ ((-9223372036854775808 : Int) ≤ (1 : Int) + IntKind.i64.wrap (((el (m8 l) (0 : Nat)).fld (1 : Nat)).asInt.tmod (2 : Int)) ∧ (1 : Int) + IntKind.i64.wrap (((el (m8 l) (0 : Nat)).fld (1 :
 Nat)).asInt.tmod (2 : Int)) < (9223372036854775808 : Int)) ∧ end0P l x (([] : List UInt8)) (D.sct [D.int (mK (el (m8 l) (0 : Nat))), D.str [], D.bool (cNm (el (m8 l) (0 : Nat))).asProp, D.nil, D.int
 ((1 : Int) + IntKind.i64.wrap (((el (m8 l) (0 : Nat)).fld (1 : Nat)).asInt.tmod (2 : Int)))])) ∧ ((mK (el (m8 l) (0 : Nat)) = (4 : Int) → False) → (mK (el (m8 l) (0 : Nat)) = (5 : Int) → end0P l x
 (([] : List UInt8)) (D.sct [D.int (mK (el (m8 l) (0 : Nat))), D.str [], D.bool (cNm (el (m8 l) (0 : Nat))).asProp, D.nil, D.int (0 : Int)])) ∧ ((mK (el (m8 l) (0 : Nat)) = (5 : Int) → False) → (mK (el
 (m8 l) (0 : Nat)) = (6 : Int) → (0 : Nat) + (2 : Nat) ≤ ([D.str (nm1 (el (m8 l) (0 : Nat)))] ++ [D.str (nm2 (el (m8 l) (0 : Nat)))]).length ∧ end0P l x (([] : List UInt8)) (D.sct [D.int (mK (el (m8 l)
 (0 : Nat))), D.str [], D.bool (cNm (el (m8 l) (0 : Nat))).asProp, D.list (List.take (2 : Nat) ([D.str (nm1 (el (m8 l) (0 : Nat)))] ++ [D.str (nm2 (el (m8 l) (0 : Nat)))])), D.int (0 : Int)])) ∧ ((mK
 (el (m8 l) (0 : Nat)) = (6 : Int) → False) → (mK (el (m8 l) (0 : Nat)) = (7 : Int) → (0 : Nat) + (2 : Nat) ≤ ([D.str (nm1 (el (m8 l) (0 : Nat)))] ++ [D.str (nm2 (el (m8 l) (0 : Nat)))]).length ∧ end0P
 l x (([] : List UInt8)) (D.sct [D.int (mK (el (m8 l) (0 : Nat))), D.str [], D.bool (cNm (el (m8 l) (0 : Nat))).asProp, D.list (List.take (2 : Nat) ([D.str (nm1 (el (m8 l) (0 : Nat)))] ++ [D.str (nm2
 (el (m8 l) (0 : Nat)))])), D.int (0 : Int)])) ∧ ((mK (el (m8 l) (0 : Nat)) = (7 : Int) → False) → (mK (el (m8 l) (0 : Nat)) = (10 : Int) → ((64 : Int) = (0 : Int) → False) ∧ end0P l x (([] : List
 UInt8)) (D.sct [D.int (mK (el (m8 l) (0 : Nat))), D.str [], D.bool (false = true), D.nil, D.int (IntKind.i64.wrap (((el (m8 l) (0 : Nat)).fld (1 : Nat)).asInt.tmod (64 : Int)))])) ∧ ((mK (el (m8 l) (0
 : Nat)) = (10 : Int) → False) → end0P l x (([] : List UInt8)) (D.sct [D.int (mK (el (m8 l) (0 : Nat))), D.str [], D.bool (false = true), D.nil, D.int (0 : Int)]))))))))) ∧ (((0 : Int) < (↑(m8 l).len :
 Int) → False) → D.nil = mD l)) ∧ ∀ (x : Nat), (0 : Nat) < x ∧ x ≤ (m8 l).len → (m8 l).len - x < LIM ∧ ((↑x : Int) < (↑(m8 l).len : Int) → (0 : Int) ≤ (↑x : Int) ∧ (↑x : Int) < (↑(m8 l).len : Int) ∧
 ((10 : Int) = (0 : Int) → False) ∧ ((4 : Int) = (0 : Int) → False) ∧ (0 : Int) ≤ ((el (m8 l) x).fld (2 : Nat)).asInt.tmod (4 : Int) ∧ ((el (m8 l) x).fld (2 : Nat)).asInt.tmod (4 : Int) ≤ (↑abcd.length
 : Int) ∧ (↑abcd.length : Int) ≤ (↑abcd.length : Int) ∧ (0 : Int) ≤ (0 : Int) ∧ (0 : Int) ≤ (1 : Int) ∧ (1 : Int) ≤ (↑(List.take (abcd.length - (((el (m8 l) x).fld (2 : Nat)).asInt.tmod (4 :
 Int)).toNat) (List.drop (((el (m8 l) x).fld (2 : Nat)).asInt.tmod (4 : Int)).toNat abcd)).length : Int) ∧ ((0 : Int) ≤ ((el (m8 l) x).fld (2 : Nat)).asInt ∧ (0 : Int) ≤ (4 : Int) ∧ ((0 : Int) ≤ ((el
 (m8 l) x).fld (2 : Nat)).asInt ∧ ((el (m8 l) x).fld (2 : Nat)).asInt < (256 : Int)) ∧ ((0 : Int) ≤ (4 : Int) ∧ (4 : Int) < (256 : Int)) ∧ ((bitsN ((el (m8 l) x).fld (2 : Nat)).asInt (4 : Int) = (0 :
 Int) → False) → ((4 : Int) = (0 : Int) → False) ∧ (0 : Int) ≤ (IntKind.u8.wrap (((el (m8 l) x).fld (2 : Nat)).asInt + (1 : Int))).tmod (4 : Int) ∧ (IntKind.u8.wrap (((el (m8 l) x).fld (2 : Nat)).asInt
 + (1 : Int))).tmod (4 : Int) ≤ (↑abcd.length : Int) ∧ (↑abcd.length : Int) ≤ (↑abcd.length : Int) ∧ (0 : Int) ≤ (0 : Int) ∧ (0 : Int) ≤ (1 : Int) ∧ (1 : Int) ≤ (↑(List.take (abcd.length -
 ((IntKind.u8.wrap (((el (m8 l) x).fld (2 : Nat)).asInt + (1 : Int))).tmod (4 : Int)).toNat) (List.drop ((IntKind.u8.wrap (((el (m8 l) x).fld (2 : Nat)).asInt + (1 : Int))).tmod (4 : Int)).toNat
 abcd)).length : Int) ∧ (0 : Nat) + (1 : Nat) ≤ [D.str (nm2 (el (m8 l) x))].length ∧ (0 : Nat) + (1 : Nat) ≤ [D.str (nm1 (el (m8 l) x))].length ∧ (1 : Nat) + (1 : Nat) ≤ (16777216 : Nat) ∧ ((∃ (x_1 :
 Unit), bitsN ((el (m8 l) x).fld (2 : Nat)).asInt (4 : Int) = (0 : Int) ∧ False) ∨ ∃ (x_1 : Unit), (bitsN ((el (m8 l) x).fld (2 : Nat)).asInt (4 : Int) = (0 : Int) → False) ∧ (((0 : Nat) = (0 : Nat) ∧
 (1 : Nat) + (1 : Nat) = (2 : Nat) ∧ True) ∧ True) ∧ List.take (1 : Nat) [D.str (nm1 (el (m8 l) x))] ++ List.take (1 : Nat) [D.str (nm2 (el (m8 l) x))] = [D.str (nm1 (el (m8 l) x))] ++ [D.str (nm2 (el
 (m8 l) x))] ∧ True)) ∧ (((bitsN ((el (m8 l) x).fld (2 : Nat)).asInt (4 : Int) = (0 : Int) → False) → False) → (∃ (x_1 : Unit), bitsN ((el (m8 l) x).fld (2 : Nat)).asInt (4 : Int) = (0 : Int) ∧ (((0 :
 Nat) = (0 : Nat) ∧ (1 : Nat) = (1 : Nat) ∧ (1 : Nat) = (1 : Nat)) ∧ True) ∧ [D.str (nm1 (el (m8 l) x))] = [D.str (nm1 (el (m8 l) x))] ∧ True) ∨ ∃ (x_1 : Unit), (bitsN ((el (m8 l) x).fld (2 :
 Nat)).asInt (4 : Int) = (0 : Int) → False) ∧ False)) ∧ (∀ (x_1 : Unit), bitsN ((el (m8 l) x).fld (2 : Nat)).asInt (4 : Int) = (0 : Int) → (((el (m8 l) x).fld (4 : Nat)).asProp → ((mK (el (m8 l) x) =
 (1 : Int) → False) → (mK (el (m8 l) x) = (1 : Int) → (0 : Int) ≤ (0 : Int) ∧ (0 : Int) < (↑(1 : Nat) : Int) ∧ (0 : Nat) + (0 : Nat) < [D.str (nm1 (el (m8 l) x))].length ∧ (0 : Nat) + (1 : Nat) ≤
 [D.str (nm1 (el (m8 l) x))].length ∧ end1P l x ((nthD [D.str (nm1 (el (m8 l) x))] ((0 : Nat) + (0 : Nat))).asStr) (D.sct [D.int (mK (el (m8 l) x)), D.str (mR (m8 l) x), D.bool (false = true), D.list
 (List.take (1 : Nat) [D.str (nm1 (el (m8 l) x))]), D.int (0 : Int)])) ∧ ((mK (el (m8 l) x) = (1 : Int) → False) → (mK (el (m8 l) x) = (4 : Int) → ((2 : Int) = (0 : Int) → False) ∧
 ((-9223372036854775808 : Int) ≤ (1 : Int) + IntKind.i64.wrap (((el (m8 l) x).fld (1 : Nat)).asInt.tmod (2 : Int)) ∧ (1 : Int) + IntKind.i64.wrap (((el (m8 l) x).fld (1 : Nat)).asInt.tmod (2 : Int)) <
 (9223372036854775808 : Int)) ∧ end1P l x (mR (m8 l) x) (D.sct [D.int (mK (el (m8 l) x)), D.str (mR (m8 l) x), D.bool (cNm (el (m8 l) x)).asProp, D.nil, D.int ((1 : Int) + IntKind.i64.wrap (((el (m8 l)
 x).fld (1 : Nat)).asInt.tmod (2 : Int)))])) ∧ ((mK (el (m8 l) x) = (4 : Int) → False) → (mK (el (m8 l) x) = (5 : Int) → end1P l x (mR (m8 l) x) (D.sct [D.int (mK (el (m8 l) x)), D.str (mR (m8 l) x),
 D.bool (cNm (el (m8 l) x)).asProp, D.nil, D.int (0 : Int)])) ∧ ((mK (el (m8 l) x) = (5 : Int) → False) → (mK (el (m8 l) x) = (6 : Int) → (0 : Nat) + (1 : Nat) ≤ [D.str (nm1 (el (m8 l) x))].length ∧
 end1P l x (mR (m8 l) x) (D.sct [D.int (mK (el (m8 l) x)), D.str (mR (m8 l) x), D.bool (cNm (el (m8 l) x)).asProp, D.list (List.take (1 : Nat) [D.str (nm1 (el (m8 l) x))]), D.int (0 : Int)])) ∧ ((mK
 (el (m8 l) x) = (6 : Int) → False) → (mK (el (m8 l) x) = (7 : Int) → (0 : Nat) + (1 : Nat) ≤ [D.str (nm1 (el (m8 l) x))].length ∧ end1P l x (mR (m8 l) x) (D.sct [D.int (mK (el (m8 l) x)), D.str (mR
 (m8 l) x), D.bool (cNm (el (m8 l) x)).asProp, D.list (List.take (1 : Nat) [D.str (nm1 (el (m8 l) x))]), D.int (0 : Int)])) ∧ ((mK (el (m8 l) x) = (7 : Int) → False) → (mK (el (m8 l) x) = (10 : Int) →
 ((64 : Int) = (0 : Int) → False) ∧ end1P l x (mR (m8 l) x) (D.sct [D.int (mK (el (m8 l) x)), D.str (mR (m8 l) x), D.bool (false = true), D.nil, D.int (IntKind.i64.wrap (((el (m8 l) x).fld (1 :
 Nat)).asInt.tmod (64 : Int)))])) ∧ ((mK (el (m8 l) x) = (10 : Int) → False) → end1P l x (mR (m8 l) x) (D.sct [D.int (mK (el (m8 l) x)), D.str (mR (m8 l) x), D.bool (false = true), D.nil, D.int (0 :
 Int)])))))))) ∧ (((mK (el (m8 l) x) = (1 : Int) → False) → False) → (mK (el (m8 l) x) = (1 : Int) → (0 : Int) ≤ (0 : Int) ∧ (0 : Int) < (↑(1 : Nat) : Int) ∧ (0 : Nat) + (0 : Nat) < [D.str (nm1 (el (m8
 l) x))].length ∧ (0 : Nat) + (1 : Nat) ≤ [D.str (nm1 (el (m8 l) x))].length ∧ end1P l x ((nthD [D.str (nm1 (el (m8 l) x))] ((0 : Nat) + (0 : Nat))).asStr) (D.sct [D.int (mK (el (m8 l) x)), D.str [],
 D.bool (false = true), D.list (List.take (1 : Nat) [D.str (nm1 (el (m8 l) x))]), D.int (0 : Int)])) ∧ ((mK (el (m8 l) x) = (1 : Int) → False) → (mK (el (m8 l) x) = (4 : Int) → ((2 : Int) = (0 : Int) →
 False) ∧ ((-9223372036854775808 : Int) ≤ (1 : Int) + IntKind.i64.wrap (((el (m8 l) x).fld (1 : Nat)).asInt.tmod (2 : Int)) ∧ (1 : Int) + IntKind.i64.wrap (((el (m8 l) x).fld (1 : Nat)).asInt.tmod (2 :
 Int)) < (9223372036854775808 : Int)) ∧ end1P l x (mR (m8 l) x) (D.sct [D.int (mK (el (m8 l) x)), D.str [], D.bool (cNm (el (m8 l) x)).asProp, D.nil, D.int ((1 : Int) + IntKind.i64.wrap (((el (m8 l)
 x).fld (1 : Nat)).asInt.tmod (2 : Int)))])) ∧ ((mK (el (m8 l) x) = (4 : Int) → False) → (mK (el (m8 l) x) = (5 : Int) → end1P l x (mR (m8 l) x) (D.sct [D.int (mK (el (m8 l) x)), D.str [], D.bool (cNm
 (el (m8 l) x)).asProp, D.nil, D.int (0 : Int)])) ∧ ((mK (el (m8 l) x) = (5 : Int) → False) → (mK (el (m8 l) x) = (6 : Int) → (0 : Nat) + (1 : Nat) ≤ [D.str (nm1 (el (m8 l) x))].length ∧ end1P l x (mR
 (m8 l) x) (D.sct [D.int (mK (el (m8 l) x)), D.str [], D.bool (cNm (el (m8 l) x)).asProp, D.list (List.take (1 : Nat) [D.str (nm1 (el (m8 l) x))]), D.int (0 : Int)])) ∧ ((mK (el (m8 l) x) = (6 : Int) →
 False) → (mK (el (m8 l) x) = (7 : Int) → (0 : Nat) + (1 : Nat) ≤ [D.str (nm1 (el (m8 l) x))].length ∧ end1P l x (mR (m8 l) x) (D.sct [D.int (mK (el (m8 l) x)), D.str [], D.bool (cNm (el (m8 l)
 x)).asProp, D.list (List.take (1 : Nat) [D.str (nm1 (el (m8 l) x))]), D.int (0 : Int)])) ∧ ((mK (el (m8 l) x) = (7 : Int) → False) → (mK (el (m8 l) x) = (10 : Int) → ((64 : Int) = (0 : Int) → False) ∧
 end1P l x (mR (m8 l) x) (D.sct [D.int (mK (el (m8 l) x)), D.str [], D.bool (false = true), D.nil, D.int (IntKind.i64.wrap (((el (m8 l) x).fld (1 : Nat)).asInt.tmod (64 : Int)))])) ∧ ((mK (el (m8 l) x)
 = (10 : Int) → False) → end1P l x (mR (m8 l) x) (D.sct [D.int (mK (el (m8 l) x)), D.str [], D.bool (false = true), D.nil, D.int (0 : Int)]))))))))) ∧ ((((el (m8 l) x).fld (4 : Nat)).asProp → False) →
 (mK (el (m8 l) x) = (1 : Int) → (0 : Int) ≤ (0 : Int) ∧ (0 : Int) < (↑(1 : Nat) : Int) ∧ (0 : Nat) + (0 : Nat) < [D.str (nm1 (el (m8 l) x))].length ∧ (0 : Nat) + (1 : Nat) ≤ [D.str (nm1 (el (m8 l)
 x))].length ∧ end1P l x ((nthD [D.str (nm1 (el (m8 l) x))] ((0 : Nat) + (0 : Nat))).asStr) (D.sct [D.int (mK (el (m8 l) x)), D.str [], D.bool (false = true), D.list (List.take (1 : Nat) [D.str (nm1
 (el (m8 l) x))]), D.int (0 : Int)])) ∧ ((mK (el (m8 l) x) = (1 : Int) → False) → (mK (el (m8 l) x) = (4 : Int) → ((2 : Int) = (0 : Int) → False) ∧ ((-9223372036854775808 : Int) ≤ (1 : Int) +
 IntKind.i64.wrap (((el (m8 l) x).fld (1 : Nat)).asInt.tmod (2 : Int)) ∧ (1 : Int) + IntKind.i64.wrap (((el (m8 l) x).fld (1 : Nat)).asInt.tmod (2 : Int)) < (9223372036854775808 : Int)) ∧ end1P l x (mR
 (m8 l) x) (D.sct [D.int (mK (el (m8 l) x)), D.str [], D.bool (cNm (el (m8 l) x)).asProp, D.nil, D.int ((1 : Int) + IntKind.i64.wrap (((el (m8 l) x).fld (1 : Nat)).asInt.tmod (2 : Int)))])) ∧ ((mK (el
 (m8 l) x) = (4 : Int) → False) → (mK (el (m8 l) x) = (5 : Int) → end1P l x (mR (m8 l) x) (D.sct [D.int (mK (el (m8 l) x)), D.str [], D.bool (cNm (el (m8 l) x)).asProp, D.nil, D.int (0 : Int)])) ∧ ((mK
 (el (m8 l) x) = (5 : Int) → False) → (mK (el (m8 l) x) = (6 : Int) → (0 : Nat) + (1 : Nat) ≤ [D.str (nm1 (el (m8 l) x))].length ∧ end1P l x (mR (m8 l) x) (D.sct [D.int (mK (el (m8 l) x)), D.str [],
 D.bool (cNm (el (m8 l) x)).asProp, D.list (List.take (1 : Nat) [D.str (nm1 (el (m8 l) x))]), D.int (0 : Int)])) ∧ ((mK (el (m8 l) x) = (6 : Int) → False) → (mK (el (m8 l) x) = (7 : Int) → (0 : Nat) +
 (1 : Nat) ≤ [D.str (nm1 (el (m8 l) x))].length ∧ end1P l x (mR (m8 l) x) (D.sct [D.int (mK (el (m8 l) x)), D.str [], D.bool (cNm (el (m8 l) x)).asProp, D.list (List.take (1 : Nat) [D.str (nm1 (el (m8
 l) x))]), D.int (0 : Int)])) ∧ ((mK (el (m8 l) x) = (7 : Int) → False) → (mK (el (m8 l) x) = (10 : Int) → ((64 : Int) = (0 : Int) → False) ∧ end1P l x (mR (m8 l) x) (D.sct [D.int (mK (el (m8 l) x)),
 D.str [], D.bool (false = true), D.nil, D.int (IntKind.i64.wrap (((el (m8 l) x).fld (1 : Nat)).asInt.tmod (64 : Int)))])) ∧ ((mK (el (m8 l) x) = (10 : Int) → False) → end1P l x (mR (m8 l) x) (D.sct
 [D.int (mK (el (m8 l) x)), D.str [], D.bool (false = true), D.nil, D.int (0 : Int)]))))))))) ∧ ∀ (x_1 : Unit), (bitsN ((el (m8 l) x).fld (2 : Nat)).asInt (4 : Int) = (0 : Int) → False) → (((el (m8 l)
 x).fld (4 : Nat)).asProp → ((mK (el (m8 l) x) = (1 : Int) → False) → (mK (el (m8 l) x) = (1 : Int) → (0 : Int) ≤ (0 : Int) ∧ (0 : Int) < (↑(2 : Nat) : Int) ∧ (0 : Nat) + (0 : Nat) < ([D.str (nm1 (el
 (m8 l) x))] ++ [D.str (nm2 (el (m8 l) x))]).length ∧ (0 : Nat) + (2 : Nat) ≤ ([D.str (nm1 (el (m8 l) x))] ++ [D.str (nm2 (el (m8 l) x))]).length ∧ end1P l x ((nthD ([D.str (nm1 (el (m8 l) x))] ++
 [D.str (nm2 (el (m8 l) x))]) ((0 : Nat) + (0 : Nat))).asStr) (D.sct [D.int (mK (el (m8 l) x)), D.str (mR (m8 l) x), D.bool (false = true), D.list (List.take (2 : Nat) ([D.str (nm1 (el (m8 l) x))] ++
 [D.str (nm2 (el (m8 l) x))])), D.int (0 : Int)])) ∧ ((mK (el (m8 l) x) = (1 : Int) → False) → (mK (el (m8 l) x) = (4 : Int) → ((2 : Int) = (0 : Int) → False) ∧ ((-9223372036854775808 : Int) ≤ (1 :
 Int) + IntKind.i64.wrap (((el (m8 l) x).fld (1 : Nat)).asInt.tmod (2 : Int)) ∧ (1 : Int) + IntKind.i64.wrap (((el (m8 l) x).fld (1 : Nat)).asInt.tmod (2 : Int)) < (9223372036854775808 : Int)) ∧ end1P
 l x (mR (m8 l) x) (D.sct [D.int (mK (el (m8 l) x)), D.str (mR (m8 l) x), D.bool (cNm (el (m8 l) x)).asProp, D.nil, D.int ((1 : Int) + IntKind.i64.wrap (((el (m8 l) x).fld (1 : Nat)).asInt.tmod (2 :
 Int)))])) ∧ ((mK (el (m8 l) x) = (4 : Int) → False) → (mK (el (m8 l) x) = (5 : Int) → end1P l x (mR (m8 l) x) (D.sct [D.int (mK (el (m8 l) x)), D.str (mR (m8 l) x), D.bool (cNm (el (m8 l) x)).asProp,
 D.nil, D.int (0 : Int)])) ∧ ((mK (el (m8 l) x) = (5 : Int) → False) → (mK (el (m8 l) x) = (6 : Int) → (0 : Nat) + (2 : Nat) ≤ ([D.str (nm1 (el (m8 l) x))] ++ [D.str (nm2 (el (m8 l) x))]).length ∧
 end1P l x (mR (m8 l) x) (D.sct [D.int (mK (el (m8 l) x)), D.str (mR (m8 l) x), D.bool (cNm (el (m8 l) x)).asProp, D.list (List.take (2 : Nat) ([D.str (nm1 (el (m8 l) x))] ++ [D.str (nm2 (el (m8 l)
 x))])), D.int (0 : Int)])) ∧ ((mK (el (m8 l) x) = (6 : Int) → False) → (mK (el (m8 l) x) = (7 : Int) → (0 : Nat) + (2 : Nat) ≤ ([D.str (nm1 (el (m8 l) x))] ++ [D.str (nm2 (el (m8 l) x))]).length ∧
 end1P l x (mR (m8 l) x) (D.sct [D.int (mK (el (m8 l) x)), D.str (mR (m8 l) x), D.bool (cNm (el (m8 l) x)).asProp, D.list (List.take (2 : Nat) ([D.str (nm1 (el (m8 l) x))] ++ [D.str (nm2 (el (m8 l)
 x))])), D.int (0 : Int)])) ∧ ((mK (el (m8 l) x) = (7 : Int) → False) → (mK (el (m8 l) x) = (10 : Int) → ((64 : Int) = (0 : Int) → False) ∧ end1P l x (mR (m8 l) x) (D.sct [D.int (mK (el (m8 l) x)),
 D.str (mR (m8 l) x), D.bool (false = true), D.nil, D.int (IntKind.i64.wrap (((el (m8 l) x).fld (1 : Nat)).asInt.tmod (64 : Int)))])) ∧ ((mK (el (m8 l) x) = (10 : Int) → False) → end1P l x (mR (m8 l)
 x) (D.sct [D.int (mK (el (m8 l) x)), D.str (mR (m8 l) x), D.bool (false = true), D.nil, D.int (0 : Int)])))))))) ∧ (((mK (el (m8 l) x) = (1 : Int) → False) → False) → (mK (el (m8 l) x) = (1 : Int) →
 (0 : Int) ≤ (0 : Int) ∧ (0 : Int) < (↑(2 : Nat) : Int) ∧ (0 : Nat) + (0 : Nat) < ([D.str (nm1 (el (m8 l) x))] ++ [D.str (nm2 (el (m8 l) x))]).length ∧ (0 : Nat) + (2 : Nat) ≤ ([D.str (nm1 (el (m8 l)
 x))] ++ [D.str (nm2 (el (m8 l) x))]).length ∧ end1P l x ((nthD ([D.str (nm1 (el (m8 l) x))] ++ [D.str (nm2 (el (m8 l) x))]) ((0 : Nat) + (0 : Nat))).asStr) (D.sct [D.int (mK (el (m8 l) x)), D.str [],
 D.bool (false = true), D.list (List.take (2 : Nat) ([D.str (nm1 (el (m8 l) x))] ++ [D.str (nm2 (el (m8 l) x))])), D.int (0 : Int)])) ∧ ((mK (el (m8 l) x) = (1 : Int) → False) → (mK (el (m8 l) x) = (4
 : Int) → ((2 : Int) = (0 : Int) → False) ∧ ((-9223372036854775808 : Int) ≤ (1 : Int) + IntKind.i64.wrap (((el (m8 l) x).fld (1 : Nat)).asInt.tmod (2 : Int)) ∧ (1 : Int) + IntKind.i64.wrap (((el (m8 l)
 x).fld (1 : Nat)).asInt.tmod (2 : Int)) < (9223372036854775808 : Int)) ∧ end1P l x (mR (m8 l) x) (D.sct [D.int (mK (el (m8 l) x)), D.str [], D.bool (cNm (el (m8 l) x)).asProp, D.nil, D.int ((1 : Int)
 + IntKind.i64.wrap (((el (m8 l) x).fld (1 : Nat)).asInt.tmod (2 : Int)))])) ∧ ((mK (el (m8 l) x) = (4 : Int) → False) → (mK (el (m8 l) x) = (5 : Int) → end1P l x (mR (m8 l) x) (D.sct [D.int (mK (el
 (m8 l) x)), D.str [], D.bool (cNm (el (m8 l) x)).asProp, D.nil, D.int (0 : Int)])) ∧ ((mK (el (m8 l) x) = (5 : Int) → False) → (mK (el (m8 l) x) = (6 : Int) → (0 : Nat) + (2 : Nat) ≤ ([D.str (nm1 (el
 (m8 l) x))] ++ [D.str (nm2 (el (m8 l) x))]).length ∧ end1P l x (mR (m8 l) x) (D.sct [D.int (mK (el (m8 l) x)), D.str [], D.bool (cNm (el (m8 l) x)).asProp, D.list (List.take (2 : Nat) ([D.str (nm1 (el
 (m8 l) x))] ++ [D.str (nm2 (el (m8 l) x))])), D.int (0 : Int)])) ∧ ((mK (el (m8 l) x) = (6 : Int) → False) → (mK (el (m8 l) x) = (7 : Int) → (0 : Nat) + (2 : Nat) ≤ ([D.str (nm1 (el (m8 l) x))] ++
 [D.str (nm2 (el (m8 l) x))]).length ∧ end1P l x (mR (m8 l) x) (D.sct [D.int (mK (el (m8 l) x)), D.str [], D.bool (cNm (el (m8 l) x)).asProp, D.list (List.take (2 : Nat) ([D.str (nm1 (el (m8 l) x))] ++
 [D.str (nm2 (el (m8 l) x))])), D.int (0 : Int)])) ∧ ((mK (el (m8 l) x) = (7 : Int) → False) → (mK (el (m8 l) x) = (10 : Int) → ((64 : Int) = (0 : Int) → False) ∧ end1P l x (mR (m8 l) x) (D.sct [D.int
 (mK (el (m8 l) x)), D.str [], D.bool (false = true), D.nil, D.int (IntKind.i64.wrap (((el (m8 l) x).fld (1 : Nat)).asInt.tmod (64 : Int)))])) ∧ ((mK (el (m8 l) x) = (10 : Int) → False) → end1P l x (mR
 (m8 l) x) (D.sct [D.int (mK (el (m8 l) x)), D.str [], D.bool (false = true), D.nil, D.int (0 : Int)]))))))))) ∧ ((((el (m8 l) x).fld (4 : Nat)).asProp → False) → (mK (el (m8 l) x) = (1 : Int) → (0 :
 Int) ≤ (0 : Int) ∧ (0 : Int) < (↑(2 : Nat) : Int) ∧ (0 : Nat) + (0 : Nat) < ([D.str (nm1 (el (m8 l) x))] ++ [D.str (nm2 (el (m8 l) x))]).length ∧ (0 : Nat) + (2 : Nat) ≤ ([D.str (nm1 (el (m8 l) x))]
 ++ [D.str (nm2 (el (m8 l) x))]).length ∧ end1P l x ((nthD ([D.str (nm1 (el (m8 l) x))] ++ [D.str (nm2 (el (m8 l) x))]) ((0 : Nat) + (0 : Nat))).asStr) (D.sct [D.int (mK (el (m8 l) x)), D.str [],
 D.bool (false = true), D.list (List.take (2 : Nat) ([D.str (nm1 (el (m8 l) x))] ++ [D.str (nm2 (el (m8 l) x))])), D.int (0 : Int)])) ∧ ((mK (el (m8 l) x) = (1 : Int) → False) → (mK (el (m8 l) x) = (4
 : Int) → ((2 : Int) = (0 : Int) → False) ∧ ((-9223372036854775808 : Int) ≤ (1 : Int) + IntKind.i64.wrap (((el (m8 l) x).fld (1 : Nat)).asInt.tmod (2 : Int)) ∧ (1 : Int) + IntKind.i64.wrap (((el (m8 l)
 x).fld (1 : Nat)).asInt.tmod (2 : Int)) < (9223372036854775808 : Int)) ∧ end1P l x (mR (m8 l) x) (D.sct [D.int (mK (el (m8 l) x)), D.str [], D.bool (cNm (el (m8 l) x)).asProp, D.nil, D.int ((1 : Int)
 + IntKind.i64.wrap (((el (m8 l) x).fld (1 : Nat)).asInt.tmod (2 : Int)))])) ∧ ((mK (el (m8 l) x) = (4 : Int) → False) → (mK (el (m8 l) x) = (5 : Int) → end1P l x (mR (m8 l) x) (D.sct [D.int (mK (el
 (m8 l) x)), D.str [], D.bool (cNm (el (m8 l) x)).asProp, D.nil, D.int (0 : Int)])) ∧ ((mK (el (m8 l) x) = (5 : Int) → False) → (mK (el (m8 l) x) = (6 : Int) → (0 : Nat) + (2 : Nat) ≤ ([D.str (nm1 (el
 (m8 l) x))] ++ [D.str (nm2 (el (m8 l) x))]).length ∧ end1P l x (mR (m8 l) x) (D.sct [D.int (mK (el (m8 l) x)), D.str [], D.bool (cNm (el (m8 l) x)).asProp, D.list (List.take (2 : Nat) ([D.str (nm1 (el
 (m8 l) x))] ++ [D.str (nm2 (el (m8 l) x))])), D.int (0 : Int)])) ∧ ((mK (el (m8 l) x) = (6 : Int) → False) → (mK (el (m8 l) x) = (7 : Int) → (0 : Nat) + (2 : Nat) ≤ ([D.str (nm1 (el (m8 l) x))] ++
 [D.str (nm2 (el (m8 l) x))]).length ∧ end1P l x (mR (m8 l) x) (D.sct [D.int (mK (el (m8 l) x)), D.str [], D.bool (cNm (el (m8 l) x)).asProp, D.list (List.take (2 : Nat) ([D.str (nm1 (el (m8 l) x))] ++
 [D.str (nm2 (el (m8 l) x))])), D.int (0 : Int)])) ∧ ((mK (el (m8 l) x) = (7 : Int) → False) → (mK (el (m8 l) x) = (10 : Int) → ((64 : Int) = (0 : Int) → False) ∧ end1P l x (mR (m8 l) x) (D.sct [D.int
 (mK (el (m8 l) x)), D.str [], D.bool (false = true), D.nil, D.int (IntKind.i64.wrap (((el (m8 l) x).fld (1 : Nat)).asInt.tmod (64 : Int)))])) ∧ ((mK (el (m8 l) x) = (10 : Int) → False) → end1P l x (mR
 (m8 l) x) (D.sct [D.int (mK (el (m8 l) x)), D.str [], D.bool (false = true), D.nil, D.int (0 : Int)]))))))))) ∧ (((↑x : Int) < (↑(m8 l).len : Int) → False) → (0 : Nat) + x ≤ (mL (m8 l) x).length ∧
 D.list (List.take x (mL (m8 l) x)) = mD l)) := by intros; kernel_rfl
theorem min_nat8 (l : D) (k : Nat) : (min (l.len : Int) (k : Int)).toNat ≤ l.len ∧ (min (l.len : Int) (k : Int)).toNat ≤ k := by omega
theorem m8_len (l : D) : (m8 l).len ≤ l.len ∧ (m8 l).len ≤ 8 := by
 have h := min_nat8 l 8
 have e : (m8 l).len = (min (l.len : Int) ((8 : Nat) : Int)).toNat := sub_len l _ h.1
 rw [e]; exact h
theorem m8_el {l : D} {x : Nat} (hx : x < (m8 l).len) : el (m8 l) x = el l x := by
 have h := min_nat8 l 8
 have e : (m8 l).len = (min (l.len : Int) ((8 : Nat) : Int)).toNat := sub_len l _ h.1
 exact sub_el l _ x (by omega)
theorem mL_len (l : D) (n : Nat) : (mL l n).length = n := by unfold mL; rw [List.length_map, List.length_range]
theorem mL_succ (l : D) (x : Nat) : mL l (x + 1) = mL l x ++ [mC (el l x) (mR l x)] := by unfold mL; rw [List.range_succ, List.map_append]; rfl
theorem mL_app {l : D} {x : Nat} {e : D} (h : e = mC (el l x) (mR l x)) : List.take x (mL l x) ++ List.take 1 [e] = mL l (x + 1) := by
 subst h; rw [mL_succ, List.take_of_length_le (by rw [mL_len]; exact Nat.le_refl _)]; rfl
theorem mR_y {l : D} {x : Nat} (h : mK (el l x) = 1) : nm1 (el l x) = mR l (x + 1) := by show _ = if _ then _ else _; rw [if_pos h]
theorem mR_n {l : D} {x : Nat} (h : mK (el l x) = 1 → False) : mR l x = mR l (x + 1) := by show _ = if _ then _ else _; rw [if_neg h]
theorem am_y {d : D} {r : List UInt8} (h : (d.fld 4).asProp) (h1 : mK d = 1 → False) : r = mAm d r := by unfold mAm; rw [if_pos ⟨h, h1⟩]
theorem am_n1 {d : D} {r : List UInt8} (h : (d.fld 4).asProp → False) : [] = mAm d r := by unfold mAm; rw [if_neg fun k => h k.1]
theorem am_n2 {d : D} {r : List UInt8} (h : (mK d = 1 → False) → False) : [] = mAm d r := by unfold mAm; rw [if_neg fun k => h k.2]
theorem nm_0 {d : D} (h : bitsN (d.fld 2).asInt 4 = 0) : List.take 1 [D.str (nm1 d)] = mNm d := by unfold mNm; rw [if_pos h]; rfl
theorem nm_1 {d : D} (h : bitsN (d.fld 2).asInt 4 = 0 → False) : List.take 2 ([D.str (nm1 d)] ++ [D.str (nm2 d)]) = mNm d := by unfold mNm; rw [if_neg h]; rfl
theorem mC1 {d : D} {r a : List UInt8} {n : List D} (h : mK d = 1) (ha : a = mAm d r) (hn : n = mNm d) : D.sct [.int (mK d), .str a, .bool (false = true), .list n, .int 0] = mC d r := by unfold mC; rw [if_pos h, ha, hn]
theorem mC4 {d : D} {r a : List UInt8} (h : mK d = 4) (ha : a = mAm d r) : D.sct [.int (mK d), .str a, .bool (d.fld 3).asProp, .nil, .int (1 + IntKind.i64.wrap (((d.fld 1).asInt).tmod 2))] = mC d r := by unfold mC; rw [if_neg (by omega), if_pos h, ha]
theorem mC5 {d : D} {r a : List UInt8} (h : mK d = 5) (ha : a = mAm d r) : D.sct [.int (mK d), .str a, .bool (d.fld 3).asProp, .nil, .int 0] = mC d r := by unfold mC; rw [if_neg (by omega), if_neg (by omega), if_pos h, ha]
theorem mC6 {d : D} {r a : List UInt8} {n : List D} (h : mK d = 6) (ha : a = mAm d r) (hn : n = mNm d) : D.sct [.int (mK d), .str a, .bool (d.fld 3).asProp, .list n, .int 0] = mC d r := by unfold mC; rw [if_neg (by omega), if_neg (by omega), if_neg (by omega), if_pos (.inl h), ha, hn]
theorem mC7 {d : D} {r a : List UInt8} {n : List D} (h : mK d = 7) (ha : a = mAm d r) (hn : n = mNm d) : D.sct [.int (mK d), .str a, .bool (d.fld 3).asProp, .list n, .int 0] = mC d r := by unfold mC; rw [if_neg (by omega), if_neg (by omega), if_neg (by omega), if_pos (.inr h), ha, hn]
theorem mC10 {d : D} {r a : List UInt8} (h : mK d = 10) (ha : a = mAm d r) : D.sct [.int (mK d), .str a, .bool (false = true), .nil, .int (IntKind.i64.wrap (((d.fld 1).asInt).tmod 64))] = mC d r := by unfold mC; rw [if_neg (by omega), if_neg (by omega), if_neg (by omega), if_neg (by omega), if_pos h, ha]
theorem mC0 {d : D} {r a : List UInt8} (h1 : mK d = 1 → False) (h4 : mK d = 4 → False) (h5 : mK d = 5 → False) (h6 : mK d = 6 → False) (h7 : mK d = 7 → False) (h10 : mK d = 10 → False) (ha : a = mAm d r) :
  D.sct [.int (mK d), .str a, .bool (false = true), .nil, .int 0] = mC d r := by unfold mC; rw [if_neg h1, if_neg h4, if_neg h5, if_neg (fun k => k.elim h6 h7), if_neg h10, ha]
theorem mend {l : D} {x : Nat} {e : D} {r : List UInt8} (hx : (x : Int) < l.len) (he : e = mC (el l x) (mR l x)) (hr : r = mR l (x + 1)) :
  (∃ y : Nat, y = 0 ∧ l.len - y < l.len - x ∧ ((x : Int) + 1 = 0 ∧ False ∧ r = [] ∧ True) ∧ True) ∨
  ∃ y : Nat, (0 < y ∧ y ≤ l.len) ∧ l.len - y < l.len - x ∧ ((x : Int) + 1 = (y : Int) ∧ ((0 : Nat) = 0 ∧ x + 1 = y ∧ True) ∧ r = mR l y ∧ True) ∧ List.take x (mL l x) ++ List.take 1 [e] = mL l y ∧ True :=
 .inr ⟨x + 1, ⟨by omega, by omega⟩, by omega, ⟨by omega, ⟨rfl, rfl, trivial⟩, hr, trivial⟩, mL_app he, trivial⟩
theorem mend0 {l : D} {e : D} {r : List UInt8} (hx : (0 : Int) < l.len) (he : e = mC (el l 0) []) (hr : r = mR l 1) :
  (∃ y : Nat, y = 0 ∧ l.len - y < l.len - 0 ∧ ((0 : Int) + 1 = 0 ∧ False ∧ r = [] ∧ True) ∧ True) ∨
  ∃ y : Nat, (0 < y ∧ y ≤ l.len) ∧ l.len - y < l.len - 0 ∧ ((0 : Int) + 1 = (y : Int) ∧ ((0 : Nat) = 0 ∧ 1 = y ∧ True) ∧ r = mR l y ∧ True) ∧ List.take 1 [e] = mL l y ∧ True :=
 .inr ⟨1, ⟨by omega, by omega⟩, by omega, ⟨rfl, ⟨rfl, rfl, trivial⟩, hr, trivial⟩, mL_app (x := 0) he, trivial⟩
theorem mR_n0 {l : D} (h : mK (el l 0) = 1 → False) : [] = mR l 1 := mR_n h
theorem mod4 {c : Int} (h : 0 ≤ c) : 0 ≤ c.tmod 4 ∧ c.tmod 4 ≤ 3 := by rw [Int.tmod_eq_emod_of_nonneg h]; omega
theorem u8w8 (n : Int) : 0 ≤ IntKind.u8.wrap n ∧ IntKind.u8.wrap n < 256 := by
 show 0 ≤ n.emod 256 ∧ n.emod 256 < 256
 exact ⟨Int.emod_nonneg _ (by decide), Int.emod_lt_of_pos _ (by decide)⟩
theorem listD_some8 {l : List D} (h : 0 < l.length) : D.list l = listD l := by
 cases l with
 | nil => cases h
 | cons a l => rfl
theorem s11 (l : D) (hu : u8Cs l) : symFun (ctxr (fun _ => none) rfAnn) 3 11 [.dat 31 l] (.dat 22 (mD l)) := by
 rw [vc11]
 have hl := m8_len l
 have hp : ∀ x, x < (m8 l).len → u8C (el (m8 l) x) := fun x h => by rw [m8_el h]; exact hu.out x (by omega)
 refine ⟨Int.le_refl _, by omega, by omega, Or.inl ⟨0, rfl, ⟨rfl, trivial, rfl, trivial⟩, trivial⟩, fun x hx => ⟨n_lim (by omega), fun h => ?_, fun h => ?_⟩, fun x hx => ⟨n_lim (by omega), fun h => ?_, fun h => ⟨by rw [mL_len]; omega, ?_⟩⟩⟩
 ·subst hx
  have hq := (hp 0 (by omega)).out
  have e1 := mod4 hq.2.2.1
  have e2 := mod4 (u8w8 (((el (m8 l) 0).fld 2).asInt + 1)).1
  have w2 := w_mod hq.2.1 2 (by omega)
  have w64 := w_mod hq.2.1 64 (by omega)
  clear hp hl hu
  repeat' (first | apply And.intro | intro _ | refine Or.inl (Exists.intro () (And.intro (Classical.byContradiction ‹(bitsN _ 4 = 0 → False) → False›) ?_)) | refine Or.inr (Exists.intro () (And.intro ‹bitsN _ 4 = 0 → False› ?_)) | fail)
  all_goals first
   | with_reducible rfl
   | exact True.intro
   | omega
   | exact Nat.le_refl _
   | exact let_n ‹_›
   | exact let_le ‹_›
   | exact mend0 h (mC1 ‹_› (by first | exact am_y ‹_› ‹_› | exact am_n1 ‹_› | exact am_n2 ‹_›) (by first | exact nm_0 ‹_› | exact nm_1 ‹_›)) (mR_y (x := 0) ‹_›)
   | exact mend0 h (mC4 ‹_› (by first | exact am_y ‹_› ‹_› | exact am_n1 ‹_› | exact am_n2 ‹_›)) (mR_n0 ‹_›)
   | exact mend0 h (mC5 ‹_› (by first | exact am_y ‹_› ‹_› | exact am_n1 ‹_› | exact am_n2 ‹_›)) (mR_n0 ‹_›)
   | exact mend0 h (mC6 ‹_› (by first | exact am_y ‹_› ‹_› | exact am_n1 ‹_› | exact am_n2 ‹_›) (by first | exact nm_0 ‹_› | exact nm_1 ‹_›)) (mR_n0 ‹_›)
   | exact mend0 h (mC7 ‹_› (by first | exact am_y ‹_› ‹_› | exact am_n1 ‹_› | exact am_n2 ‹_›) (by first | exact nm_0 ‹_› | exact nm_1 ‹_›)) (mR_n0 ‹_›)
   | exact mend0 h (mC10 ‹_› (by first | exact am_y ‹_› ‹_› | exact am_n1 ‹_› | exact am_n2 ‹_›)) (mR_n0 ‹_›)
   | exact mend0 h (mC0 ‹_› ‹_› ‹_› ‹_› ‹_› ‹_› (by first | exact am_y ‹_› ‹_› | exact am_n1 ‹_› | exact am_n2 ‹_›)) (mR_n0 ‹_›)
   | rfl
   | exact Nat.zero_lt_succ _
 ·have e : (m8 l).len = 0 := by have h : ¬ (0 : Int) < ((m8 l).len : Int) := h; omega
  show D.nil = listD (mL (m8 l) (m8 l).len)
  rw [e]; rfl
 ·have hq := (hp x (by omega)).out
  have e1 := mod4 hq.2.2.1
  have e2 := mod4 (u8w8 (((el (m8 l) x).fld 2).asInt + 1)).1
  have w2 := w_mod hq.2.1 2 (by omega)
  have w64 := w_mod hq.2.1 64 (by omega)
  have hll : 0 + x ≤ (mL (m8 l) x).length := by rw [mL_len]; omega
  clear hp hu
  repeat' (first | apply And.intro | intro _ | refine Or.inl (Exists.intro () (And.intro (Classical.byContradiction ‹(bitsN _ 4 = 0 → False) → False›) ?_)) | refine Or.inr (Exists.intro () (And.intro ‹bitsN _ 4 = 0 → False› ?_)) | fail)
  all_goals first
   | with_reducible rfl
   | exact True.intro
   | omega
   | exact hll
   | exact Nat.le_refl _
   | exact let_n ‹_›
   | exact let_le ‹_›
   | exact mend h (mC1 ‹_› (by first | exact am_y ‹_› ‹_› | exact am_n1 ‹_› | exact am_n2 ‹_›) (by first | exact nm_0 ‹_› | exact nm_1 ‹_›)) (mR_y ‹_›)
   | exact mend h (mC4 ‹_› (by first | exact am_y ‹_› ‹_› | exact am_n1 ‹_› | exact am_n2 ‹_›)) (mR_n ‹_›)
   | exact mend h (mC5 ‹_› (by first | exact am_y ‹_› ‹_› | exact am_n1 ‹_› | exact am_n2 ‹_›)) (mR_n ‹_›)
   | exact mend h (mC6 ‹_› (by first | exact am_y ‹_› ‹_› | exact am_n1 ‹_› | exact am_n2 ‹_›) (by first | exact nm_0 ‹_› | exact nm_1 ‹_›)) (mR_n ‹_›)
   | exact mend h (mC7 ‹_› (by first | exact am_y ‹_› ‹_› | exact am_n1 ‹_› | exact am_n2 ‹_›) (by first | exact nm_0 ‹_› | exact nm_1 ‹_›)) (mR_n ‹_›)
   | exact mend h (mC10 ‹_› (by first | exact am_y ‹_› ‹_› | exact am_n1 ‹_› | exact am_n2 ‹_›)) (mR_n ‹_›)
   | exact mend h (mC0 ‹_› ‹_› ‹_› ‹_› ‹_› ‹_› (by first | exact am_y ‹_› ‹_› | exact am_n1 ‹_› | exact am_n2 ‹_›)) (mR_n ‹_›)
   | rfl
   | exact Nat.zero_lt_succ _
 ·have e := x_end hx.2 h
  subst e
  rw [List.take_of_length_le (by rw [mL_len]; exact Nat.le_refl _)]
  exact listD_some8 (by rw [mL_len]; exact hx.1)
end Go.Ev

end

section
open Go.Proofs
namespace Go.Ev
set_option maxRecDepth 100000
theorem scan_all {c : D} : ∀ (f i : Nat), (∀ k, i ≤ k → k < i + f → err1 c k = 0) → scanZ c f i = (0, 0)
 | 0, _, _ => rfl
 | f + 1, i, h => by
  unfold scanZ
  rw [if_neg (fun k => k (h i (Nat.le_refl _) (by omega)))]
  exact scan_all f (i + 1) fun k h1 h2 => h k (by omega) (by omega)
theorem bad_all {c : D} (hl : c.len ≤ 32) (h : ∀ i, i < c.len → err1 c i = 0) : (badZ c).2 = 0 := by
 unfold badZ
 rw [if_neg (by omega), scan_all _ _ fun k _ h2 => h k (by omega)]
theorem bad_err {c : D} (h : (badZ c).2 = 0) {x : Nat} (hx : x < c.len) : err1 c x = 0 := by
 unfold badZ at h
 split at h
 ·cases h
 ·exact scan_zero c.len 0 h x (Nat.zero_le _) (by omega)
theorem err_zero {c : D} {i : Nat} {k : Int} {a : List UInt8} {la : Prop} {nm : D} {n : Int} :
  errC c i k a la nm n = 0 ↔ formP k a la nm.len n ∧ ¬ badNm nm ∧ ¬ (a ≠ [] ∧ ¬ nameP a) ∧ ¬ twiceP nm ∧ ¬ (a ≠ [] ∧ ¬ listedP c i a) := by
 unfold errC
 by_cases h1 : formP k a la nm.len n
 ·rw [if_neg (fun q => q h1)]
  by_cases h2 : badNm nm ∨ (a ≠ [] ∧ ¬ nameP a)
  ·rw [if_pos h2]; exact ⟨fun q => by omega, fun q => (h2.elim (fun w => q.2.1 w) (fun w => q.2.2.1 w)).elim⟩
  ·rw [if_neg h2]
   by_cases h3 : twiceP nm
   ·rw [if_pos h3]; exact ⟨fun q => by omega, fun q => (q.2.2.2.1 h3).elim⟩
   ·rw [if_neg h3]
    by_cases h4 : a ≠ [] ∧ ¬ listedP c i a
    ·rw [if_pos h4]; exact ⟨fun q => by omega, fun q => (q.2.2.2.2 h4).elim⟩
    ·rw [if_neg h4]; exact ⟨fun _ => ⟨h1, fun w => h2 (.inl w), fun w => h2 (.inr w), h3, h4⟩, fun _ => rfl⟩
 ·rw [if_pos h1]; exact ⟨fun q => by omega, fun q => (h1 q.1).elim⟩
theorem sAt_as {l m : D} (h : l.asList = m.asList) (i : Nat) : sAt l i = sAt m i := by unfold sAt; rw [h]
theorem lenE_as {l m : D} (h : l.asList = m.asList) : l.len = m.len := by unfold D.len; rw [h]
theorem bad_as {l m : D} (h : l.asList = m.asList) (k : badNm l) : badNm m := by
 obtain ⟨i, a, b⟩ := k.out; exact ⟨i, by rw [← lenE_as h]; exact a, by rw [← sAt_as h]; exact b⟩
theorem twice_as {l m : D} (h : l.asList = m.asList) (k : twiceP l) : twiceP m := by
 obtain ⟨i, j, a, b, e⟩ := k.out; exact ⟨i, j, a, by rw [← lenE_as h]; exact b, by rw [← sAt_as h, ← sAt_as h]; exact e⟩
theorem listD_asl (l : List D) : (listD l).asList = l := by cases l <;> rfl
theorem cpL_len (l : D) (n : Nat) : (cpL l n).length = n := by unfold cpL; rw [List.length_map, List.length_range]
theorem cpL_at (l : D) {n i : Nat} (h : i < n) : nthD (cpL l n) i = cpC (el l i) := by
 unfold nthD cpL
 rw [List.getElem?_map, List.getElem?_range h]; rfl
theorem cat_len (c d : D) : (catD c d).len = c.len + d.len := by
 unfold D.len catD; rw [listD_asl, List.length_append, cpL_len, cpL_len]; rfl
theorem cat_l {c d : D} {i : Nat} (h : i < c.len) : el (catD c d) i = cpC (el c i) := by
 unfold el catD
 rw [listD_asl]
 have : nthD (cpL c c.len ++ cpL d d.len) i = nthD (cpL c c.len) i := by unfold nthD; rw [List.getElem?_append_left (by rw [cpL_len]; exact h)]
 rw [this, cpL_at c h]; rfl
theorem cat_r {c d : D} {i : Nat} (h : i < d.len) : el (catD c d) (c.len + i) = cpC (el d i) := by
 unfold el catD
 rw [listD_asl]
 have : nthD (cpL c c.len ++ cpL d d.len) (c.len + i) = nthD (cpL d d.len) i := by
  unfold nthD
  rw [List.getElem?_append_right (by rw [cpL_len]; omega), cpL_len, Nat.add_sub_cancel_left]
 rw [this, cpL_at d h]; rfl
theorem cp_nm (d : D) : (cNm (cpC d)).asList = (cNm d).asList := listD_asl _
theorem err_cp {c e : D} {x y : Nat} {d : D} (hl : ∀ a, listedP c x a → listedP e y a) (h : errC c x (cK d) (cA d) (cL d) (cNm d) (cN d) = 0) : errC e y (cK (cpC d)) (cA (cpC d)) (cL (cpC d)) (cNm (cpC d)) (cN (cpC d)) = 0 := by
 obtain ⟨h1, h2, h3, h4, h5⟩ := err_zero.1 h
 refine err_zero.2 ⟨?_, fun q => h2 (bad_as (cp_nm d) q), h3, fun q => h4 (twice_as (cp_nm d) q), fun q => h5 ⟨q.1, fun w => q.2 (hl _ w)⟩⟩
 rw [lenE_as (cp_nm d)]; exact h1
theorem has_cp {d : D} {s : List UInt8} (h : hasP (cNm d) s) : hasP (cNm (cpC d)) s := (hasP_as (cp_nm d) s).2 h
theorem listed_l {c d : D} {x : Nat} (hx : x ≤ c.len) {a : List UInt8} (h : listedP c x a) : listedP (catD c d) x a := by
 obtain ⟨k, h1, h2, h3⟩ := h.out
 exact ⟨k, h1, by rw [cat_l (by omega)]; exact h2, by rw [cat_l (by omega)]; exact has_cp h3⟩
theorem listed_r {c d : D} {x : Nat} (hx : x ≤ d.len) {a : List UInt8} (h : listedP d x a) : listedP (catD c d) (c.len + x) a := by
 obtain ⟨k, h1, h2, h3⟩ := h.out
 exact ⟨c.len + k, by omega, by rw [cat_r (by omega)]; exact h2, by rw [cat_r (by omega)]; exact has_cp h3⟩
theorem cat_bad {c d : D} (hc : (badZ c).2 = 0) (hd : (badZ d).2 = 0) (hl : c.len + d.len ≤ 32) : (badZ (catD c d)).2 = 0 := by
 refine bad_all (by rw [cat_len]; exact hl) fun i hi => ?_
 rw [cat_len] at hi
 rcases Nat.lt_or_ge i c.len with h | h
 ·unfold err1
  rw [cat_l h]
  exact err_cp (fun a => listed_l (by omega)) (bad_err hc h)
 ·obtain ⟨j, rfl⟩ : ∃ j, i = c.len + j := ⟨i - c.len, by omega⟩
  unfold err1
  rw [cat_r (by omega)]
  exact err_cp (fun a => listed_r (by omega)) (bad_err hd (by omega))
theorem cat_small {c d : D} (hc : smallC c) (hd : smallC d) (hl : c.len + d.len ≤ 32) : smallC (catD c d) := by
 refine ⟨by rw [cat_len]; omega, fun i hi => ?_⟩
 rw [cat_len] at hi
 rcases Nat.lt_or_ge i c.len with h | h
 ·rw [cat_l h, lenE_as (cp_nm _)]; exact hc.out.2 i h
 ·obtain ⟨j, rfl⟩ : ∃ j, i = c.len + j := ⟨i - c.len, by omega⟩
  rw [cat_r (by omega), lenE_as (cp_nm _)]; exact hd.out.2 j (by omega)
theorem any_as {l m : D} (h : l.asList = m.asList) (t : D) : anyP t l ↔ anyP t m := by
 constructor
 ·intro k; obtain ⟨i, a, b⟩ := k.out; exact ⟨i, a, (hasP_as h _).1 b⟩
 ·intro k; obtain ⟨i, a, b⟩ := k.out; exact ⟨i, a, (hasP_as h _).2 b⟩
theorem naP_as {l m : D} (h : l.asList = m.asList) (k n : Int) (g : GD) : naP k l n g ↔ naP k m n g := by
 rw [naP_iff, naP_iff, hasP_as h, any_as h]
theorem befP_as {l m : D} (h : l.asList = m.asList) (k : Int) (la : Prop) (n : Int) (a b : GD) (i j : Int) : befP k la l n a b i j ↔ befP k la m n a b i j := by
 rw [befP_iff, befP_iff, naP_as h, naP_as h, idx_as h, idx_as h]
theorem clZ_cp (d : D) (a b : GD) (i j : Int) : clZ (cK (cpC d)) (cA (cpC d)) (cL (cpC d)) (cNm (cpC d)) (cN (cpC d)) a b i j = clZ (cK d) (cA d) (cL d) (cNm d) (cN d) a b i j := by
 show clZ (cK d) (cA d) (cL d) (cNm (cpC d)) (cN d) a b i j = _
 unfold clZ
 have e1 := propext (befP_as (cp_nm d) (cK d) (cL d) (cN d) a b i j)
 have e2 := propext (befP_as (cp_nm d) (cK d) (cL d) (cN d) b a j i)
 rw [e1, e2]
theorem sep_cat {f g h : Nat → Int} {q : Nat} : ∀ (p i : Nat), (∀ k, k < p → f (i + k) = g (i + k)) → (∀ k, k < q → f (i + p + k) = h k) →
  (sepF f (p + q) i).2 = if (sepF g p i).2 ≠ 0 then (sepF g p i).2 else (sepF h q 0).2
 | 0, i, _, hh => by
  rw [Nat.zero_add, show (sepF g 0 i).2 = 0 from rfl, if_neg (fun k => k rfl)]
  have gen : ∀ (m j : Nat), j + m ≤ q → (sepF f m (i + j)).2 = (sepF h m j).2 := by
   intro m
   induction m with
   | zero => intro j _; rfl
   | succ m ih =>
    intro j hj
    have e := hh j (by omega)
    rw [Nat.add_zero] at e
    unfold sepF
    rw [e]
    by_cases z : h j ≠ 0
    ·rw [if_pos z, if_pos z]
    ·rw [if_neg z, if_neg z]; exact ih (j + 1) (by omega)
  exact gen q 0 (by omega)
 | p + 1, i, hg, hh => by
  rw [show p + 1 + q = (p + q) + 1 by omega, show sepF f ((p + q) + 1) i = (if f i ≠ 0 then (((i : Nat) : Int), f i) else sepF f (p + q) (i + 1)) from rfl,
   show sepF g (p + 1) i = (if g i ≠ 0 then (((i : Nat) : Int), g i) else sepF g p (i + 1)) from rfl]
  have e := hg 0 (by omega)
  rw [Nat.add_zero] at e
  rw [e]
  by_cases z : g i ≠ 0
  ·rw [if_pos z, if_pos z]; rw [if_pos z]
  ·rw [if_neg z, if_neg z]
   exact sep_cat (f := f) (g := g) (h := h) p (i + 1) (fun k hk => by have w := hg (k + 1) (by omega); rwa [show i + (k + 1) = i + 1 + k by omega] at w) (fun k hk => by have w := hh k hk; rwa [show i + (p + 1) + k = i + 1 + p + k by omega] at w)
theorem rea_cat {c d : D} (hc : (badZ c).2 = 0) (hd : (badZ d).2 = 0) (hl : c.len + d.len ≤ 32) (a b : GD) (i j : Int) :
  (reaZ (catD c d) a b i j).2 = if (reaZ c a b i j).2 ≠ 0 then (reaZ c a b i j).2 else (reaZ d a b i j).2 := by
 unfold reaZ
 rw [if_pos (cat_bad hc hd hl), if_pos hc, if_pos hd, cat_len]
 refine sep_cat c.len 0 (fun k hk => ?_) (fun k hk => ?_)
 ·rw [Nat.zero_add]; unfold clE; rw [cat_l hk]; exact clZ_cp _ a b i j
 ·rw [Nat.zero_add]; unfold clE; rw [cat_r hk]; exact clZ_cp _ a b i j
end Go.Ev

end
