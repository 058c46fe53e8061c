/-
  Part of the engine that the claim is proved with: it states nothing of the document by itself.
-/
import Derived.Test.YtcacemdhmfjliaaGreatDoorCoreG21
import Derived.Test.YtcacemdhmfjliaaGreatDoorCoreCcC
open Go.Proofs
namespace Go.Ev
set_option maxRecDepth 100000
set_option maxHeartbeats 4000000
def smB : List UInt8 := [48, 48, 48, 49, 48, 50, 48, 51, 48, 52, 48, 53, 48, 54, 48, 55, 48, 56, 48, 57, 49, 48, 49, 49, 49, 50, 49, 51, 49, 52, 49, 53, 49, 54, 49, 55, 49, 56, 49, 57, 50, 48, 50, 49,
50, 50, 50, 51, 50, 52, 50, 53, 50, 54, 50, 55, 50, 56, 50, 57, 51, 48, 51, 49, 51, 50, 51, 51, 51, 52, 51, 53, 51, 54, 51, 55, 51, 56, 51, 57, 52, 48, 52, 49, 52, 50, 52, 51, 52, 52, 52, 53, 52, 54,
52, 55, 52, 56, 52, 57, 53, 48, 53, 49, 53, 50, 53, 51, 53, 52, 53, 53, 53, 54, 53, 55, 53, 56, 53, 57, 54, 48, 54, 49, 54, 50, 54, 51, 54, 52, 54, 53, 54, 54, 54, 55, 54, 56, 54, 57, 55, 48, 55, 49,
55, 50, 55, 51, 55, 52, 55, 53, 55, 54, 55, 55, 55, 56, 55, 57, 56, 48, 56, 49, 56, 50, 56, 51, 56, 52, 56, 53, 56, 54, 56, 55, 56, 56, 56, 57, 57, 48, 57, 49, 57, 50, 57, 51, 57, 52, 57, 53, 57, 54,
57, 55, 57, 56, 57, 57]
def digsB : List UInt8 := [48, 49, 50, 51, 52, 53, 54, 55, 56, 57] ++ letsB
theorem vc58 : ∀ (k : Int), symFun (ctx (fun _ => none) cfAnn) (3 : Nat) (58 : FuncId) [V.int IntKind.i64 k] (V.str (wordB k)) = (((-9223372036854775808 : Int) ≤ k - (1 : Int) ∧ k - (1 : Int) <
(9223372036854775808 : Int)) ∧ (0 : Int) ≤ k - (1 : Int) ∧ k - (1 : Int) < (↑(10 : Nat) : Int) ∧ (k - (1 : Int)).toNat < [D.str [(114 : UInt8), (97 : UInt8), (110 : UInt8), (107 : UInt8)], D.str [(101
: UInt8), (108 : UInt8), (100 : UInt8), (101 : UInt8), (114 : UInt8)], D.str [(121 : UInt8), (111 : UInt8), (117 : UInt8), (116 : UInt8), (104 : UInt8)], D.str [(115 : UInt8), (105 : UInt8), (100 :
UInt8), (101 : UInt8)], D.str [(104 : UInt8), (111 : UInt8), (115 : UInt8), (116 : UInt8)], D.str [(116 : UInt8), (111 : UInt8), (110 : UInt8), (103 : UInt8), (117 : UInt8), (101 : UInt8)], D.str [(99
: UInt8), (111 : UInt8), (117 : UInt8), (114 : UInt8), (116 : UInt8)], D.str [(110 : UInt8), (97 : UInt8), (109 : UInt8), (101 : UInt8)], D.str [(108 : UInt8), (105 : UInt8), (115 : UInt8), (116 :
UInt8)], D.str [(108 : UInt8), (111 : UInt8), (116 : UInt8)]].length ∧ (nthD [D.str [(114 : UInt8), (97 : UInt8), (110 : UInt8), (107 : UInt8)], D.str [(101 : UInt8), (108 : UInt8), (100 : UInt8),
(101 : UInt8), (114 : UInt8)], D.str [(121 : UInt8), (111 : UInt8), (117 : UInt8), (116 : UInt8), (104 : UInt8)], D.str [(115 : UInt8), (105 : UInt8), (100 : UInt8), (101 : UInt8)], D.str [(104 :
UInt8), (111 : UInt8), (115 : UInt8), (116 : UInt8)], D.str [(116 : UInt8), (111 : UInt8), (110 : UInt8), (103 : UInt8), (117 : UInt8), (101 : UInt8)], D.str [(99 : UInt8), (111 : UInt8), (117 :
UInt8), (114 : UInt8), (116 : UInt8)], D.str [(110 : UInt8), (97 : UInt8), (109 : UInt8), (101 : UInt8)], D.str [(108 : UInt8), (105 : UInt8), (115 : UInt8), (116 : UInt8)], D.str [(108 : UInt8), (111
: UInt8), (116 : UInt8)]] (k - (1 : Int)).toNat).asStr = wordB k) := by intros; kernel_rfl
theorem vc59 : ∀ (n : Int), symFun (ctx (fun _ => none) cfAnn) (2 : Nat) (59 : FuncId) [V.int IntKind.i64 n] (V.str (decB n)) = ((n < (10 : Int) → ((-9223372036854775808 : Int) ≤ (48 : Int) + n ∧ (48
: Int) + n < (9223372036854775808 : Int)) ∧ (0 : Nat) + (1 : Nat) ≤ [D.int (IntKind.u8.wrap ((48 : Int) + n))].length ∧ byteL (List.take (1 : Nat) [D.int (IntKind.u8.wrap ((48 : Int) + n))]) ∧ bytesD
(List.take (1 : Nat) [D.int (IntKind.u8.wrap ((48 : Int) + n))]) = decB n) ∧ ((n < (10 : Int) → False) → ((10 : Int) = (0 : Int) → False) ∧ ((-9223372036854775808 : Int) ≤ n.tdiv (10 : Int) ∧ n.tdiv
(10 : Int) < (9223372036854775808 : Int)) ∧ (n.tdiv (10 : Int) < (10 : Int) → ((-9223372036854775808 : Int) ≤ (48 : Int) + n.tdiv (10 : Int) ∧ (48 : Int) + n.tdiv (10 : Int) < (9223372036854775808 :
Int)) ∧ (0 : Nat) + (1 : Nat) ≤ [D.int (IntKind.u8.wrap ((48 : Int) + n.tdiv (10 : Int)))].length ∧ byteL (List.take (1 : Nat) [D.int (IntKind.u8.wrap ((48 : Int) + n.tdiv (10 : Int)))]) ∧ ((10 : Int)
= (0 : Int) → False) ∧ ((-9223372036854775808 : Int) ≤ (48 : Int) + n.tmod (10 : Int) ∧ (48 : Int) + n.tmod (10 : Int) < (9223372036854775808 : Int)) ∧ (0 : Nat) + (1 : Nat) ≤ [D.int (IntKind.u8.wrap
((48 : Int) + n.tmod (10 : Int)))].length ∧ byteL (List.take (1 : Nat) [D.int (IntKind.u8.wrap ((48 : Int) + n.tmod (10 : Int)))]) ∧ (bytesD (List.take (1 : Nat) [D.int (IntKind.u8.wrap ((48 : Int) +
n.tdiv (10 : Int)))])).length + (bytesD (List.take (1 : Nat) [D.int (IntKind.u8.wrap ((48 : Int) + n.tmod (10 : Int)))])).length < (9223372036854775808 : Nat) ∧ bytesD (List.take (1 : Nat) [D.int
(IntKind.u8.wrap ((48 : Int) + n.tdiv (10 : Int)))]) ++ bytesD (List.take (1 : Nat) [D.int (IntKind.u8.wrap ((48 : Int) + n.tmod (10 : Int)))]) = decB n) ∧ ((n.tdiv (10 : Int) < (10 : Int) → False) →
((10 : Int) = (0 : Int) → False) ∧ ((-9223372036854775808 : Int) ≤ (n.tdiv (10 : Int)).tdiv (10 : Int) ∧ (n.tdiv (10 : Int)).tdiv (10 : Int) < (9223372036854775808 : Int)) ∧ False))) := by intros; kernel_rfl
theorem vc84 : ∀ (n : Int), symFun (ctx cf0 cfAnn) (6 : Nat) (84 : FuncId) [V.int IntKind.i64 n] (V.str (decB n)) = (((0 : Int) ≤ n → (n < (100 : Int) → (n < (10 : Int) → ((-9223372036854775808 : Int)
≤ n + (1 : Int) ∧ n + (1 : Int) < (9223372036854775808 : Int)) ∧ (0 : Int) ≤ n ∧ n ≤ n + (1 : Int) ∧ n + (1 : Int) ≤ (↑digsB.length : Int) ∧ List.take ((n + (1 : Int)).toNat - n.toNat) (List.drop
n.toNat digsB) = decB n) ∧ ((n < (10 : Int) → False) → ((-9223372036854775808 : Int) ≤ n * (2 : Int) ∧ n * (2 : Int) < (9223372036854775808 : Int)) ∧ ((-9223372036854775808 : Int) ≤ n * (2 : Int) ∧ n
* (2 : Int) < (9223372036854775808 : Int)) ∧ ((-9223372036854775808 : Int) ≤ n * (2 : Int) + (2 : Int) ∧ n * (2 : Int) + (2 : Int) < (9223372036854775808 : Int)) ∧ (0 : Int) ≤ n * (2 : Int) ∧ n * (2 :
Int) ≤ n * (2 : Int) + (2 : Int) ∧ n * (2 : Int) + (2 : Int) ≤ (↑smB.length : Int) ∧ List.take ((n * (2 : Int) + (2 : Int)).toNat - (n * (2 : Int)).toNat) (List.drop (n * (2 : Int)).toNat smB) = decB
n)) ∧ ((n < (100 : Int) → False) → (n < (0 : Int) → ((0 : Int) ≤ -IntKind.u64.wrap n ∧ -IntKind.u64.wrap n < (18446744073709551616 : Int)) ∧ False ∧ False) ∧ ((n < (0 : Int) → False) → False ∧
False))) ∧ (((0 : Int) ≤ n → False) → (n < (0 : Int) → ((0 : Int) ≤ -IntKind.u64.wrap n ∧ -IntKind.u64.wrap n < (18446744073709551616 : Int)) ∧ False ∧ False) ∧ ((n < (0 : Int) → False) → False ∧
False))) := by intros; kernel_rfl
theorem vc34 : ∀ (c : D), symFun (ctx cc4 cfAnn) (3 : Nat) (34 : FuncId) [V.dat (22 : TypeId) c] (V.prop ((badZ c).snd = (0 : Int))) = (smallC c ∧ ((badZ c).snd = (0 : Int) ↔ (badZ c).snd = (0 :
Int))) := by intros; kernel_rfl
theorem vc56 : ∀ (k : Int) (a : List UInt8) (la : Prop) (nm : D) (n : Int), symFun (ctx cf1 cfAnn) (4 : Nat) (56 : FuncId) [V.agg [V.int IntKind.u8 k, V.str a, V.prop la, V.dat (32 : TypeId) nm, V.int
IntKind.i64 n]] (V.dat (32 : TypeId) (D.list (wordsL k a la nm n))) = (((a = [] → False) → (0 : Nat) + (2 : Nat) ≤ [D.str [(97 : UInt8), (109 : UInt8), (111 : UInt8), (110 : UInt8), (103 : UInt8)],
D.str a].length ∧ (2 : Nat) ≤ (16777216 : Nat) ∧ (0 : Int) ≤ k ∧ k < (↑(11 : Nat) : Int) ∧ (0 : Nat) + (1 : Nat) ≤ [D.str ((nthD formsL k.toNat).fld (0 : Nat)).asStr].length ∧ (0 : Nat) + (2 : Nat) ≤
(List.take (2 : Nat) [D.str [(97 : UInt8), (109 : UInt8), (111 : UInt8), (110 : UInt8), (103 : UInt8)], D.str a]).length ∧ (2 : Nat) + (1 : Nat) ≤ (16777216 : Nat) ∧ ((0 : Int) < ((nthD formsL
k.toNat).fld (2 : Nat)).asInt → ((0 : Int) ≤ n ∧ n ≤ (99 : Int)) ∧ (0 : Nat) + (1 : Nat) ≤ [D.str (decB n)].length ∧ (0 : Nat) + ((2 : Nat) + (1 : Nat)) ≤ (List.take (2 : Nat) (List.take (2 : Nat)
[D.str [(97 : UInt8), (109 : UInt8), (111 : UInt8), (110 : UInt8), (103 : UInt8)], D.str a]) ++ List.take (1 : Nat) [D.str ((nthD formsL k.toNat).fld (0 : Nat)).asStr]).length ∧ (2 : Nat) + (1 : Nat)
+ (1 : Nat) ≤ (16777216 : Nat) ∧ ((cNm (nthD formsL k.toNat)).asProp → (la → (0 : Nat) + (1 : Nat) ≤ [D.str [(108 : UInt8), (97 : UInt8), (115 : UInt8), (116 : UInt8)]].length ∧ (0 : Nat) + ((2 : Nat)
+ (1 : Nat) + (1 : Nat)) ≤ (List.take ((2 : Nat) + (1 : Nat)) (List.take (2 : Nat) (List.take (2 : Nat) [D.str [(97 : UInt8), (109 : UInt8), (111 : UInt8), (110 : UInt8), (103 : UInt8)], D.str a]) ++
List.take (1 : Nat) [D.str ((nthD formsL k.toNat).fld (0 : Nat)).asStr]) ++ List.take (1 : Nat) [D.str (decB n)]).length ∧ (2 : Nat) + (1 : Nat) + (1 : Nat) + (1 : Nat) ≤ (16777216 : Nat) ∧ (nm.len =
(0 : Nat) → (0 : Nat) + ((2 : Nat) + (1 : Nat) + (1 : Nat) + (1 : Nat)) ≤ (List.take ((2 : Nat) + (1 : Nat) + (1 : Nat)) (List.take ((2 : Nat) + (1 : Nat)) (List.take (2 : Nat) (List.take (2 : Nat)
[D.str [(97 : UInt8), (109 : UInt8), (111 : UInt8), (110 : UInt8), (103 : UInt8)], D.str a]) ++ List.take (1 : Nat) [D.str ((nthD formsL k.toNat).fld (0 : Nat)).asStr]) ++ List.take (1 : Nat) [D.str
(decB n)]) ++ List.take (1 : Nat) [D.str [(108 : UInt8), (97 : UInt8), (115 : UInt8), (116 : UInt8)]]).length ∧ D.list (List.take ((2 : Nat) + (1 : Nat) + (1 : Nat) + (1 : Nat)) (List.take ((2 : Nat)
+ (1 : Nat) + (1 : Nat)) (List.take ((2 : Nat) + (1 : Nat)) (List.take (2 : Nat) (List.take (2 : Nat) [D.str [(97 : UInt8), (109 : UInt8), (111 : UInt8), (110 : UInt8), (103 : UInt8)], D.str a]) ++
List.take (1 : Nat) [D.str ((nthD formsL k.toNat).fld (0 : Nat)).asStr]) ++ List.take (1 : Nat) [D.str (decB n)]) ++ List.take (1 : Nat) [D.str [(108 : UInt8), (97 : UInt8), (115 : UInt8), (116 :
UInt8)]])) = D.list (wordsL k a la nm n)) ∧ ((0 : Nat) < nm.len → (0 : Nat) + ((2 : Nat) + (1 : Nat) + (1 : Nat) + (1 : Nat)) ≤ (List.take ((2 : Nat) + (1 : Nat) + (1 : Nat)) (List.take ((2 : Nat) +
(1 : Nat)) (List.take (2 : Nat) (List.take (2 : Nat) [D.str [(97 : UInt8), (109 : UInt8), (111 : UInt8), (110 : UInt8), (103 : UInt8)], D.str a]) ++ List.take (1 : Nat) [D.str ((nthD formsL
k.toNat).fld (0 : Nat)).asStr]) ++ List.take (1 : Nat) [D.str (decB n)]) ++ List.take (1 : Nat) [D.str [(108 : UInt8), (97 : UInt8), (115 : UInt8), (116 : UInt8)]]).length ∧ (2 : Nat) + (1 : Nat) + (1
: Nat) + (1 : Nat) + nm.len ≤ (16777216 : Nat) ∧ (0 : Nat) + ((2 : Nat) + (1 : Nat) + (1 : Nat) + (1 : Nat) + nm.len) ≤ (List.take ((2 : Nat) + (1 : Nat) + (1 : Nat) + (1 : Nat)) (List.take ((2 : Nat)
+ (1 : Nat) + (1 : Nat)) (List.take ((2 : Nat) + (1 : Nat)) (List.take (2 : Nat) (List.take (2 : Nat) [D.str [(97 : UInt8), (109 : UInt8), (111 : UInt8), (110 : UInt8), (103 : UInt8)], D.str a]) ++
List.take (1 : Nat) [D.str ((nthD formsL k.toNat).fld (0 : Nat)).asStr]) ++ List.take (1 : Nat) [D.str (decB n)]) ++ List.take (1 : Nat) [D.str [(108 : UInt8), (97 : UInt8), (115 : UInt8), (116 :
UInt8)]]) ++ nm.asList).length ∧ D.list (List.take ((2 : Nat) + (1 : Nat) + (1 : Nat) + (1 : Nat) + nm.len) (List.take ((2 : Nat) + (1 : Nat) + (1 : Nat) + (1 : Nat)) (List.take ((2 : Nat) + (1 : Nat)
+ (1 : Nat)) (List.take ((2 : Nat) + (1 : Nat)) (List.take (2 : Nat) (List.take (2 : Nat) [D.str [(97 : UInt8), (109 : UInt8), (111 : UInt8), (110 : UInt8), (103 : UInt8)], D.str a]) ++ List.take (1 :
Nat) [D.str ((nthD formsL k.toNat).fld (0 : Nat)).asStr]) ++ List.take (1 : Nat) [D.str (decB n)]) ++ List.take (1 : Nat) [D.str [(108 : UInt8), (97 : UInt8), (115 : UInt8), (116 : UInt8)]]) ++
nm.asList)) = D.list (wordsL k a la nm n))) ∧ ((la → False) → ((cNm (nthD formsL k.toNat)).asProp → (0 : Nat) + (1 : Nat) ≤ [D.str [(102 : UInt8), (105 : UInt8), (114 : UInt8), (115 : UInt8), (116 :
UInt8)]].length ∧ (0 : Nat) + ((2 : Nat) + (1 : Nat) + (1 : Nat)) ≤ (List.take ((2 : Nat) + (1 : Nat)) (List.take (2 : Nat) (List.take (2 : Nat) [D.str [(97 : UInt8), (109 : UInt8), (111 : UInt8),
(110 : UInt8), (103 : UInt8)], D.str a]) ++ List.take (1 : Nat) [D.str ((nthD formsL k.toNat).fld (0 : Nat)).asStr]) ++ List.take (1 : Nat) [D.str (decB n)]).length ∧ (2 : Nat) + (1 : Nat) + (1 : Nat)
+ (1 : Nat) ≤ (16777216 : Nat) ∧ (nm.len = (0 : Nat) → (0 : Nat) + ((2 : Nat) + (1 : Nat) + (1 : Nat) + (1 : Nat)) ≤ (List.take ((2 : Nat) + (1 : Nat) + (1 : Nat)) (List.take ((2 : Nat) + (1 : Nat))
(List.take (2 : Nat) (List.take (2 : Nat) [D.str [(97 : UInt8), (109 : UInt8), (111 : UInt8), (110 : UInt8), (103 : UInt8)], D.str a]) ++ List.take (1 : Nat) [D.str ((nthD formsL k.toNat).fld (0 :
Nat)).asStr]) ++ List.take (1 : Nat) [D.str (decB n)]) ++ List.take (1 : Nat) [D.str [(102 : UInt8), (105 : UInt8), (114 : UInt8), (115 : UInt8), (116 : UInt8)]]).length ∧ D.list (List.take ((2 : Nat)
+ (1 : Nat) + (1 : Nat) + (1 : Nat)) (List.take ((2 : Nat) + (1 : Nat) + (1 : Nat)) (List.take ((2 : Nat) + (1 : Nat)) (List.take (2 : Nat) (List.take (2 : Nat) [D.str [(97 : UInt8), (109 : UInt8),
(111 : UInt8), (110 : UInt8), (103 : UInt8)], D.str a]) ++ List.take (1 : Nat) [D.str ((nthD formsL k.toNat).fld (0 : Nat)).asStr]) ++ List.take (1 : Nat) [D.str (decB n)]) ++ List.take (1 : Nat)
[D.str [(102 : UInt8), (105 : UInt8), (114 : UInt8), (115 : UInt8), (116 : UInt8)]])) = D.list (wordsL k a la nm n)) ∧ ((0 : Nat) < nm.len → (0 : Nat) + ((2 : Nat) + (1 : Nat) + (1 : Nat) + (1 : Nat))
≤ (List.take ((2 : Nat) + (1 : Nat) + (1 : Nat)) (List.take ((2 : Nat) + (1 : Nat)) (List.take (2 : Nat) (List.take (2 : Nat) [D.str [(97 : UInt8), (109 : UInt8), (111 : UInt8), (110 : UInt8), (103 :
UInt8)], D.str a]) ++ List.take (1 : Nat) [D.str ((nthD formsL k.toNat).fld (0 : Nat)).asStr]) ++ List.take (1 : Nat) [D.str (decB n)]) ++ List.take (1 : Nat) [D.str [(102 : UInt8), (105 : UInt8),
(114 : UInt8), (115 : UInt8), (116 : UInt8)]]).length ∧ (2 : Nat) + (1 : Nat) + (1 : Nat) + (1 : Nat) + nm.len ≤ (16777216 : Nat) ∧ (0 : Nat) + ((2 : Nat) + (1 : Nat) + (1 : Nat) + (1 : Nat) + nm.len)
≤ (List.take ((2 : Nat) + (1 : Nat) + (1 : Nat) + (1 : Nat)) (List.take ((2 : Nat) + (1 : Nat) + (1 : Nat)) (List.take ((2 : Nat) + (1 : Nat)) (List.take (2 : Nat) (List.take (2 : Nat) [D.str [(97 :
UInt8), (109 : UInt8), (111 : UInt8), (110 : UInt8), (103 : UInt8)], D.str a]) ++ List.take (1 : Nat) [D.str ((nthD formsL k.toNat).fld (0 : Nat)).asStr]) ++ List.take (1 : Nat) [D.str (decB n)]) ++
List.take (1 : Nat) [D.str [(102 : UInt8), (105 : UInt8), (114 : UInt8), (115 : UInt8), (116 : UInt8)]]) ++ nm.asList).length ∧ D.list (List.take ((2 : Nat) + (1 : Nat) + (1 : Nat) + (1 : Nat) +
nm.len) (List.take ((2 : Nat) + (1 : Nat) + (1 : Nat) + (1 : Nat)) (List.take ((2 : Nat) + (1 : Nat) + (1 : Nat)) (List.take ((2 : Nat) + (1 : Nat)) (List.take (2 : Nat) (List.take (2 : Nat) [D.str
[(97 : UInt8), (109 : UInt8), (111 : UInt8), (110 : UInt8), (103 : UInt8)], D.str a]) ++ List.take (1 : Nat) [D.str ((nthD formsL k.toNat).fld (0 : Nat)).asStr]) ++ List.take (1 : Nat) [D.str (decB
n)]) ++ List.take (1 : Nat) [D.str [(102 : UInt8), (105 : UInt8), (114 : UInt8), (115 : UInt8), (116 : UInt8)]]) ++ nm.asList)) = D.list (wordsL k a la nm n))) ∧ (((cNm (nthD formsL k.toNat)).asProp →
False) → (nm.len = (0 : Nat) → (0 : Nat) + ((2 : Nat) + (1 : Nat) + (1 : Nat)) ≤ (List.take ((2 : Nat) + (1 : Nat)) (List.take (2 : Nat) (List.take (2 : Nat) [D.str [(97 : UInt8), (109 : UInt8), (111
: UInt8), (110 : UInt8), (103 : UInt8)], D.str a]) ++ List.take (1 : Nat) [D.str ((nthD formsL k.toNat).fld (0 : Nat)).asStr]) ++ List.take (1 : Nat) [D.str (decB n)]).length ∧ D.list (List.take ((2 :
Nat) + (1 : Nat) + (1 : Nat)) (List.take ((2 : Nat) + (1 : Nat)) (List.take (2 : Nat) (List.take (2 : Nat) [D.str [(97 : UInt8), (109 : UInt8), (111 : UInt8), (110 : UInt8), (103 : UInt8)], D.str a])
++ List.take (1 : Nat) [D.str ((nthD formsL k.toNat).fld (0 : Nat)).asStr]) ++ List.take (1 : Nat) [D.str (decB n)])) = D.list (wordsL k a la nm n)) ∧ ((0 : Nat) < nm.len → (0 : Nat) + ((2 : Nat) + (1
: Nat) + (1 : Nat)) ≤ (List.take ((2 : Nat) + (1 : Nat)) (List.take (2 : Nat) (List.take (2 : Nat) [D.str [(97 : UInt8), (109 : UInt8), (111 : UInt8), (110 : UInt8), (103 : UInt8)], D.str a]) ++
List.take (1 : Nat) [D.str ((nthD formsL k.toNat).fld (0 : Nat)).asStr]) ++ List.take (1 : Nat) [D.str (decB n)]).length ∧ (2 : Nat) + (1 : Nat) + (1 : Nat) + nm.len ≤ (16777216 : Nat) ∧ (0 : Nat) +
((2 : Nat) + (1 : Nat) + (1 : Nat) + nm.len) ≤ (List.take ((2 : Nat) + (1 : Nat) + (1 : Nat)) (List.take ((2 : Nat) + (1 : Nat)) (List.take (2 : Nat) (List.take (2 : Nat) [D.str [(97 : UInt8), (109 :
UInt8), (111 : UInt8), (110 : UInt8), (103 : UInt8)], D.str a]) ++ List.take (1 : Nat) [D.str ((nthD formsL k.toNat).fld (0 : Nat)).asStr]) ++ List.take (1 : Nat) [D.str (decB n)]) ++
nm.asList).length ∧ D.list (List.take ((2 : Nat) + (1 : Nat) + (1 : Nat) + nm.len) (List.take ((2 : Nat) + (1 : Nat) + (1 : Nat)) (List.take ((2 : Nat) + (1 : Nat)) (List.take (2 : Nat) (List.take (2
: Nat) [D.str [(97 : UInt8), (109 : UInt8), (111 : UInt8), (110 : UInt8), (103 : UInt8)], D.str a]) ++ List.take (1 : Nat) [D.str ((nthD formsL k.toNat).fld (0 : Nat)).asStr]) ++ List.take (1 : Nat)
[D.str (decB n)]) ++ nm.asList)) = D.list (wordsL k a la nm n))))) ∧ (((cNm (nthD formsL k.toNat)).asProp → False) → ((cNm (nthD formsL k.toNat)).asProp → (0 : Nat) + (1 : Nat) ≤ [D.str [(102 :
UInt8), (105 : UInt8), (114 : UInt8), (115 : UInt8), (116 : UInt8)]].length ∧ (0 : Nat) + ((2 : Nat) + (1 : Nat) + (1 : Nat)) ≤ (List.take ((2 : Nat) + (1 : Nat)) (List.take (2 : Nat) (List.take (2 :
Nat) [D.str [(97 : UInt8), (109 : UInt8), (111 : UInt8), (110 : UInt8), (103 : UInt8)], D.str a]) ++ List.take (1 : Nat) [D.str ((nthD formsL k.toNat).fld (0 : Nat)).asStr]) ++ List.take (1 : Nat)
[D.str (decB n)]).length ∧ (2 : Nat) + (1 : Nat) + (1 : Nat) + (1 : Nat) ≤ (16777216 : Nat) ∧ (nm.len = (0 : Nat) → (0 : Nat) + ((2 : Nat) + (1 : Nat) + (1 : Nat) + (1 : Nat)) ≤ (List.take ((2 : Nat)
+ (1 : Nat) + (1 : Nat)) (List.take ((2 : Nat) + (1 : Nat)) (List.take (2 : Nat) (List.take (2 : Nat) [D.str [(97 : UInt8), (109 : UInt8), (111 : UInt8), (110 : UInt8), (103 : UInt8)], D.str a]) ++
List.take (1 : Nat) [D.str ((nthD formsL k.toNat).fld (0 : Nat)).asStr]) ++ List.take (1 : Nat) [D.str (decB n)]) ++ List.take (1 : Nat) [D.str [(102 : UInt8), (105 : UInt8), (114 : UInt8), (115 :
UInt8), (116 : UInt8)]]).length ∧ D.list (List.take ((2 : Nat) + (1 : Nat) + (1 : Nat) + (1 : Nat)) (List.take ((2 : Nat) + (1 : Nat) + (1 : Nat)) (List.take ((2 : Nat) + (1 : Nat)) (List.take (2 :
Nat) (List.take (2 : Nat) [D.str [(97 : UInt8), (109 : UInt8), (111 : UInt8), (110 : UInt8), (103 : UInt8)], D.str a]) ++ List.take (1 : Nat) [D.str ((nthD formsL k.toNat).fld (0 : Nat)).asStr]) ++
List.take (1 : Nat) [D.str (decB n)]) ++ List.take (1 : Nat) [D.str [(102 : UInt8), (105 : UInt8), (114 : UInt8), (115 : UInt8), (116 : UInt8)]])) = D.list (wordsL k a la nm n)) ∧ ((0 : Nat) < nm.len
→ (0 : Nat) + ((2 : Nat) + (1 : Nat) + (1 : Nat) + (1 : Nat)) ≤ (List.take ((2 : Nat) + (1 : Nat) + (1 : Nat)) (List.take ((2 : Nat) + (1 : Nat)) (List.take (2 : Nat) (List.take (2 : Nat) [D.str [(97
: UInt8), (109 : UInt8), (111 : UInt8), (110 : UInt8), (103 : UInt8)], D.str a]) ++ List.take (1 : Nat) [D.str ((nthD formsL k.toNat).fld (0 : Nat)).asStr]) ++ List.take (1 : Nat) [D.str (decB n)]) ++
List.take (1 : Nat) [D.str [(102 : UInt8), (105 : UInt8), (114 : UInt8), (115 : UInt8), (116 : UInt8)]]).length ∧ (2 : Nat) + (1 : Nat) + (1 : Nat) + (1 : Nat) + nm.len ≤ (16777216 : Nat) ∧ (0 : Nat)
+ ((2 : Nat) + (1 : Nat) + (1 : Nat) + (1 : Nat) + nm.len) ≤ (List.take ((2 : Nat) + (1 : Nat) + (1 : Nat) + (1 : Nat)) (List.take ((2 : Nat) + (1 : Nat) + (1 : Nat)) (List.take ((2 : Nat) + (1 :
Nat)) (List.take (2 : Nat) (List.take (2 : Nat) [D.str [(97 : UInt8), (109 : UInt8), (111 : UInt8), (110 : UInt8), (103 : UInt8)], D.str a]) ++ List.take (1 : Nat) [D.str ((nthD formsL k.toNat).fld (0
: Nat)).asStr]) ++ List.take (1 : Nat) [D.str (decB n)]) ++ List.take (1 : Nat) [D.str [(102 : UInt8), (105 : UInt8), (114 : UInt8), (115 : UInt8), (116 : UInt8)]]) ++ nm.asList).length ∧ D.list
(List.take ((2 : Nat) + (1 : Nat) + (1 : Nat) + (1 : Nat) + nm.len) (List.take ((2 : Nat) + (1 : Nat) + (1 : Nat) + (1 : Nat)) (List.take ((2 : Nat) + (1 : Nat) + (1 : Nat)) (List.take ((2 : Nat) + (1
: Nat)) (List.take (2 : Nat) (List.take (2 : Nat) [D.str [(97 : UInt8), (109 : UInt8), (111 : UInt8), (110 : UInt8), (103 : UInt8)], D.str a]) ++ List.take (1 : Nat) [D.str ((nthD formsL k.toNat).fld
(0 : Nat)).asStr]) ++ List.take (1 : Nat) [D.str (decB n)]) ++ List.take (1 : Nat) [D.str [(102 : UInt8), (105 : UInt8), (114 : UInt8), (115 : UInt8), (116 : UInt8)]]) ++ nm.asList)) = D.list (wordsL
k a la nm n))) ∧ (((cNm (nthD formsL k.toNat)).asProp → False) → (nm.len = (0 : Nat) → (0 : Nat) + ((2 : Nat) + (1 : Nat) + (1 : Nat)) ≤ (List.take ((2 : Nat) + (1 : Nat)) (List.take (2 : Nat)
(List.take (2 : Nat) [D.str [(97 : UInt8), (109 : UInt8), (111 : UInt8), (110 : UInt8), (103 : UInt8)], D.str a]) ++ List.take (1 : Nat) [D.str ((nthD formsL k.toNat).fld (0 : Nat)).asStr]) ++
List.take (1 : Nat) [D.str (decB n)]).length ∧ D.list (List.take ((2 : Nat) + (1 : Nat) + (1 : Nat)) (List.take ((2 : Nat) + (1 : Nat)) (List.take (2 : Nat) (List.take (2 : Nat) [D.str [(97 : UInt8),
(109 : UInt8), (111 : UInt8), (110 : UInt8), (103 : UInt8)], D.str a]) ++ List.take (1 : Nat) [D.str ((nthD formsL k.toNat).fld (0 : Nat)).asStr]) ++ List.take (1 : Nat) [D.str (decB n)])) = D.list
(wordsL k a la nm n)) ∧ ((0 : Nat) < nm.len → (0 : Nat) + ((2 : Nat) + (1 : Nat) + (1 : Nat)) ≤ (List.take ((2 : Nat) + (1 : Nat)) (List.take (2 : Nat) (List.take (2 : Nat) [D.str [(97 : UInt8), (109
: UInt8), (111 : UInt8), (110 : UInt8), (103 : UInt8)], D.str a]) ++ List.take (1 : Nat) [D.str ((nthD formsL k.toNat).fld (0 : Nat)).asStr]) ++ List.take (1 : Nat) [D.str (decB n)]).length ∧ (2 :
Nat) + (1 : Nat) + (1 : Nat) + nm.len ≤ (16777216 : Nat) ∧ (0 : Nat) + ((2 : Nat) + (1 : Nat) + (1 : Nat) + nm.len) ≤ (List.take ((2 : Nat) + (1 : Nat) + (1 : Nat)) (List.take ((2 : Nat) + (1 : Nat))
(List.take (2 : Nat) (List.take (2 : Nat) [D.str [(97 : UInt8), (109 : UInt8), (111 : UInt8), (110 : UInt8), (103 : UInt8)], D.str a]) ++ List.take (1 : Nat) [D.str ((nthD formsL k.toNat).fld (0 :
Nat)).asStr]) ++ List.take (1 : Nat) [D.str (decB n)]) ++ nm.asList).length ∧ D.list (List.take ((2 : Nat) + (1 : Nat) + (1 : Nat) + nm.len) (List.take ((2 : Nat) + (1 : Nat) + (1 : Nat)) (List.take
((2 : Nat) + (1 : Nat)) (List.take (2 : Nat) (List.take (2 : Nat) [D.str [(97 : UInt8), (109 : UInt8), (111 : UInt8), (110 : UInt8), (103 : UInt8)], D.str a]) ++ List.take (1 : Nat) [D.str ((nthD
formsL k.toNat).fld (0 : Nat)).asStr]) ++ List.take (1 : Nat) [D.str (decB n)]) ++ nm.asList)) = D.list (wordsL k a la nm n))))) ∧ (((0 : Int) < ((nthD formsL k.toNat).fld (2 : Nat)).asInt → False) →
((cNm (nthD formsL k.toNat)).asProp → (la → (0 : Nat) + (1 : Nat) ≤ [D.str [(108 : UInt8), (97 : UInt8), (115 : UInt8), (116 : UInt8)]].length ∧ (0 : Nat) + ((2 : Nat) + (1 : Nat)) ≤ (List.take (2 :
Nat) (List.take (2 : Nat) [D.str [(97 : UInt8), (109 : UInt8), (111 : UInt8), (110 : UInt8), (103 : UInt8)], D.str a]) ++ List.take (1 : Nat) [D.str ((nthD formsL k.toNat).fld (0 :
Nat)).asStr]).length ∧ (2 : Nat) + (1 : Nat) + (1 : Nat) ≤ (16777216 : Nat) ∧ (nm.len = (0 : Nat) → (0 : Nat) + ((2 : Nat) + (1 : Nat) + (1 : Nat)) ≤ (List.take ((2 : Nat) + (1 : Nat)) (List.take (2 :
Nat) (List.take (2 : Nat) [D.str [(97 : UInt8), (109 : UInt8), (111 : UInt8), (110 : UInt8), (103 : UInt8)], D.str a]) ++ List.take (1 : Nat) [D.str ((nthD formsL k.toNat).fld (0 : Nat)).asStr]) ++
List.take (1 : Nat) [D.str [(108 : UInt8), (97 : UInt8), (115 : UInt8), (116 : UInt8)]]).length ∧ D.list (List.take ((2 : Nat) + (1 : Nat) + (1 : Nat)) (List.take ((2 : Nat) + (1 : Nat)) (List.take (2
: Nat) (List.take (2 : Nat) [D.str [(97 : UInt8), (109 : UInt8), (111 : UInt8), (110 : UInt8), (103 : UInt8)], D.str a]) ++ List.take (1 : Nat) [D.str ((nthD formsL k.toNat).fld (0 : Nat)).asStr]) ++
List.take (1 : Nat) [D.str [(108 : UInt8), (97 : UInt8), (115 : UInt8), (116 : UInt8)]])) = D.list (wordsL k a la nm n)) ∧ ((0 : Nat) < nm.len → (0 : Nat) + ((2 : Nat) + (1 : Nat) + (1 : Nat)) ≤
(List.take ((2 : Nat) + (1 : Nat)) (List.take (2 : Nat) (List.take (2 : Nat) [D.str [(97 : UInt8), (109 : UInt8), (111 : UInt8), (110 : UInt8), (103 : UInt8)], D.str a]) ++ List.take (1 : Nat) [D.str
((nthD formsL k.toNat).fld (0 : Nat)).asStr]) ++ List.take (1 : Nat) [D.str [(108 : UInt8), (97 : UInt8), (115 : UInt8), (116 : UInt8)]]).length ∧ (2 : Nat) + (1 : Nat) + (1 : Nat) + nm.len ≤
(16777216 : Nat) ∧ (0 : Nat) + ((2 : Nat) + (1 : Nat) + (1 : Nat) + nm.len) ≤ (List.take ((2 : Nat) + (1 : Nat) + (1 : Nat)) (List.take ((2 : Nat) + (1 : Nat)) (List.take (2 : Nat) (List.take (2 :
Nat) [D.str [(97 : UInt8), (109 : UInt8), (111 : UInt8), (110 : UInt8), (103 : UInt8)], D.str a]) ++ List.take (1 : Nat) [D.str ((nthD formsL k.toNat).fld (0 : Nat)).asStr]) ++ List.take (1 : Nat)
[D.str [(108 : UInt8), (97 : UInt8), (115 : UInt8), (116 : UInt8)]]) ++ nm.asList).length ∧ D.list (List.take ((2 : Nat) + (1 : Nat) + (1 : Nat) + nm.len) (List.take ((2 : Nat) + (1 : Nat) + (1 :
Nat)) (List.take ((2 : Nat) + (1 : Nat)) (List.take (2 : Nat) (List.take (2 : Nat) [D.str [(97 : UInt8), (109 : UInt8), (111 : UInt8), (110 : UInt8), (103 : UInt8)], D.str a]) ++ List.take (1 : Nat)
[D.str ((nthD formsL k.toNat).fld (0 : Nat)).asStr]) ++ List.take (1 : Nat) [D.str [(108 : UInt8), (97 : UInt8), (115 : UInt8), (116 : UInt8)]]) ++ nm.asList)) = D.list (wordsL k a la nm n))) ∧ ((la →
False) → ((cNm (nthD formsL k.toNat)).asProp → (0 : Nat) + (1 : Nat) ≤ [D.str [(102 : UInt8), (105 : UInt8), (114 : UInt8), (115 : UInt8), (116 : UInt8)]].length ∧ (0 : Nat) + ((2 : Nat) + (1 : Nat))
≤ (List.take (2 : Nat) (List.take (2 : Nat) [D.str [(97 : UInt8), (109 : UInt8), (111 : UInt8), (110 : UInt8), (103 : UInt8)], D.str a]) ++ List.take (1 : Nat) [D.str ((nthD formsL k.toNat).fld (0 :
Nat)).asStr]).length ∧ (2 : Nat) + (1 : Nat) + (1 : Nat) ≤ (16777216 : Nat) ∧ (nm.len = (0 : Nat) → (0 : Nat) + ((2 : Nat) + (1 : Nat) + (1 : Nat)) ≤ (List.take ((2 : Nat) + (1 : Nat)) (List.take (2 :
Nat) (List.take (2 : Nat) [D.str [(97 : UInt8), (109 : UInt8), (111 : UInt8), (110 : UInt8), (103 : UInt8)], D.str a]) ++ List.take (1 : Nat) [D.str ((nthD formsL k.toNat).fld (0 : Nat)).asStr]) ++
List.take (1 : Nat) [D.str [(102 : UInt8), (105 : UInt8), (114 : UInt8), (115 : UInt8), (116 : UInt8)]]).length ∧ D.list (List.take ((2 : Nat) + (1 : Nat) + (1 : Nat)) (List.take ((2 : Nat) + (1 :
Nat)) (List.take (2 : Nat) (List.take (2 : Nat) [D.str [(97 : UInt8), (109 : UInt8), (111 : UInt8), (110 : UInt8), (103 : UInt8)], D.str a]) ++ List.take (1 : Nat) [D.str ((nthD formsL k.toNat).fld (0
: Nat)).asStr]) ++ List.take (1 : Nat) [D.str [(102 : UInt8), (105 : UInt8), (114 : UInt8), (115 : UInt8), (116 : UInt8)]])) = D.list (wordsL k a la nm n)) ∧ ((0 : Nat) < nm.len → (0 : Nat) + ((2 :
Nat) + (1 : Nat) + (1 : Nat)) ≤ (List.take ((2 : Nat) + (1 : Nat)) (List.take (2 : Nat) (List.take (2 : Nat) [D.str [(97 : UInt8), (109 : UInt8), (111 : UInt8), (110 : UInt8), (103 : UInt8)], D.str
a]) ++ List.take (1 : Nat) [D.str ((nthD formsL k.toNat).fld (0 : Nat)).asStr]) ++ List.take (1 : Nat) [D.str [(102 : UInt8), (105 : UInt8), (114 : UInt8), (115 : UInt8), (116 : UInt8)]]).length ∧ (2
: Nat) + (1 : Nat) + (1 : Nat) + nm.len ≤ (16777216 : Nat) ∧ (0 : Nat) + ((2 : Nat) + (1 : Nat) + (1 : Nat) + nm.len) ≤ (List.take ((2 : Nat) + (1 : Nat) + (1 : Nat)) (List.take ((2 : Nat) + (1 :
Nat)) (List.take (2 : Nat) (List.take (2 : Nat) [D.str [(97 : UInt8), (109 : UInt8), (111 : UInt8), (110 : UInt8), (103 : UInt8)], D.str a]) ++ List.take (1 : Nat) [D.str ((nthD formsL k.toNat).fld (0
: Nat)).asStr]) ++ List.take (1 : Nat) [D.str [(102 : UInt8), (105 : UInt8), (114 : UInt8), (115 : UInt8), (116 : UInt8)]]) ++ nm.asList).length ∧ D.list (List.take ((2 : Nat) + (1 : Nat) + (1 : Nat)
+ nm.len) (List.take ((2 : Nat) + (1 : Nat) + (1 : Nat)) (List.take ((2 : Nat) + (1 : Nat)) (List.take (2 : Nat) (List.take (2 : Nat) [D.str [(97 : UInt8), (109 : UInt8), (111 : UInt8), (110 : UInt8),
(103 : UInt8)], D.str a]) ++ List.take (1 : Nat) [D.str ((nthD formsL k.toNat).fld (0 : Nat)).asStr]) ++ List.take (1 : Nat) [D.str [(102 : UInt8), (105 : UInt8), (114 : UInt8), (115 : UInt8), (116 :
UInt8)]]) ++ nm.asList)) = D.list (wordsL k a la nm n))) ∧ (((cNm (nthD formsL k.toNat)).asProp → False) → (nm.len = (0 : Nat) → (0 : Nat) + ((2 : Nat) + (1 : Nat)) ≤ (List.take (2 : Nat) (List.take
(2 : Nat) [D.str [(97 : UInt8), (109 : UInt8), (111 : UInt8), (110 : UInt8), (103 : UInt8)], D.str a]) ++ List.take (1 : Nat) [D.str ((nthD formsL k.toNat).fld (0 : Nat)).asStr]).length ∧ D.list
(List.take ((2 : Nat) + (1 : Nat)) (List.take (2 : Nat) (List.take (2 : Nat) [D.str [(97 : UInt8), (109 : UInt8), (111 : UInt8), (110 : UInt8), (103 : UInt8)], D.str a]) ++ List.take (1 : Nat) [D.str
((nthD formsL k.toNat).fld (0 : Nat)).asStr])) = D.list (wordsL k a la nm n)) ∧ ((0 : Nat) < nm.len → (0 : Nat) + ((2 : Nat) + (1 : Nat)) ≤ (List.take (2 : Nat) (List.take (2 : Nat) [D.str [(97 :
UInt8), (109 : UInt8), (111 : UInt8), (110 : UInt8), (103 : UInt8)], D.str a]) ++ List.take (1 : Nat) [D.str ((nthD formsL k.toNat).fld (0 : Nat)).asStr]).length ∧ (2 : Nat) + (1 : Nat) + nm.len ≤
(16777216 : Nat) ∧ (0 : Nat) + ((2 : Nat) + (1 : Nat) + nm.len) ≤ (List.take ((2 : Nat) + (1 : Nat)) (List.take (2 : Nat) (List.take (2 : Nat) [D.str [(97 : UInt8), (109 : UInt8), (111 : UInt8), (110
: UInt8), (103 : UInt8)], D.str a]) ++ List.take (1 : Nat) [D.str ((nthD formsL k.toNat).fld (0 : Nat)).asStr]) ++ nm.asList).length ∧ D.list (List.take ((2 : Nat) + (1 : Nat) + nm.len) (List.take ((2
: Nat) + (1 : Nat)) (List.take (2 : Nat) (List.take (2 : Nat) [D.str [(97 : UInt8), (109 : UInt8), (111 : UInt8), (110 : UInt8), (103 : UInt8)], D.str a]) ++ List.take (1 : Nat) [D.str ((nthD formsL
k.toNat).fld (0 : Nat)).asStr]) ++ nm.asList)) = D.list (wordsL k a la nm n))))) ∧ (((cNm (nthD formsL k.toNat)).asProp → False) → ((cNm (nthD formsL k.toNat)).asProp → (0 : Nat) + (1 : Nat) ≤ [D.str
[(102 : UInt8), (105 : UInt8), (114 : UInt8), (115 : UInt8), (116 : UInt8)]].length ∧ (0 : Nat) + ((2 : Nat) + (1 : Nat)) ≤ (List.take (2 : Nat) (List.take (2 : Nat) [D.str [(97 : UInt8), (109 :
UInt8), (111 : UInt8), (110 : UInt8), (103 : UInt8)], D.str a]) ++ List.take (1 : Nat) [D.str ((nthD formsL k.toNat).fld (0 : Nat)).asStr]).length ∧ (2 : Nat) + (1 : Nat) + (1 : Nat) ≤ (16777216 :
Nat) ∧ (nm.len = (0 : Nat) → (0 : Nat) + ((2 : Nat) + (1 : Nat) + (1 : Nat)) ≤ (List.take ((2 : Nat) + (1 : Nat)) (List.take (2 : Nat) (List.take (2 : Nat) [D.str [(97 : UInt8), (109 : UInt8), (111 :
UInt8), (110 : UInt8), (103 : UInt8)], D.str a]) ++ List.take (1 : Nat) [D.str ((nthD formsL k.toNat).fld (0 : Nat)).asStr]) ++ List.take (1 : Nat) [D.str [(102 : UInt8), (105 : UInt8), (114 : UInt8),
(115 : UInt8), (116 : UInt8)]]).length ∧ D.list (List.take ((2 : Nat) + (1 : Nat) + (1 : Nat)) (List.take ((2 : Nat) + (1 : Nat)) (List.take (2 : Nat) (List.take (2 : Nat) [D.str [(97 : UInt8), (109 :
UInt8), (111 : UInt8), (110 : UInt8), (103 : UInt8)], D.str a]) ++ List.take (1 : Nat) [D.str ((nthD formsL k.toNat).fld (0 : Nat)).asStr]) ++ List.take (1 : Nat) [D.str [(102 : UInt8), (105 : UInt8),
(114 : UInt8), (115 : UInt8), (116 : UInt8)]])) = D.list (wordsL k a la nm n)) ∧ ((0 : Nat) < nm.len → (0 : Nat) + ((2 : Nat) + (1 : Nat) + (1 : Nat)) ≤ (List.take ((2 : Nat) + (1 : Nat)) (List.take
(2 : Nat) (List.take (2 : Nat) [D.str [(97 : UInt8), (109 : UInt8), (111 : UInt8), (110 : UInt8), (103 : UInt8)], D.str a]) ++ List.take (1 : Nat) [D.str ((nthD formsL k.toNat).fld (0 : Nat)).asStr])
++ List.take (1 : Nat) [D.str [(102 : UInt8), (105 : UInt8), (114 : UInt8), (115 : UInt8), (116 : UInt8)]]).length ∧ (2 : Nat) + (1 : Nat) + (1 : Nat) + nm.len ≤ (16777216 : Nat) ∧ (0 : Nat) + ((2 :
Nat) + (1 : Nat) + (1 : Nat) + nm.len) ≤ (List.take ((2 : Nat) + (1 : Nat) + (1 : Nat)) (List.take ((2 : Nat) + (1 : Nat)) (List.take (2 : Nat) (List.take (2 : Nat) [D.str [(97 : UInt8), (109 :
UInt8), (111 : UInt8), (110 : UInt8), (103 : UInt8)], D.str a]) ++ List.take (1 : Nat) [D.str ((nthD formsL k.toNat).fld (0 : Nat)).asStr]) ++ List.take (1 : Nat) [D.str [(102 : UInt8), (105 : UInt8),
(114 : UInt8), (115 : UInt8), (116 : UInt8)]]) ++ nm.asList).length ∧ D.list (List.take ((2 : Nat) + (1 : Nat) + (1 : Nat) + nm.len) (List.take ((2 : Nat) + (1 : Nat) + (1 : Nat)) (List.take ((2 :
Nat) + (1 : Nat)) (List.take (2 : Nat) (List.take (2 : Nat) [D.str [(97 : UInt8), (109 : UInt8), (111 : UInt8), (110 : UInt8), (103 : UInt8)], D.str a]) ++ List.take (1 : Nat) [D.str ((nthD formsL
k.toNat).fld (0 : Nat)).asStr]) ++ List.take (1 : Nat) [D.str [(102 : UInt8), (105 : UInt8), (114 : UInt8), (115 : UInt8), (116 : UInt8)]]) ++ nm.asList)) = D.list (wordsL k a la nm n))) ∧ (((cNm
(nthD formsL k.toNat)).asProp → False) → (nm.len = (0 : Nat) → (0 : Nat) + ((2 : Nat) + (1 : Nat)) ≤ (List.take (2 : Nat) (List.take (2 : Nat) [D.str [(97 : UInt8), (109 : UInt8), (111 : UInt8), (110
: UInt8), (103 : UInt8)], D.str a]) ++ List.take (1 : Nat) [D.str ((nthD formsL k.toNat).fld (0 : Nat)).asStr]).length ∧ D.list (List.take ((2 : Nat) + (1 : Nat)) (List.take (2 : Nat) (List.take (2 :
Nat) [D.str [(97 : UInt8), (109 : UInt8), (111 : UInt8), (110 : UInt8), (103 : UInt8)], D.str a]) ++ List.take (1 : Nat) [D.str ((nthD formsL k.toNat).fld (0 : Nat)).asStr])) = D.list (wordsL k a la
nm n)) ∧ ((0 : Nat) < nm.len → (0 : Nat) + ((2 : Nat) + (1 : Nat)) ≤ (List.take (2 : Nat) (List.take (2 : Nat) [D.str [(97 : UInt8), (109 : UInt8), (111 : UInt8), (110 : UInt8), (103 : UInt8)], D.str
a]) ++ List.take (1 : Nat) [D.str ((nthD formsL k.toNat).fld (0 : Nat)).asStr]).length ∧ (2 : Nat) + (1 : Nat) + nm.len ≤ (16777216 : Nat) ∧ (0 : Nat) + ((2 : Nat) + (1 : Nat) + nm.len) ≤ (List.take
((2 : Nat) + (1 : Nat)) (List.take (2 : Nat) (List.take (2 : Nat) [D.str [(97 : UInt8), (109 : UInt8), (111 : UInt8), (110 : UInt8), (103 : UInt8)], D.str a]) ++ List.take (1 : Nat) [D.str ((nthD
formsL k.toNat).fld (0 : Nat)).asStr]) ++ nm.asList).length ∧ D.list (List.take ((2 : Nat) + (1 : Nat) + nm.len) (List.take ((2 : Nat) + (1 : Nat)) (List.take (2 : Nat) (List.take (2 : Nat) [D.str
[(97 : UInt8), (109 : UInt8), (111 : UInt8), (110 : UInt8), (103 : UInt8)], D.str a]) ++ List.take (1 : Nat) [D.str ((nthD formsL k.toNat).fld (0 : Nat)).asStr]) ++ nm.asList)) = D.list (wordsL k a la
nm n)))))) ∧ (((a = [] → False) → False) → (0 : Int) ≤ k ∧ k < (↑(11 : Nat) : Int) ∧ (0 : Nat) + (1 : Nat) ≤ [D.str ((nthD formsL k.toNat).fld (0 : Nat)).asStr].length ∧ (1 : Nat) ≤ (16777216 : Nat) ∧
((0 : Int) < ((nthD formsL k.toNat).fld (2 : Nat)).asInt → ((0 : Int) ≤ n ∧ n ≤ (99 : Int)) ∧ (0 : Nat) + (1 : Nat) ≤ [D.str (decB n)].length ∧ (0 : Nat) + (1 : Nat) ≤ (List.take (1 : Nat) [D.str
((nthD formsL k.toNat).fld (0 : Nat)).asStr]).length ∧ (1 : Nat) + (1 : Nat) ≤ (16777216 : Nat) ∧ ((cNm (nthD formsL k.toNat)).asProp → (la → (0 : Nat) + (1 : Nat) ≤ [D.str [(108 : UInt8), (97 :
UInt8), (115 : UInt8), (116 : UInt8)]].length ∧ (0 : Nat) + ((1 : Nat) + (1 : Nat)) ≤ (List.take (1 : Nat) (List.take (1 : Nat) [D.str ((nthD formsL k.toNat).fld (0 : Nat)).asStr]) ++ List.take (1 :
Nat) [D.str (decB n)]).length ∧ (1 : Nat) + (1 : Nat) + (1 : Nat) ≤ (16777216 : Nat) ∧ (nm.len = (0 : Nat) → (0 : Nat) + ((1 : Nat) + (1 : Nat) + (1 : Nat)) ≤ (List.take ((1 : Nat) + (1 : Nat))
(List.take (1 : Nat) (List.take (1 : Nat) [D.str ((nthD formsL k.toNat).fld (0 : Nat)).asStr]) ++ List.take (1 : Nat) [D.str (decB n)]) ++ List.take (1 : Nat) [D.str [(108 : UInt8), (97 : UInt8), (115
: UInt8), (116 : UInt8)]]).length ∧ D.list (List.take ((1 : Nat) + (1 : Nat) + (1 : Nat)) (List.take ((1 : Nat) + (1 : Nat)) (List.take (1 : Nat) (List.take (1 : Nat) [D.str ((nthD formsL k.toNat).fld
(0 : Nat)).asStr]) ++ List.take (1 : Nat) [D.str (decB n)]) ++ List.take (1 : Nat) [D.str [(108 : UInt8), (97 : UInt8), (115 : UInt8), (116 : UInt8)]])) = D.list (wordsL k a la nm n)) ∧ ((0 : Nat) <
nm.len → (0 : Nat) + ((1 : Nat) + (1 : Nat) + (1 : Nat)) ≤ (List.take ((1 : Nat) + (1 : Nat)) (List.take (1 : Nat) (List.take (1 : Nat) [D.str ((nthD formsL k.toNat).fld (0 : Nat)).asStr]) ++
List.take (1 : Nat) [D.str (decB n)]) ++ List.take (1 : Nat) [D.str [(108 : UInt8), (97 : UInt8), (115 : UInt8), (116 : UInt8)]]).length ∧ (1 : Nat) + (1 : Nat) + (1 : Nat) + nm.len ≤ (16777216 : Nat)
∧ (0 : Nat) + ((1 : Nat) + (1 : Nat) + (1 : Nat) + nm.len) ≤ (List.take ((1 : Nat) + (1 : Nat) + (1 : Nat)) (List.take ((1 : Nat) + (1 : Nat)) (List.take (1 : Nat) (List.take (1 : Nat) [D.str ((nthD
formsL k.toNat).fld (0 : Nat)).asStr]) ++ List.take (1 : Nat) [D.str (decB n)]) ++ List.take (1 : Nat) [D.str [(108 : UInt8), (97 : UInt8), (115 : UInt8), (116 : UInt8)]]) ++ nm.asList).length ∧
D.list (List.take ((1 : Nat) + (1 : Nat) + (1 : Nat) + nm.len) (List.take ((1 : Nat) + (1 : Nat) + (1 : Nat)) (List.take ((1 : Nat) + (1 : Nat)) (List.take (1 : Nat) (List.take (1 : Nat) [D.str ((nthD
formsL k.toNat).fld (0 : Nat)).asStr]) ++ List.take (1 : Nat) [D.str (decB n)]) ++ List.take (1 : Nat) [D.str [(108 : UInt8), (97 : UInt8), (115 : UInt8), (116 : UInt8)]]) ++ nm.asList)) = D.list
(wordsL k a la nm n))) ∧ ((la → False) → ((cNm (nthD formsL k.toNat)).asProp → (0 : Nat) + (1 : Nat) ≤ [D.str [(102 : UInt8), (105 : UInt8), (114 : UInt8), (115 : UInt8), (116 : UInt8)]].length ∧ (0 :
Nat) + ((1 : Nat) + (1 : Nat)) ≤ (List.take (1 : Nat) (List.take (1 : Nat) [D.str ((nthD formsL k.toNat).fld (0 : Nat)).asStr]) ++ List.take (1 : Nat) [D.str (decB n)]).length ∧ (1 : Nat) + (1 : Nat)
+ (1 : Nat) ≤ (16777216 : Nat) ∧ (nm.len = (0 : Nat) → (0 : Nat) + ((1 : Nat) + (1 : Nat) + (1 : Nat)) ≤ (List.take ((1 : Nat) + (1 : Nat)) (List.take (1 : Nat) (List.take (1 : Nat) [D.str ((nthD
formsL k.toNat).fld (0 : Nat)).asStr]) ++ List.take (1 : Nat) [D.str (decB n)]) ++ List.take (1 : Nat) [D.str [(102 : UInt8), (105 : UInt8), (114 : UInt8), (115 : UInt8), (116 : UInt8)]]).length ∧
D.list (List.take ((1 : Nat) + (1 : Nat) + (1 : Nat)) (List.take ((1 : Nat) + (1 : Nat)) (List.take (1 : Nat) (List.take (1 : Nat) [D.str ((nthD formsL k.toNat).fld (0 : Nat)).asStr]) ++ List.take (1
: Nat) [D.str (decB n)]) ++ List.take (1 : Nat) [D.str [(102 : UInt8), (105 : UInt8), (114 : UInt8), (115 : UInt8), (116 : UInt8)]])) = D.list (wordsL k a la nm n)) ∧ ((0 : Nat) < nm.len → (0 : Nat) +
((1 : Nat) + (1 : Nat) + (1 : Nat)) ≤ (List.take ((1 : Nat) + (1 : Nat)) (List.take (1 : Nat) (List.take (1 : Nat) [D.str ((nthD formsL k.toNat).fld (0 : Nat)).asStr]) ++ List.take (1 : Nat) [D.str
(decB n)]) ++ List.take (1 : Nat) [D.str [(102 : UInt8), (105 : UInt8), (114 : UInt8), (115 : UInt8), (116 : UInt8)]]).length ∧ (1 : Nat) + (1 : Nat) + (1 : Nat) + nm.len ≤ (16777216 : Nat) ∧ (0 :
Nat) + ((1 : Nat) + (1 : Nat) + (1 : Nat) + nm.len) ≤ (List.take ((1 : Nat) + (1 : Nat) + (1 : Nat)) (List.take ((1 : Nat) + (1 : Nat)) (List.take (1 : Nat) (List.take (1 : Nat) [D.str ((nthD formsL
k.toNat).fld (0 : Nat)).asStr]) ++ List.take (1 : Nat) [D.str (decB n)]) ++ List.take (1 : Nat) [D.str [(102 : UInt8), (105 : UInt8), (114 : UInt8), (115 : UInt8), (116 : UInt8)]]) ++
nm.asList).length ∧ D.list (List.take ((1 : Nat) + (1 : Nat) + (1 : Nat) + nm.len) (List.take ((1 : Nat) + (1 : Nat) + (1 : Nat)) (List.take ((1 : Nat) + (1 : Nat)) (List.take (1 : Nat) (List.take (1
: Nat) [D.str ((nthD formsL k.toNat).fld (0 : Nat)).asStr]) ++ List.take (1 : Nat) [D.str (decB n)]) ++ List.take (1 : Nat) [D.str [(102 : UInt8), (105 : UInt8), (114 : UInt8), (115 : UInt8), (116 :
UInt8)]]) ++ nm.asList)) = D.list (wordsL k a la nm n))) ∧ (((cNm (nthD formsL k.toNat)).asProp → False) → (nm.len = (0 : Nat) → (0 : Nat) + ((1 : Nat) + (1 : Nat)) ≤ (List.take (1 : Nat) (List.take
(1 : Nat) [D.str ((nthD formsL k.toNat).fld (0 : Nat)).asStr]) ++ List.take (1 : Nat) [D.str (decB n)]).length ∧ D.list (List.take ((1 : Nat) + (1 : Nat)) (List.take (1 : Nat) (List.take (1 : Nat)
[D.str ((nthD formsL k.toNat).fld (0 : Nat)).asStr]) ++ List.take (1 : Nat) [D.str (decB n)])) = D.list (wordsL k a la nm n)) ∧ ((0 : Nat) < nm.len → (0 : Nat) + ((1 : Nat) + (1 : Nat)) ≤ (List.take
(1 : Nat) (List.take (1 : Nat) [D.str ((nthD formsL k.toNat).fld (0 : Nat)).asStr]) ++ List.take (1 : Nat) [D.str (decB n)]).length ∧ (1 : Nat) + (1 : Nat) + nm.len ≤ (16777216 : Nat) ∧ (0 : Nat) +
((1 : Nat) + (1 : Nat) + nm.len) ≤ (List.take ((1 : Nat) + (1 : Nat)) (List.take (1 : Nat) (List.take (1 : Nat) [D.str ((nthD formsL k.toNat).fld (0 : Nat)).asStr]) ++ List.take (1 : Nat) [D.str (decB
n)]) ++ nm.asList).length ∧ D.list (List.take ((1 : Nat) + (1 : Nat) + nm.len) (List.take ((1 : Nat) + (1 : Nat)) (List.take (1 : Nat) (List.take (1 : Nat) [D.str ((nthD formsL k.toNat).fld (0 :
Nat)).asStr]) ++ List.take (1 : Nat) [D.str (decB n)]) ++ nm.asList)) = D.list (wordsL k a la nm n))))) ∧ (((cNm (nthD formsL k.toNat)).asProp → False) → ((cNm (nthD formsL k.toNat)).asProp → (0 :
Nat) + (1 : Nat) ≤ [D.str [(102 : UInt8), (105 : UInt8), (114 : UInt8), (115 : UInt8), (116 : UInt8)]].length ∧ (0 : Nat) + ((1 : Nat) + (1 : Nat)) ≤ (List.take (1 : Nat) (List.take (1 : Nat) [D.str
((nthD formsL k.toNat).fld (0 : Nat)).asStr]) ++ List.take (1 : Nat) [D.str (decB n)]).length ∧ (1 : Nat) + (1 : Nat) + (1 : Nat) ≤ (16777216 : Nat) ∧ (nm.len = (0 : Nat) → (0 : Nat) + ((1 : Nat) + (1
: Nat) + (1 : Nat)) ≤ (List.take ((1 : Nat) + (1 : Nat)) (List.take (1 : Nat) (List.take (1 : Nat) [D.str ((nthD formsL k.toNat).fld (0 : Nat)).asStr]) ++ List.take (1 : Nat) [D.str (decB n)]) ++
List.take (1 : Nat) [D.str [(102 : UInt8), (105 : UInt8), (114 : UInt8), (115 : UInt8), (116 : UInt8)]]).length ∧ D.list (List.take ((1 : Nat) + (1 : Nat) + (1 : Nat)) (List.take ((1 : Nat) + (1 :
Nat)) (List.take (1 : Nat) (List.take (1 : Nat) [D.str ((nthD formsL k.toNat).fld (0 : Nat)).asStr]) ++ List.take (1 : Nat) [D.str (decB n)]) ++ List.take (1 : Nat) [D.str [(102 : UInt8), (105 :
UInt8), (114 : UInt8), (115 : UInt8), (116 : UInt8)]])) = D.list (wordsL k a la nm n)) ∧ ((0 : Nat) < nm.len → (0 : Nat) + ((1 : Nat) + (1 : Nat) + (1 : Nat)) ≤ (List.take ((1 : Nat) + (1 : Nat))
(List.take (1 : Nat) (List.take (1 : Nat) [D.str ((nthD formsL k.toNat).fld (0 : Nat)).asStr]) ++ List.take (1 : Nat) [D.str (decB n)]) ++ List.take (1 : Nat) [D.str [(102 : UInt8), (105 : UInt8),
(114 : UInt8), (115 : UInt8), (116 : UInt8)]]).length ∧ (1 : Nat) + (1 : Nat) + (1 : Nat) + nm.len ≤ (16777216 : Nat) ∧ (0 : Nat) + ((1 : Nat) + (1 : Nat) + (1 : Nat) + nm.len) ≤ (List.take ((1 : Nat)
+ (1 : Nat) + (1 : Nat)) (List.take ((1 : Nat) + (1 : Nat)) (List.take (1 : Nat) (List.take (1 : Nat) [D.str ((nthD formsL k.toNat).fld (0 : Nat)).asStr]) ++ List.take (1 : Nat) [D.str (decB n)]) ++
List.take (1 : Nat) [D.str [(102 : UInt8), (105 : UInt8), (114 : UInt8), (115 : UInt8), (116 : UInt8)]]) ++ nm.asList).length ∧ D.list (List.take ((1 : Nat) + (1 : Nat) + (1 : Nat) + nm.len)
(List.take ((1 : Nat) + (1 : Nat) + (1 : Nat)) (List.take ((1 : Nat) + (1 : Nat)) (List.take (1 : Nat) (List.take (1 : Nat) [D.str ((nthD formsL k.toNat).fld (0 : Nat)).asStr]) ++ List.take (1 : Nat)
[D.str (decB n)]) ++ List.take (1 : Nat) [D.str [(102 : UInt8), (105 : UInt8), (114 : UInt8), (115 : UInt8), (116 : UInt8)]]) ++ nm.asList)) = D.list (wordsL k a la nm n))) ∧ (((cNm (nthD formsL
k.toNat)).asProp → False) → (nm.len = (0 : Nat) → (0 : Nat) + ((1 : Nat) + (1 : Nat)) ≤ (List.take (1 : Nat) (List.take (1 : Nat) [D.str ((nthD formsL k.toNat).fld (0 : Nat)).asStr]) ++ List.take (1 :
Nat) [D.str (decB n)]).length ∧ D.list (List.take ((1 : Nat) + (1 : Nat)) (List.take (1 : Nat) (List.take (1 : Nat) [D.str ((nthD formsL k.toNat).fld (0 : Nat)).asStr]) ++ List.take (1 : Nat) [D.str
(decB n)])) = D.list (wordsL k a la nm n)) ∧ ((0 : Nat) < nm.len → (0 : Nat) + ((1 : Nat) + (1 : Nat)) ≤ (List.take (1 : Nat) (List.take (1 : Nat) [D.str ((nthD formsL k.toNat).fld (0 : Nat)).asStr])
++ List.take (1 : Nat) [D.str (decB n)]).length ∧ (1 : Nat) + (1 : Nat) + nm.len ≤ (16777216 : Nat) ∧ (0 : Nat) + ((1 : Nat) + (1 : Nat) + nm.len) ≤ (List.take ((1 : Nat) + (1 : Nat)) (List.take (1 :
Nat) (List.take (1 : Nat) [D.str ((nthD formsL k.toNat).fld (0 : Nat)).asStr]) ++ List.take (1 : Nat) [D.str (decB n)]) ++ nm.asList).length ∧ D.list (List.take ((1 : Nat) + (1 : Nat) + nm.len)
(List.take ((1 : Nat) + (1 : Nat)) (List.take (1 : Nat) (List.take (1 : Nat) [D.str ((nthD formsL k.toNat).fld (0 : Nat)).asStr]) ++ List.take (1 : Nat) [D.str (decB n)]) ++ nm.asList)) = D.list
(wordsL k a la nm n))))) ∧ (((0 : Int) < ((nthD formsL k.toNat).fld (2 : Nat)).asInt → False) → ((cNm (nthD formsL k.toNat)).asProp → (la → (0 : Nat) + (1 : Nat) ≤ [D.str [(108 : UInt8), (97 : UInt8),
(115 : UInt8), (116 : UInt8)]].length ∧ (0 : Nat) + (1 : Nat) ≤ (List.take (1 : Nat) [D.str ((nthD formsL k.toNat).fld (0 : Nat)).asStr]).length ∧ (1 : Nat) + (1 : Nat) ≤ (16777216 : Nat) ∧ (nm.len =
(0 : Nat) → (0 : Nat) + ((1 : Nat) + (1 : Nat)) ≤ (List.take (1 : Nat) (List.take (1 : Nat) [D.str ((nthD formsL k.toNat).fld (0 : Nat)).asStr]) ++ List.take (1 : Nat) [D.str [(108 : UInt8), (97 :
UInt8), (115 : UInt8), (116 : UInt8)]]).length ∧ D.list (List.take ((1 : Nat) + (1 : Nat)) (List.take (1 : Nat) (List.take (1 : Nat) [D.str ((nthD formsL k.toNat).fld (0 : Nat)).asStr]) ++ List.take
(1 : Nat) [D.str [(108 : UInt8), (97 : UInt8), (115 : UInt8), (116 : UInt8)]])) = D.list (wordsL k a la nm n)) ∧ ((0 : Nat) < nm.len → (0 : Nat) + ((1 : Nat) + (1 : Nat)) ≤ (List.take (1 : Nat)
(List.take (1 : Nat) [D.str ((nthD formsL k.toNat).fld (0 : Nat)).asStr]) ++ List.take (1 : Nat) [D.str [(108 : UInt8), (97 : UInt8), (115 : UInt8), (116 : UInt8)]]).length ∧ (1 : Nat) + (1 : Nat) +
nm.len ≤ (16777216 : Nat) ∧ (0 : Nat) + ((1 : Nat) + (1 : Nat) + nm.len) ≤ (List.take ((1 : Nat) + (1 : Nat)) (List.take (1 : Nat) (List.take (1 : Nat) [D.str ((nthD formsL k.toNat).fld (0 :
Nat)).asStr]) ++ List.take (1 : Nat) [D.str [(108 : UInt8), (97 : UInt8), (115 : UInt8), (116 : UInt8)]]) ++ nm.asList).length ∧ D.list (List.take ((1 : Nat) + (1 : Nat) + nm.len) (List.take ((1 :
Nat) + (1 : Nat)) (List.take (1 : Nat) (List.take (1 : Nat) [D.str ((nthD formsL k.toNat).fld (0 : Nat)).asStr]) ++ List.take (1 : Nat) [D.str [(108 : UInt8), (97 : UInt8), (115 : UInt8), (116 :
UInt8)]]) ++ nm.asList)) = D.list (wordsL k a la nm n))) ∧ ((la → False) → ((cNm (nthD formsL k.toNat)).asProp → (0 : Nat) + (1 : Nat) ≤ [D.str [(102 : UInt8), (105 : UInt8), (114 : UInt8), (115 :
UInt8), (116 : UInt8)]].length ∧ (0 : Nat) + (1 : Nat) ≤ (List.take (1 : Nat) [D.str ((nthD formsL k.toNat).fld (0 : Nat)).asStr]).length ∧ (1 : Nat) + (1 : Nat) ≤ (16777216 : Nat) ∧ (nm.len = (0 :
Nat) → (0 : Nat) + ((1 : Nat) + (1 : Nat)) ≤ (List.take (1 : Nat) (List.take (1 : Nat) [D.str ((nthD formsL k.toNat).fld (0 : Nat)).asStr]) ++ List.take (1 : Nat) [D.str [(102 : UInt8), (105 : UInt8),
(114 : UInt8), (115 : UInt8), (116 : UInt8)]]).length ∧ D.list (List.take ((1 : Nat) + (1 : Nat)) (List.take (1 : Nat) (List.take (1 : Nat) [D.str ((nthD formsL k.toNat).fld (0 : Nat)).asStr]) ++
List.take (1 : Nat) [D.str [(102 : UInt8), (105 : UInt8), (114 : UInt8), (115 : UInt8), (116 : UInt8)]])) = D.list (wordsL k a la nm n)) ∧ ((0 : Nat) < nm.len → (0 : Nat) + ((1 : Nat) + (1 : Nat)) ≤
(List.take (1 : Nat) (List.take (1 : Nat) [D.str ((nthD formsL k.toNat).fld (0 : Nat)).asStr]) ++ List.take (1 : Nat) [D.str [(102 : UInt8), (105 : UInt8), (114 : UInt8), (115 : UInt8), (116 :
UInt8)]]).length ∧ (1 : Nat) + (1 : Nat) + nm.len ≤ (16777216 : Nat) ∧ (0 : Nat) + ((1 : Nat) + (1 : Nat) + nm.len) ≤ (List.take ((1 : Nat) + (1 : Nat)) (List.take (1 : Nat) (List.take (1 : Nat)
[D.str ((nthD formsL k.toNat).fld (0 : Nat)).asStr]) ++ List.take (1 : Nat) [D.str [(102 : UInt8), (105 : UInt8), (114 : UInt8), (115 : UInt8), (116 : UInt8)]]) ++ nm.asList).length ∧ D.list
(List.take ((1 : Nat) + (1 : Nat) + nm.len) (List.take ((1 : Nat) + (1 : Nat)) (List.take (1 : Nat) (List.take (1 : Nat) [D.str ((nthD formsL k.toNat).fld (0 : Nat)).asStr]) ++ List.take (1 : Nat)
[D.str [(102 : UInt8), (105 : UInt8), (114 : UInt8), (115 : UInt8), (116 : UInt8)]]) ++ nm.asList)) = D.list (wordsL k a la nm n))) ∧ (((cNm (nthD formsL k.toNat)).asProp → False) → (nm.len = (0 :
Nat) → (0 : Nat) + (1 : Nat) ≤ (List.take (1 : Nat) [D.str ((nthD formsL k.toNat).fld (0 : Nat)).asStr]).length ∧ D.list (List.take (1 : Nat) (List.take (1 : Nat) [D.str ((nthD formsL k.toNat).fld (0
: Nat)).asStr])) = D.list (wordsL k a la nm n)) ∧ ((0 : Nat) < nm.len → (0 : Nat) + (1 : Nat) ≤ (List.take (1 : Nat) [D.str ((nthD formsL k.toNat).fld (0 : Nat)).asStr]).length ∧ (1 : Nat) + nm.len ≤
(16777216 : Nat) ∧ (0 : Nat) + ((1 : Nat) + nm.len) ≤ (List.take (1 : Nat) (List.take (1 : Nat) [D.str ((nthD formsL k.toNat).fld (0 : Nat)).asStr]) ++ nm.asList).length ∧ D.list (List.take ((1 : Nat)
+ nm.len) (List.take (1 : Nat) (List.take (1 : Nat) [D.str ((nthD formsL k.toNat).fld (0 : Nat)).asStr]) ++ nm.asList)) = D.list (wordsL k a la nm n))))) ∧ (((cNm (nthD formsL k.toNat)).asProp →
False) → ((cNm (nthD formsL k.toNat)).asProp → (0 : Nat) + (1 : Nat) ≤ [D.str [(102 : UInt8), (105 : UInt8), (114 : UInt8), (115 : UInt8), (116 : UInt8)]].length ∧ (0 : Nat) + (1 : Nat) ≤ (List.take
(1 : Nat) [D.str ((nthD formsL k.toNat).fld (0 : Nat)).asStr]).length ∧ (1 : Nat) + (1 : Nat) ≤ (16777216 : Nat) ∧ (nm.len = (0 : Nat) → (0 : Nat) + ((1 : Nat) + (1 : Nat)) ≤ (List.take (1 : Nat)
(List.take (1 : Nat) [D.str ((nthD formsL k.toNat).fld (0 : Nat)).asStr]) ++ List.take (1 : Nat) [D.str [(102 : UInt8), (105 : UInt8), (114 : UInt8), (115 : UInt8), (116 : UInt8)]]).length ∧ D.list
(List.take ((1 : Nat) + (1 : Nat)) (List.take (1 : Nat) (List.take (1 : Nat) [D.str ((nthD formsL k.toNat).fld (0 : Nat)).asStr]) ++ List.take (1 : Nat) [D.str [(102 : UInt8), (105 : UInt8), (114 :
UInt8), (115 : UInt8), (116 : UInt8)]])) = D.list (wordsL k a la nm n)) ∧ ((0 : Nat) < nm.len → (0 : Nat) + ((1 : Nat) + (1 : Nat)) ≤ (List.take (1 : Nat) (List.take (1 : Nat) [D.str ((nthD formsL
k.toNat).fld (0 : Nat)).asStr]) ++ List.take (1 : Nat) [D.str [(102 : UInt8), (105 : UInt8), (114 : UInt8), (115 : UInt8), (116 : UInt8)]]).length ∧ (1 : Nat) + (1 : Nat) + nm.len ≤ (16777216 : Nat) ∧
(0 : Nat) + ((1 : Nat) + (1 : Nat) + nm.len) ≤ (List.take ((1 : Nat) + (1 : Nat)) (List.take (1 : Nat) (List.take (1 : Nat) [D.str ((nthD formsL k.toNat).fld (0 : Nat)).asStr]) ++ List.take (1 : Nat)
[D.str [(102 : UInt8), (105 : UInt8), (114 : UInt8), (115 : UInt8), (116 : UInt8)]]) ++ nm.asList).length ∧ D.list (List.take ((1 : Nat) + (1 : Nat) + nm.len) (List.take ((1 : Nat) + (1 : Nat))
(List.take (1 : Nat) (List.take (1 : Nat) [D.str ((nthD formsL k.toNat).fld (0 : Nat)).asStr]) ++ List.take (1 : Nat) [D.str [(102 : UInt8), (105 : UInt8), (114 : UInt8), (115 : UInt8), (116 :
UInt8)]]) ++ nm.asList)) = D.list (wordsL k a la nm n))) ∧ (((cNm (nthD formsL k.toNat)).asProp → False) → (nm.len = (0 : Nat) → (0 : Nat) + (1 : Nat) ≤ (List.take (1 : Nat) [D.str ((nthD formsL
k.toNat).fld (0 : Nat)).asStr]).length ∧ D.list (List.take (1 : Nat) (List.take (1 : Nat) [D.str ((nthD formsL k.toNat).fld (0 : Nat)).asStr])) = D.list (wordsL k a la nm n)) ∧ ((0 : Nat) < nm.len →
(0 : Nat) + (1 : Nat) ≤ (List.take (1 : Nat) [D.str ((nthD formsL k.toNat).fld (0 : Nat)).asStr]).length ∧ (1 : Nat) + nm.len ≤ (16777216 : Nat) ∧ (0 : Nat) + ((1 : Nat) + nm.len) ≤ (List.take (1 :
Nat) (List.take (1 : Nat) [D.str ((nthD formsL k.toNat).fld (0 : Nat)).asStr]) ++ nm.asList).length ∧ D.list (List.take ((1 : Nat) + nm.len) (List.take (1 : Nat) (List.take (1 : Nat) [D.str ((nthD
formsL k.toNat).fld (0 : Nat)).asStr]) ++ nm.asList)) = D.list (wordsL k a la nm n))))))) := by intros; kernel_rfl
theorem wrap8 {n : Int} (h0 : 0 ≤ n) (h1 : n < 128) : IntKind.u8.wrap n = n := by
 obtain ⟨m, rfl⟩ : ∃ m : Nat, n = m := ⟨n.toNat, by omega⟩
 exact wrap_small _ m (by omega)
theorem wrapI {n : Int} (h0 : 0 ≤ n) (h1 : n < 128) : IntKind.i64.wrap n = n := by
 obtain ⟨m, rfl⟩ : ∃ m : Nat, n = m := ⟨n.toNat, by omega⟩
 exact wrap_small _ m (by omega)
theorem s58 (k : Int) (h : 1 ≤ k ∧ k ≤ 10) : symFun (ctx (fun _ => none) cfAnn) 3 58 [.int .i64 k] (.str (wordB k)) := by
 rw [vc58]
 have : k = 1 ∨ k = 2 ∨ k = 3 ∨ k = 4 ∨ k = 5 ∨ k = 6 ∨ k = 7 ∨ k = 8 ∨ k = 9 ∨ k = 10 := by omega
 rcases this with rfl | rfl | rfl | rfl | rfl | rfl | rfl | rfl | rfl | rfl <;> exact ⟨⟨by decide, by decide⟩, by decide, by decide, by decide, rfl⟩
theorem byteL_one {m : Int} (h0 : 0 ≤ m) (h1 : m < 10) : byteL [D.int (48 + m)] := ⟨fun d hd => by
 rw [List.mem_singleton] at hd
 exact ⟨48 + m.toNat, by omega, by rw [hd]; congr 1; omega⟩⟩
theorem bytes_one {m : Int} (h0 : 0 ≤ m) (h1 : m < 10) : bytesD [D.int (48 + m)] = [digB m] := by
 show [UInt8.ofNat (48 + m).toNat] = [UInt8.ofNat (48 + m.toNat)]
 rw [show (48 + m).toNat = 48 + m.toNat by omega]
theorem s59 (n : Int) (h : 0 ≤ n ∧ n ≤ 99) : symFun (ctx (fun _ => none) cfAnn) 2 59 [.int .i64 n] (.str (decB n)) := by
 rw [vc59]
 have hd : n.tdiv 10 = n / 10 := Int.tdiv_eq_ediv_of_nonneg h.1
 have hm : n.tmod 10 = n % 10 := Int.tmod_eq_emod_of_nonneg h.1
 rw [hd, hm]
 refine ⟨fun h1 => ?_, fun h1 => ⟨fun h => by omega, ⟨by omega, by omega⟩, fun h2 => ?_, fun h2 => absurd (by omega) h2⟩⟩
 ·rw [wrap8 (by omega) (by omega)]
  exact ⟨by omega, by simp, byteL_one (by omega) (by omega), by rw [show List.take 1 [D.int (48 + n)] = [D.int (48 + n)] from rfl, bytes_one (by omega) (by omega)]; unfold decB; rw [if_pos h1]⟩
 ·rw [wrap8 (by omega) (by omega), wrap8 (by omega) (by omega)]
  rw [show List.take 1 [D.int (48 + n / 10)] = [D.int (48 + n / 10)] from rfl, show List.take 1 [D.int (48 + n % 10)] = [D.int (48 + n % 10)] from rfl, bytes_one (by omega) (by omega), bytes_one (by omega) (by omega)]
  refine ⟨by omega, by simp, byteL_one (by omega) (by omega), fun h => by omega, by omega, by simp, byteL_one (by omega) (by omega), by simp, ?_⟩
  unfold decB; rw [if_neg h1]; rfl
theorem small_one : ∀ n : Nat, n < 10 → List.take (((n : Int) + 1).toNat - (n : Int).toNat) (List.drop (n : Int).toNat digsB) = decB n := by decide +kernel
theorem small_two : ∀ n : Nat, n < 100 → 10 ≤ n → List.take (((n : Int) * 2 + 2).toNat - ((n : Int) * 2).toNat) (List.drop ((n : Int) * 2).toNat smB) = decB n := by decide +kernel
theorem smB_len : smB.length = 200 := by decide +kernel
theorem digsB_len : digsB.length = 36 := by decide +kernel
theorem s84 (n : Int) (h : 0 ≤ n ∧ n ≤ 99) : symFun (ctx cf0 cfAnn) 6 84 [.int .i64 n] (.str (decB n)) := by
 rw [vc84, smB_len, digsB_len]
 obtain ⟨m, rfl⟩ : ∃ m : Nat, n = m := ⟨n.toNat, by omega⟩
 refine ⟨fun _ => ⟨fun _ => ⟨fun h1 => ⟨by omega, by omega, by omega, by omega, small_one m (by omega)⟩, fun h1 => ⟨by omega, by omega, by omega, by omega, by omega, by omega, small_two m (by omega) (by have h2 : ¬ (m : Int) < 10 := h1; omega)⟩⟩, fun h1 => absurd (by omega) h1⟩, fun h0 => absurd h.1 h0⟩
theorem s34 (c : D) (h : smallC c) : symFun (ctx cc4 cfAnn) 3 34 [.dat 22 c] (.prop ((badZ c).2 = 0)) := by
 rw [vc34]; exact ⟨h, Iff.rfl⟩
theorem formed_n {k : Int} {a : List UInt8} {la : Prop} {m : Nat} {n : Int} (h : formP k a la m n) : (1 ≤ k ∧ k ≤ 10) ∧ 0 ≤ n ∧ n ≤ 63 ∧ m ≤ 16 := by
 rcases h.out with h | h | h | h | h | h <;> omega
theorem take_len {X : List D} {n : Nat} (h : X.length ≤ n) : List.take n X = X := List.take_of_length_le h
open Classical in
set_option maxHeartbeats 16000000 in
theorem s56 (k : Int) (a : List UInt8) (la : Prop) (nm : D) (n : Int) (h : rightC k a la nm n) : symFun (ctx cf1 cfAnn) 4 56 [.agg [.int .u8 k, .str a, .prop la, .dat 32 nm, .int .i64 n]] (.dat 32 (.list (wordsL k a la nm n))) := by
 obtain ⟨hk, hn0, hn1, hm⟩ := formed_n h.out.1
 rw [vc56]
 have e2 : ((nthD formsL k.toNat).fld 2).asInt = if k = 4 then 2 else if k = 10 then 63 else 0 := fm2 k hk.1 hk.2
 have e3 := fm3 k hk.1 hk.2
 have hl : nm.asList.length = nm.len := rfl
 have hN : 0 < ((nthD formsL k.toNat).fld 2).asInt ↔ hasN k := by rw [e2]; unfold hasN; constructor <;> intro h <;> (repeat' split at *) <;> omega
 have hL : (cNm (nthD formsL k.toNat)).asProp ↔ hasL k := by rw [e3]; unfold hasL; omega
 have hz : nm.len = 0 → nm.asList = [] := fun h => List.eq_nil_of_length_eq_zero h
 simp only [hN, hL, f_w0, imp_false, Classical.not_not]
 unfold wordsL
 by_cases ha : a = [] <;> by_cases h1 : hasN k <;> by_cases h2 : hasL k <;> by_cases h3 : la <;>
  simp only [ha, h1, h2, h3, if_true, if_false, not_true_eq_false, not_false_eq_true, true_implies, false_implies, true_and, and_true] <;>
  (repeat' (first | refine And.intro ?_ ?_ | intro _)) <;>
  first
   | omega
   | (simp only [List.length_take, List.length_append, List.length_cons, List.length_nil, hl]; omega)
   | (rename_i hq; rw [hz hq]; rfl)
   | (rw [take_len (by simp only [List.length_take, List.length_append, List.length_cons, List.length_nil, hl]; omega)]; rfl)
end Go.Ev
