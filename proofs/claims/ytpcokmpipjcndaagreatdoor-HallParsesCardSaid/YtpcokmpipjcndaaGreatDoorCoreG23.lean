/-
  Part of the engine that the claim is proved with: it states nothing of the document by itself.
-/
import Derived.Test.YtpcokmpipjcndaaGreatDoorCoreG22

section
open Go.Proofs
namespace Go.Ev
set_option maxRecDepth 100000
set_option maxHeartbeats 4000000
theorem vc31 : ∀ (s : List UInt8), symFun (ctx (fun _ => none) hpAnn) (8 : Nat) (31 : FuncId) [V.str s, V.val (Value.string (ByteArray.mk #[(10 : UInt8)]))] (V.tup [V.str (cutA s), V.str (cutB s),
V.prop ((0 : Int) ≤ cutI s (10 : UInt8))]) = (([(10 : UInt8)] = s → (0 : Int) ≤ (0 : Int) ∧ (0 : Int) ≤ (0 : Int) ∧ (0 : Int) ≤ (↑s.length : Int) ∧ (0 : Int) ≤ Int.ofNat (1 : Nat) ∧ Int.ofNat (1 :
Nat) ≤ (↑s.length : Int) ∧ (↑s.length : Int) ≤ (↑s.length : Int) ∧ List.take (Int.toNat (0 : Int) - (0 : Nat)) (List.drop (0 : Nat) s) = cutA s ∧ List.take (s.length - (Int.ofNat (1 : Nat)).toNat)
(List.drop (Int.ofNat (1 : Nat)).toNat s) = cutB s ∧ (true = true ↔ (0 : Int) ≤ cutI s (10 : UInt8)) ∧ True) ∧ (([(10 : UInt8)] = s → False) → (0 : Int) ≤ (0 : Int) ∧ (0 : Int) < (↑[(10 :
UInt8)].length : Int) ∧ (0 : Int) ≤ byteAt [(10 : UInt8)] (Int.toNat (0 : Int)) ∧ ((0 : Int) ≤ Lib.indexByte s (UInt8.ofNat (byteAt [(10 : UInt8)] (Int.toNat (0 : Int))).toNat) → (0 : Int) ≤ (0 : Int)
∧ (0 : Int) ≤ Lib.indexByte s (UInt8.ofNat (byteAt [(10 : UInt8)] (Int.toNat (0 : Int))).toNat) ∧ Lib.indexByte s (UInt8.ofNat (byteAt [(10 : UInt8)] (Int.toNat (0 : Int))).toNat) ≤ (↑s.length : Int)
∧ ((-9223372036854775808 : Int) ≤ Lib.indexByte s (UInt8.ofNat (byteAt [(10 : UInt8)] (Int.toNat (0 : Int))).toNat) + (↑(ByteArray.mk #[(10 : UInt8)]).size : Int) ∧ Lib.indexByte s (UInt8.ofNat
(byteAt [(10 : UInt8)] (Int.toNat (0 : Int))).toNat) + (↑(ByteArray.mk #[(10 : UInt8)]).size : Int) < (9223372036854775808 : Int)) ∧ (0 : Int) ≤ Lib.indexByte s (UInt8.ofNat (byteAt [(10 : UInt8)]
(Int.toNat (0 : Int))).toNat) + (↑(ByteArray.mk #[(10 : UInt8)]).size : Int) ∧ Lib.indexByte s (UInt8.ofNat (byteAt [(10 : UInt8)] (Int.toNat (0 : Int))).toNat) + (↑(ByteArray.mk #[(10 : UInt8)]).size
: Int) ≤ (↑s.length : Int) ∧ (↑s.length : Int) ≤ (↑s.length : Int) ∧ List.take (Lib.indexByte s (UInt8.ofNat (byteAt [(10 : UInt8)] (Int.toNat (0 : Int))).toNat)).toNat (List.drop (0 : Nat) s) = cutA
s ∧ List.take (s.length - (Lib.indexByte s (UInt8.ofNat (byteAt [(10 : UInt8)] (Int.toNat (0 : Int))).toNat) + (↑(ByteArray.mk #[(10 : UInt8)]).size : Int)).toNat) (List.drop (Lib.indexByte s
(UInt8.ofNat (byteAt [(10 : UInt8)] (Int.toNat (0 : Int))).toNat) + (↑(ByteArray.mk #[(10 : UInt8)]).size : Int)).toNat s) = cutB s ∧ (true = true ↔ (0 : Int) ≤ cutI s (10 : UInt8)) ∧ True) ∧ (((0 :
Int) ≤ Lib.indexByte s (UInt8.ofNat (byteAt [(10 : UInt8)] (Int.toNat (0 : Int))).toNat) → False) → s = cutA s ∧ [] = cutB s ∧ (false = true ↔ (0 : Int) ≤ cutI s (10 : UInt8)) ∧ True))) := by intros; kernel_rfl
theorem vc73 : ∀ (s : List UInt8), symFun (ctx (fun _ => none) hpAnn) (8 : Nat) (73 : FuncId) [V.str s] (V.str s) = (((↑s.length : Int) = (0 : Int) → [] = s) ∧ (((↑s.length : Int) = (0 : Int) → False)
→ (0 : Int) ≤ (↑s.length : Int) ∧ (↑s.length : Int) ≤ (↑s.length : Int) ∧ (↑s.length : Int) ≤ (16777216 : Int) ∧ (ctx (fun _ => none) hpAnn).P.types[(5 : Nat)].bytes * s.length ≤ (281474976710656 :
Nat) ∧ (0 : Nat) + s.length ≤ (List.replicate s.length (D.int (0 : Int))).length ∧ s.length ≤ s.length ∧ (0 : Nat) < s.length ∧ (0 : Int) ≤ (0 : Int) ∧ (0 : Int) < (↑s.length : Int) ∧ (0 : Int) ≤
(↑s.length : Int) ∧ (0 : Nat) < s.length ∧ s.length ≤ (16777216 : Nat) ∧ (0 : Nat) + Int.toNat (0 : Int) + s.length ≤ (List.take (0 : Nat) (List.replicate s.length (D.int (0 : Int))) ++ strD s ++
List.drop ((0 : Nat) + s.length) (List.replicate s.length (D.int (0 : Int)))).length ∧ byteL (List.take s.length (List.drop ((0 : Nat) + Int.toNat (0 : Int)) (List.take (0 : Nat) (List.replicate
s.length (D.int (0 : Int))) ++ strD s ++ List.drop ((0 : Nat) + s.length) (List.replicate s.length (D.int (0 : Int)))))) ∧ bytesD (List.take s.length (List.drop ((0 : Nat) + Int.toNat (0 : Int))
(List.take (0 : Nat) (List.replicate s.length (D.int (0 : Int))) ++ strD s ++ List.drop ((0 : Nat) + s.length) (List.replicate s.length (D.int (0 : Int)))))) = s)) := by intros; kernel_rfl
theorem vc100 : ∀ (s : List UInt8), symFun (ctx (fun _ => none) hpAnn) (3 : Nat) (100 : FuncId) [V.str s] (V.tup [V.int IntKind.i64 (pI (numP s) (numZ s)), V.prop (numP s)]) = ((((↑s.length : Int) <
(1 : Int) → False) → (((9 : Int) < (↑s.length : Int) → False) → (0 : Int) ≤ (0 : Int) ∧ (0 : Int) < (↑s.length : Int) ∧ (byteAt s (Int.toNat (0 : Int)) = (48 : Int) → ((1 : Int) < (↑s.length : Int) →
(0 : Int) = pI (numP s) (numZ s) ∧ (false = true ↔ numP s) ∧ True) ∧ (((1 : Int) < (↑s.length : Int) → False) → (∃ (x : Nat), (x ≤ s.length ∧ ∀ (i : Nat), i < x → (48 : Int) ≤ byteAt s i ∧ byteAt s i
≤ (57 : Int)) ∧ ((0 : Int) = (↑x : Int) ∧ (0 : Int) = numV s x ∧ True) ∧ True) ∧ ∀ (x : Nat), (x ≤ s.length ∧ ∀ (i : Nat), i < x → (48 : Int) ≤ byteAt s i ∧ byteAt s i ≤ (57 : Int)) → s.length - x <
LIM ∧ ((↑x : Int) < (↑s.length : Int) → (0 : Int) ≤ (↑x : Int) ∧ (↑x : Int) < (↑s.length : Int) ∧ ((byteAt s x < (48 : Int) → False) → (0 : Int) ≤ (↑x : Int) ∧ (↑x : Int) < (↑s.length : Int) ∧ ((57 :
Int) < byteAt s x → (0 : Int) = pI (numP s) (numZ s) ∧ (false = true ↔ numP s) ∧ True) ∧ (((57 : Int) < byteAt s x → False) → ((-9223372036854775808 : Int) ≤ (10 : Int) * numV s x ∧ (10 : Int) * numV
s x < (9223372036854775808 : Int)) ∧ (0 : Int) ≤ (↑x : Int) ∧ (↑x : Int) < (↑s.length : Int) ∧ ((0 : Int) ≤ byteAt s x - (48 : Int) ∧ byteAt s x - (48 : Int) < (256 : Int)) ∧ ((-9223372036854775808 :
Int) ≤ (10 : Int) * numV s x + IntKind.i64.wrap (byteAt s x - (48 : Int)) ∧ (10 : Int) * numV s x + IntKind.i64.wrap (byteAt s x - (48 : Int)) < (9223372036854775808 : Int)) ∧ ((-9223372036854775808 :
Int) ≤ (↑x : Int) + (1 : Int) ∧ (↑x : Int) + (1 : Int) < (9223372036854775808 : Int)) ∧ ∃ (y : Nat), (y ≤ s.length ∧ ∀ (i : Nat), i < y → (48 : Int) ≤ byteAt s i ∧ byteAt s i ≤ (57 : Int)) ∧ s.length
- y < s.length - x ∧ ((↑x : Int) + (1 : Int) = (↑y : Int) ∧ (10 : Int) * numV s x + IntKind.i64.wrap (byteAt s x - (48 : Int)) = numV s y ∧ True) ∧ True)) ∧ (byteAt s x < (48 : Int) → (0 : Int) = pI
(numP s) (numZ s) ∧ (false = true ↔ numP s) ∧ True)) ∧ (((↑x : Int) < (↑s.length : Int) → False) → numV s x = pI (numP s) (numZ s) ∧ (true = true ↔ numP s) ∧ True))) ∧ ((byteAt s (Int.toNat (0 : Int))
= (48 : Int) → False) → (∃ (x : Nat), (x ≤ s.length ∧ ∀ (i : Nat), i < x → (48 : Int) ≤ byteAt s i ∧ byteAt s i ≤ (57 : Int)) ∧ ((0 : Int) = (↑x : Int) ∧ (0 : Int) = numV s x ∧ True) ∧ True) ∧ ∀ (x :
Nat), (x ≤ s.length ∧ ∀ (i : Nat), i < x → (48 : Int) ≤ byteAt s i ∧ byteAt s i ≤ (57 : Int)) → s.length - x < LIM ∧ ((↑x : Int) < (↑s.length : Int) → (0 : Int) ≤ (↑x : Int) ∧ (↑x : Int) < (↑s.length
: Int) ∧ ((byteAt s x < (48 : Int) → False) → (0 : Int) ≤ (↑x : Int) ∧ (↑x : Int) < (↑s.length : Int) ∧ ((57 : Int) < byteAt s x → (0 : Int) = pI (numP s) (numZ s) ∧ (false = true ↔ numP s) ∧ True) ∧
(((57 : Int) < byteAt s x → False) → ((-9223372036854775808 : Int) ≤ (10 : Int) * numV s x ∧ (10 : Int) * numV s x < (9223372036854775808 : Int)) ∧ (0 : Int) ≤ (↑x : Int) ∧ (↑x : Int) < (↑s.length :
Int) ∧ ((0 : Int) ≤ byteAt s x - (48 : Int) ∧ byteAt s x - (48 : Int) < (256 : Int)) ∧ ((-9223372036854775808 : Int) ≤ (10 : Int) * numV s x + IntKind.i64.wrap (byteAt s x - (48 : Int)) ∧ (10 : Int) *
numV s x + IntKind.i64.wrap (byteAt s x - (48 : Int)) < (9223372036854775808 : Int)) ∧ ((-9223372036854775808 : Int) ≤ (↑x : Int) + (1 : Int) ∧ (↑x : Int) + (1 : Int) < (9223372036854775808 : Int)) ∧
∃ (y : Nat), (y ≤ s.length ∧ ∀ (i : Nat), i < y → (48 : Int) ≤ byteAt s i ∧ byteAt s i ≤ (57 : Int)) ∧ s.length - y < s.length - x ∧ ((↑x : Int) + (1 : Int) = (↑y : Int) ∧ (10 : Int) * numV s x +
IntKind.i64.wrap (byteAt s x - (48 : Int)) = numV s y ∧ True) ∧ True)) ∧ (byteAt s x < (48 : Int) → (0 : Int) = pI (numP s) (numZ s) ∧ (false = true ↔ numP s) ∧ True)) ∧ (((↑x : Int) < (↑s.length :
Int) → False) → numV s x = pI (numP s) (numZ s) ∧ (true = true ↔ numP s) ∧ True))) ∧ ((9 : Int) < (↑s.length : Int) → (0 : Int) = pI (numP s) (numZ s) ∧ (false = true ↔ numP s) ∧ True)) ∧ ((↑s.length
: Int) < (1 : Int) → (0 : Int) = pI (numP s) (numZ s) ∧ (false = true ↔ numP s) ∧ True)) := by intros; kernel_rfl
theorem vc78 : ∀ (s : List UInt8), symFun (ctx (fun _ => none) hpAnn) (3 : Nat) (78 : FuncId) [V.str s] (V.tup [V.int IntKind.i64 (numZ s), V.prop (numP s)]) = ((((↑s.length : Int) < (1 : Int) →
False) → ((9 : Int) < (↑s.length : Int) → (0 : Int) = numZ s ∧ (false = true ↔ numP s) ∧ True) ∧ (((9 : Int) < (↑s.length : Int) → False) → (∃ (x : Nat), (x ≤ s.length ∧ ∀ (i : Nat), i < x → (48 :
Int) ≤ byteAt s i ∧ byteAt s i ≤ (57 : Int)) ∧ ((0 : Int) = (↑x : Int) ∧ (0 : Int) = numV s x ∧ True) ∧ True) ∧ ∀ (x : Nat), (x ≤ s.length ∧ ∀ (i : Nat), i < x → (48 : Int) ≤ byteAt s i ∧ byteAt s i ≤
(57 : Int)) → s.length - x < LIM ∧ ((↑x : Int) < (↑s.length : Int) → (0 : Int) ≤ (↑x : Int) ∧ (↑x : Int) < (↑s.length : Int) ∧ ((byteAt s x < (48 : Int) → False) → (0 : Int) ≤ (↑x : Int) ∧ (↑x : Int)
< (↑s.length : Int) ∧ ((57 : Int) < byteAt s x → (0 : Int) = numZ s ∧ (false = true ↔ numP s) ∧ True) ∧ (((57 : Int) < byteAt s x → False) → ((-9223372036854775808 : Int) ≤ numV s x * (10 : Int) ∧
numV s x * (10 : Int) < (9223372036854775808 : Int)) ∧ (0 : Int) ≤ (↑x : Int) ∧ (↑x : Int) < (↑s.length : Int) ∧ ((-9223372036854775808 : Int) ≤ numV s x * (10 : Int) + IntKind.i64.wrap (byteAt s x) ∧
numV s x * (10 : Int) + IntKind.i64.wrap (byteAt s x) < (9223372036854775808 : Int)) ∧ ((-9223372036854775808 : Int) ≤ numV s x * (10 : Int) + IntKind.i64.wrap (byteAt s x) - (48 : Int) ∧ numV s x *
(10 : Int) + IntKind.i64.wrap (byteAt s x) - (48 : Int) < (9223372036854775808 : Int)) ∧ ((-9223372036854775808 : Int) ≤ (↑x : Int) + (1 : Int) ∧ (↑x : Int) + (1 : Int) < (9223372036854775808 : Int))
∧ ∃ (y : Nat), (y ≤ s.length ∧ ∀ (i : Nat), i < y → (48 : Int) ≤ byteAt s i ∧ byteAt s i ≤ (57 : Int)) ∧ s.length - y < s.length - x ∧ ((↑x : Int) + (1 : Int) = (↑y : Int) ∧ numV s x * (10 : Int) +
IntKind.i64.wrap (byteAt s x) - (48 : Int) = numV s y ∧ True) ∧ True)) ∧ (byteAt s x < (48 : Int) → (0 : Int) = numZ s ∧ (false = true ↔ numP s) ∧ True)) ∧ (((↑x : Int) < (↑s.length : Int) → False) →
(((↑s.length : Int) = (1 : Int) → False) → (0 : Int) ≤ (0 : Int) ∧ (0 : Int) < (↑s.length : Int) ∧ numV s x = numZ s ∧ (byteAt s (Int.toNat (0 : Int)) = (48 : Int) → False ↔ numP s) ∧ True) ∧
((↑s.length : Int) = (1 : Int) → numV s x = numZ s ∧ (true = true ↔ numP s) ∧ True)))) ∧ ((↑s.length : Int) < (1 : Int) → (0 : Int) = numZ s ∧ (false = true ↔ numP s) ∧ True)) := by intros; kernel_rfl
theorem vc77 : ∀ (k : Int), symFun (ctx (fun _ => none) hpAnn) (3 : Nat) (77 : FuncId) [V.int IntKind.u8 k] (V.str (shapeW k)) = ((k = (1 : Int) → [(114 : UInt8), (111 : UInt8), (117 : UInt8), (110 :
UInt8), (100 : UInt8)] = shapeW k) ∧ ((k = (1 : Int) → False) → (k = (2 : Int) → [(108 : UInt8), (111 : UInt8), (110 : UInt8), (103 : UInt8)] = shapeW k) ∧ ((k = (2 : Int) → False) → (k = (3 : Int) →
[(104 : UInt8), (111 : UInt8), (114 : UInt8), (115 : UInt8), (101 : UInt8), (115 : UInt8), (104 : UInt8), (111 : UInt8), (101 : UInt8)] = shapeW k) ∧ ((k = (3 : Int) → False) → [(114 : UInt8), (111 :
UInt8), (119 : UInt8)] = shapeW k)))) := by intros; kernel_rfl
theorem vc71 : ∀ (w : List UInt8), symFun (ctx (fun _ => none) hpAnn) (5 : Nat) (71 : FuncId) [V.str w] (V.tup [V.int IntKind.u8 (shapeZ w), V.prop (shapeZ w ≠ (0 : Int))]) = (([(114 : UInt8), (111 :
UInt8), (117 : UInt8), (110 : UInt8), (100 : UInt8)] = w → (1 : Int) = shapeZ w ∧ (true = true ↔ shapeZ w = (0 : Int) → False) ∧ True) ∧ (([(114 : UInt8), (111 : UInt8), (117 : UInt8), (110 : UInt8),
(100 : UInt8)] = w → False) → ([(108 : UInt8), (111 : UInt8), (110 : UInt8), (103 : UInt8)] = w → Int.ofNat (2 : Nat) = shapeZ w ∧ (true = true ↔ shapeZ w = (0 : Int) → False) ∧ True) ∧ (([(108 :
UInt8), (111 : UInt8), (110 : UInt8), (103 : UInt8)] = w → False) → ([(104 : UInt8), (111 : UInt8), (114 : UInt8), (115 : UInt8), (101 : UInt8), (115 : UInt8), (104 : UInt8), (111 : UInt8), (101 :
UInt8)] = w → Int.ofNat (3 : Nat) = shapeZ w ∧ (true = true ↔ shapeZ w = (0 : Int) → False) ∧ True) ∧ (([(104 : UInt8), (111 : UInt8), (114 : UInt8), (115 : UInt8), (101 : UInt8), (115 : UInt8), (104
: UInt8), (111 : UInt8), (101 : UInt8)] = w → False) → ([(114 : UInt8), (111 : UInt8), (119 : UInt8)] = w → Int.ofNat (4 : Nat) = shapeZ w ∧ (true = true ↔ shapeZ w = (0 : Int) → False) ∧ True) ∧
(([(114 : UInt8), (111 : UInt8), (119 : UInt8)] = w → False) → (0 : Int) = shapeZ w ∧ (false = true ↔ shapeZ w = (0 : Int) → False) ∧ True))))) := by intros; kernel_rfl
theorem vc72 : ∀ (l : D), symFun (ctx hp1 hpAnn) (4 : Nat) (72 : FuncId) [V.dat (82 : TypeId) l] (V.tup [V.dat (37 : TypeId) (pD (numsP l) (D.list (List.map (fun (d : D) => D.int (numZ d.asStr))
l.asList))), V.prop (numsP l)]) = ((0 : Int) ≤ (↑l.len : Int) ∧ (↑l.len : Int) ≤ (↑l.len : Int) ∧ (↑l.len : Int) ≤ (16777216 : Int) ∧ (ctx hp1 hpAnn).P.types[(3 : Nat)].bytes * l.len ≤
(281474976710656 : Nat) ∧ (∃ (x : Nat), (x ≤ l.len ∧ ∀ (i : Nat), i < x → numP (sAt l i)) ∧ ((0 : Int) = (↑x : Int) ∧ True) ∧ List.replicate l.len (D.int (0 : Int)) = List.map (fun (d : D) => D.int
(numZ d.asStr)) (List.take x l.asList) ++ List.replicate (l.len - x) (D.int (0 : Int)) ∧ True) ∧ ∀ (x : Nat), (x ≤ l.len ∧ ∀ (i : Nat), i < x → numP (sAt l i)) → l.len - x < LIM ∧ ((↑x : Int) <
(↑l.len : Int) → (0 : Int) ≤ (↑x : Int) ∧ (↑x : Int) < (↑l.len : Int) ∧ True ∧ ((numP (el l x).asStr → False) → D.nil = pD (numsP l) (D.list (List.map (fun (d : D) => D.int (numZ d.asStr)) l.asList))
∧ (false = true ↔ numsP l) ∧ True) ∧ (((numP (el l x).asStr → False) → False) → (0 : Int) ≤ (↑x : Int) ∧ (↑x : Int) < (↑l.len : Int) ∧ x < (List.map (fun (d : D) => D.int (numZ d.asStr)) (List.take x
l.asList) ++ List.replicate (l.len - x) (D.int (0 : Int))).length ∧ ((-9223372036854775808 : Int) ≤ (↑x : Int) + (1 : Int) ∧ (↑x : Int) + (1 : Int) < (9223372036854775808 : Int)) ∧ ∃ (y : Nat), (y ≤
l.len ∧ ∀ (i : Nat), i < y → numP (sAt l i)) ∧ l.len - y < l.len - x ∧ ((↑x : Int) + (1 : Int) = (↑y : Int) ∧ True) ∧ (List.map (fun (d : D) => D.int (numZ d.asStr)) (List.take x l.asList) ++
List.replicate (l.len - x) (D.int (0 : Int))).set x (D.int (pI (numP (el l x).asStr) (numZ (el l x).asStr))) = List.map (fun (d : D) => D.int (numZ d.asStr)) (List.take y l.asList) ++ List.replicate
(l.len - y) (D.int (0 : Int)) ∧ True)) ∧ (((↑x : Int) < (↑l.len : Int) → False) → ((0 : Nat) + l.len ≤ (List.map (fun (d : D) => D.int (numZ d.asStr)) (List.take x l.asList) ++ List.replicate (l.len -
x) (D.int (0 : Int))).length ∧ D.list (List.take l.len (List.map (fun (d : D) => D.int (numZ d.asStr)) (List.take x l.asList) ++ List.replicate (l.len - x) (D.int (0 : Int)))) = pD (numsP l) (D.list
(List.map (fun (d : D) => D.int (numZ d.asStr)) l.asList))) ∧ (true = true ↔ numsP l) ∧ True)) := by intros; kernel_rfl
theorem bz10 : UInt8.ofNat (byteAt [(10 : UInt8)] (Int.toNat (0 : Int))).toNat = 10 := by decide
theorem bz32 : UInt8.ofNat (byteAt [(32 : UInt8)] (Int.toNat (0 : Int))).toNat = 32 := by decide
theorem fcut (s : List UInt8) (c : UInt8) : Lib.indexByte s c = cutI s c := rfl
theorem take_all {α : Type} (l : List α) (n : Nat) (h : l.length ≤ n) : l.take n = l := List.take_of_length_le h
theorem s31 (s : List UInt8) (hs : s.length ≤ 100000) : symFun (ctx (fun _ => none) hpAnn) 8 31 [.str s, .val (.string ⟨#[10]⟩)] (.tup [.str (cutA s), .str (cutB s), .prop (0 ≤ cutI s 10)]) := by
 rw [vc31]
 have ez : (({ data := #[(10 : UInt8)] } : ByteArray).size : Int) = 1 := rfl
 simp only [imp_false, bz10, ez, fcut]
 have hc := cut_cases s 10
 refine ⟨fun h => ?_, fun _ => ⟨by omega, by decide, by decide, fun h0 => ?_, fun h0 => ?_⟩⟩
 ·subst h; exact ⟨by decide, by decide, by decide, by decide, by decide, by decide, by decide, by decide, ⟨fun _ => by decide, fun _ => by first | rfl | trivial⟩, trivial⟩
 ·refine ⟨by omega, h0, by omega, ⟨by omega, by omega⟩, by omega, by omega, by omega, ?_, ?_, ⟨fun _ => h0, fun _ => by first | rfl | trivial⟩, trivial⟩
  ·unfold cutA; rw [if_pos h0]; rfl
  ·unfold cutB; rw [if_pos h0, show (cutI s 10 + 1).toNat = (cutI s 10).toNat + 1 by omega]; exact take_all _ _ (by rw [List.length_drop]; omega)
 ·refine ⟨?_, ?_, ⟨fun h => by simp at h, fun h => absurd h h0⟩, trivial⟩
  ·unfold cutA; rw [if_neg h0]
  ·unfold cutB; rw [if_neg h0]
theorem strD_len (a : List UInt8) : (strD a).length = a.length := List.length_map _
theorem bytesD_strD : ∀ s : List UInt8, bytesD (strD s) = s
 | [] => rfl
 | b :: s => by
  have := bytesD_strD s
  unfold bytesD strD at this ⊢
  rw [List.map_cons, List.map_cons, this]
  congr 1
  show UInt8.ofNat (Int.toNat (b.toNat : Int)) = b
  rw [Int.toNat_natCast, UInt8.ofNat_toNat]
theorem byteL_strD (s : List UInt8) : byteL (strD s) := ⟨fun d hd => by
 obtain ⟨b, _, rfl⟩ := List.mem_map.1 hd
 exact ⟨b.toNat, b.toNat_lt, rfl⟩⟩
theorem s73 (s : List UInt8) (hs : s.length ≤ 100000) : symFun (ctx (fun _ => none) hpAnn) 8 73 [.str s] (.str s) := by
 rw [vc73]
 have e1 : (ctx (fun _ => none) hpAnn).P.types[(5 : Nat)].bytes = 1 := rfl
 have e2 : List.take (0 : Nat) (List.replicate s.length (D.int 0)) ++ strD s ++ List.drop (0 + s.length) (List.replicate s.length (D.int 0)) = strD s := by
  rw [List.drop_of_length_le (by rw [List.length_replicate]; omega), List.append_nil]; rfl
 have e3 : List.take s.length (List.drop (0 + Int.toNat 0) (strD s)) = strD s := take_all _ _ (by rw [show (0 + Int.toNat 0) = 0 from rfl, List.drop_zero, strD_len]; omega)
 rw [e1, e2, e3]
 refine ⟨fun h => (List.eq_nil_of_length_eq_zero (by omega)).symm, fun h => ?_⟩
 have h : ¬ (s.length : Int) = 0 := h
 refine ⟨by omega, by omega, by omega, by omega, by rw [List.length_replicate]; omega, by omega, by omega, by omega, by omega, by omega, by omega, by omega, ?_, byteL_strD s, bytesD_strD s⟩
 rw [strD_len, show Int.toNat 0 = 0 from rfl]; omega
theorem byte_lt (s : List UInt8) (i : Nat) : 0 ≤ byteAt s i ∧ byteAt s i < 256 := by
 unfold byteAt
 have := ((s[i]?).getD 0).toNat_lt
 omega
theorem numV_lt (s : List UInt8) : ∀ n, (∀ i, i < n → 48 ≤ byteAt s i ∧ byteAt s i ≤ 57) → 0 ≤ numV s n ∧ numV s n < ((10 ^ n : Nat) : Int)
 | 0, _ => by unfold numV; omega
 | n + 1, h => by
  have ih := numV_lt s n fun i hi => h i (by omega)
  have hb := h n (by omega)
  unfold numV
  rw [Nat.pow_succ]; omega
theorem numV_b (s : List UInt8) (n : Nat) (h9 : n ≤ 9) (h : ∀ i, i < n → 48 ≤ byteAt s i ∧ byteAt s i ≤ 57) : 0 ≤ numV s n ∧ numV s n < 1000000000 := by
 have h1 := numV_lt s n h
 have h2 : 10 ^ n ≤ 10 ^ 9 := Nat.pow_le_pow_right (by omega) h9
 have h3 : (10 : Nat) ^ 9 = 1000000000 := by decide
 omega
theorem wrapB (s : List UInt8) (i : Nat) : IntKind.i64.wrap (byteAt s i) = byteAt s i := IntWalk.i64_in _ ⟨by have := byte_lt s i; omega, by have := byte_lt s i; omega⟩
theorem digs_of {s : List UInt8} (h1 : 1 ≤ s.length) (h2 : s.length ≤ 9) {x : Nat} (hx : ¬ (x : Int) < s.length) (h : ∀ i, i < x → 48 ≤ byteAt s i ∧ byteAt s i ≤ 57) : digsP s := ⟨h1, h2, fun i hi => h i (by omega)⟩
theorem numZ_yes {s : List UInt8} (h : digsP s) : numZ s = numV s s.length := by unfold numZ; rw [if_pos h]
theorem numZ_no {s : List UInt8} (h : ¬ digsP s) : 0 = numZ s := by unfold numZ; rw [if_neg h]
theorem num_digs {s : List UInt8} (h : numP s) : digsP s := ⟨h.out.1, h.out.2.1, h.out.2.2.2⟩
theorem pI_no {p : Prop} (n : Int) (h : ¬ p) : 0 = pI p n := by unfold pI; rw [if_neg h]
theorem pI_yes {p : Prop} (n : Int) (h : p) : pI p n = n := by unfold pI; rw [if_pos h]
theorem pD_yes {p : Prop} (d : D) (h : p) : pD p d = d := by unfold pD; rw [if_pos h]
theorem pD_no {p : Prop} (d : D) (h : ¬ p) : D.nil = pD p d := by unfold pD; rw [if_neg h]
theorem s78 (s : List UInt8) : symFun (ctx (fun _ => none) hpAnn) 3 78 [.str s] (.tup [.int .i64 (numZ s), .prop (numP s)]) := by
 rw [vc78]
 simp only [imp_false, Classical.not_not, true_and, and_true, wrapB]
 have no : ¬ digsP s → 0 = numZ s ∧ (false = true ↔ numP s) := fun hn => ⟨numZ_no hn, fun h => by simp at h, fun h => absurd (num_digs h) hn⟩
 refine ⟨fun h1 => ⟨fun h2 => no fun h => by have := h.out.2.1; omega, fun h2 => ⟨⟨0, ⟨by omega, fun i hi => by omega⟩, rfl, rfl⟩, fun x ⟨hx, hinv⟩ => ⟨by unfold LIM; omega, fun hlt => ⟨by omega, hlt, fun h3 => ⟨by omega, hlt, fun h4 => no fun h => by have := h.out.2.2 x (by omega); omega, fun h4 => ?_⟩, fun h3 => no fun h => by have := h.out.2.2 x (by omega); omega⟩, fun hge => ?_⟩⟩⟩, fun h1 => no fun h => by have := h.out.1; omega⟩
 ·have hb := numV_b s x (by omega) hinv
  have hz := byte_lt s x
  refine ⟨⟨by omega, by omega⟩, by omega, hlt, ⟨by omega, by omega⟩, ⟨by omega, by omega⟩, ⟨by omega, by omega⟩, x + 1, ⟨by omega, fun i hi => ?_⟩, by omega, by omega, ?_⟩
  ·by_cases e : i = x
   ·subst e; exact ⟨by omega, by omega⟩
   ·exact hinv i (by omega)
  ·show _ = 10 * numV s x + (byteAt s x - 48); omega
 ·have hd := digs_of (by omega) (by omega) hge hinv
  have ex : x = s.length := by omega
  rw [ex, numZ_yes hd]
  refine ⟨fun hl => ⟨by omega, by omega, rfl, fun hb => ⟨hd.out.1, hd.out.2.1, fun _ => hb, hd.out.2.2⟩, fun h => h.out.2.2.1 (by omega)⟩, fun hl => ⟨rfl, fun _ => ⟨hd.out.1, hd.out.2.1, fun h => by omega, hd.out.2.2⟩, fun _ => trivial⟩⟩
theorem s100_in (s : List UInt8) (hl : 1 ≤ s.length ∧ s.length ≤ 9) (hz : 1 < s.length → byteAt s 0 ≠ 48) :
  (∃ (x : Nat), (x ≤ s.length ∧ ∀ (i : Nat), i < x → 48 ≤ byteAt s i ∧ byteAt s i ≤ 57) ∧ (0 : Int) = x ∧ 0 = numV s x) ∧
  ∀ (x : Nat), (x ≤ s.length ∧ ∀ (i : Nat), i < x → 48 ≤ byteAt s i ∧ byteAt s i ≤ 57) → s.length - x < LIM ∧
   ((x : Int) < s.length → (0 : Int) ≤ x ∧ (x : Int) < s.length ∧ (¬ byteAt s x < 48 → (0 : Int) ≤ x ∧ (x : Int) < s.length ∧
    (57 < byteAt s x → 0 = pI (numP s) (numZ s) ∧ (false = true ↔ numP s)) ∧
    (¬ 57 < byteAt s x → (-9223372036854775808 ≤ 10 * numV s x ∧ 10 * numV s x < 9223372036854775808) ∧ (0 : Int) ≤ x ∧ (x : Int) < s.length ∧ (0 ≤ byteAt s x - 48 ∧ byteAt s x - 48 < 256) ∧
     (-9223372036854775808 ≤ 10 * numV s x + IntKind.i64.wrap (byteAt s x - 48) ∧ 10 * numV s x + IntKind.i64.wrap (byteAt s x - 48) < 9223372036854775808) ∧ (-9223372036854775808 ≤ (x : Int) + 1 ∧ (x : Int) + 1 < 9223372036854775808) ∧
     ∃ (y : Nat), (y ≤ s.length ∧ ∀ (i : Nat), i < y → 48 ≤ byteAt s i ∧ byteAt s i ≤ 57) ∧ s.length - y < s.length - x ∧ (x : Int) + 1 = y ∧ 10 * numV s x + IntKind.i64.wrap (byteAt s x - 48) = numV s y)) ∧
    (byteAt s x < 48 → 0 = pI (numP s) (numZ s) ∧ (false = true ↔ numP s))) ∧
   (¬ (x : Int) < s.length → numV s x = pI (numP s) (numZ s) ∧ (True ↔ numP s)) := by
 have no : ¬ digsP s → 0 = pI (numP s) (numZ s) ∧ (false = true ↔ numP s) := fun hn => ⟨pI_no _ fun h => hn (num_digs h), fun h => by simp at h, fun h => absurd (num_digs h) hn⟩
 refine ⟨⟨0, ⟨by omega, fun i hi => by omega⟩, rfl, rfl⟩, fun x ⟨hx, hinv⟩ => ⟨by unfold LIM; omega, fun hlt => ⟨by omega, hlt, fun h3 => ⟨by omega, hlt, fun h4 => no fun h => by have := h.out.2.2 x (by omega); omega, fun h4 => ?_⟩, fun h3 => no fun h => by have := h.out.2.2 x (by omega); omega⟩, fun hge => ?_⟩⟩
 ·have hb := numV_b s x (by omega) hinv
  have hw : IntKind.i64.wrap (byteAt s x - 48) = byteAt s x - 48 := IntWalk.i64_in _ ⟨by omega, by omega⟩
  rw [hw]
  refine ⟨⟨by omega, by omega⟩, by omega, hlt, ⟨by omega, by omega⟩, ⟨by omega, by omega⟩, ⟨by omega, by omega⟩, x + 1, ⟨by omega, fun i hi => ?_⟩, by omega, by omega, rfl⟩
  by_cases e : i = x
  ·subst e; exact ⟨by omega, by omega⟩
  ·exact hinv i (by omega)
 ·have hd := digs_of (by omega) (by omega) hge hinv
  have ex : x = s.length := by omega
  have hp : numP s := ⟨hd.out.1, hd.out.2.1, hz, hd.out.2.2⟩
  rw [ex, pI_yes _ hp, numZ_yes hd]
  exact ⟨rfl, fun _ => hp, fun _ => trivial⟩
theorem s100 (s : List UInt8) : symFun (ctx (fun _ => none) hpAnn) 3 100 [.str s] (.tup [.int .i64 (pI (numP s) (numZ s)), .prop (numP s)]) := by
 rw [vc100]
 simp only [imp_false, Classical.not_not, true_and, and_true]
 have no : ¬ numP s → 0 = pI (numP s) (numZ s) ∧ (false = true ↔ numP s) := fun hn => ⟨pI_no _ hn, fun h => by simp at h, fun h => absurd h hn⟩
 have e0 : byteAt s (Int.toNat 0) = byteAt s 0 := rfl
 rw [e0]
 refine ⟨fun h1 => ⟨fun h2 => ⟨by omega, by omega, fun h3 => ⟨fun h4 => no fun h => h.out.2.2.1 (by omega) h3, fun h4 => s100_in s (by omega) (fun h => by omega)⟩, fun h3 => s100_in s (by omega) fun _ => h3⟩, fun h2 => no fun h => by have := h.out.2.1; omega⟩, fun h1 => no fun h => by have := h.out.1; omega⟩
theorem s77 (k : Int) : symFun (ctx (fun _ => none) hpAnn) 3 77 [.int .u8 k] (.str (shapeW k)) := by
 rw [vc77]
 simp only [imp_false]
 unfold shapeW
 refine ⟨fun h => by rw [if_pos h]; rfl, fun h => ⟨fun h2 => by rw [if_neg h, if_pos h2]; rfl, fun h2 => ⟨fun h3 => by rw [if_neg h, if_neg h2, if_pos h3]; rfl, fun h3 => by rw [if_neg h, if_neg h2, if_neg h3]; rfl⟩⟩⟩
theorem s71 (w : List UInt8) : symFun (ctx (fun _ => none) hpAnn) 5 71 [.str w] (.tup [.int .u8 (shapeZ w), .prop (shapeZ w ≠ 0)]) := by
 rw [vc71]
 simp only [imp_false]
 have q : ∀ l : List UInt8, (¬ l = w) → ¬ w = l := fun l h e => h e.symm
 refine ⟨fun h => ?_, fun h1 => ⟨fun h => ?_, fun h2 => ⟨fun h => ?_, fun h3 => ⟨fun h => ?_, fun h4 => ?_⟩⟩⟩⟩
 ·subst h; exact ⟨by decide, ⟨fun _ => by decide, fun _ => by first | rfl | trivial⟩, trivial⟩
 ·subst h; exact ⟨by decide, ⟨fun _ => by decide, fun _ => by first | rfl | trivial⟩, trivial⟩
 ·subst h; exact ⟨by decide, ⟨fun _ => by decide, fun _ => by first | rfl | trivial⟩, trivial⟩
 ·subst h; exact ⟨by decide, ⟨fun _ => by decide, fun _ => by first | rfl | trivial⟩, trivial⟩
 ·have e : shapeZ w = 0 := by unfold shapeZ; rw [if_neg (q w1B h1), if_neg (q w2B h2), if_neg (q w3B h3), if_neg (q w4B h4)]
  rw [e]; exact ⟨rfl, ⟨fun h => by simp at h, fun h => absurd rfl h⟩, trivial⟩
theorem numsP_z (l : D) (x : Nat) : (el l x).asStr = sAt l x := rfl
theorem map_set {α : Type} (f : D → α) (l : List D) (x : Nat) (hx : x < l.length) (z w : α) (hw : w = f (nthD l x)) : ((l.take x).map f ++ List.replicate (l.length - x) z).set x w = (l.take (x + 1)).map f ++ List.replicate (l.length - (x + 1)) z := by
 have e1 : ((l.take x).map f).length = x := by rw [List.length_map, List.length_take]; omega
 rw [List.set_append_right _ _ (by omega), e1, Nat.sub_self, show l.length - x = (l.length - (x + 1)) + 1 by omega, List.replicate_succ, List.set_cons_zero, List.take_succ_eq_append_getElem hx, List.map_append, List.append_assoc]
 congr 1
 rw [hw]
 show f (nthD l x) :: _ = f l[x] :: _
 congr 2
 unfold nthD
 simp [hx]
theorem s72 (l : D) (hl : l.len ≤ 100000) : symFun (ctx hp1 hpAnn) 4 72 [.dat 82 l] (.tup [.dat 37 (pD (numsP l) (.list (l.asList.map fun d => .int (numZ d.asStr)))), .prop (numsP l)]) := by
 rw [vc72]
 have e1 : (ctx hp1 hpAnn).P.types[(3 : Nat)].bytes = 8 := rfl
 have el' : l.asList.length = l.len := rfl
 simp only [imp_false, Classical.not_not, true_and, and_true, e1, numsP_z]
 refine ⟨by omega, by omega, by omega, by omega, ⟨0, ⟨by omega, fun i hi => by omega⟩, rfl, by rw [List.take_zero]; rfl⟩, fun x ⟨hx, hinv⟩ => ⟨by unfold LIM; omega, fun hlt => ⟨by omega, hlt, fun hn => ⟨pD_no _ fun h => hn (h.out x (by omega)), fun h => by simp at h, fun h => absurd (h.out x (by omega)) hn⟩, fun hp => ⟨by omega, hlt, ?_, ⟨by omega, by omega⟩, x + 1, ⟨by omega, fun i hi => ?_⟩, by omega, by omega, ?_⟩⟩, fun hge => ?_⟩⟩
 ·rw [List.length_append, List.length_map, List.length_take, List.length_replicate]; omega
 ·by_cases e : i = x
  ·subst e; exact hp
  ·exact hinv i (by omega)
 ·rw [← el']; exact map_set (fun d : D => D.int (numZ d.asStr)) l.asList x (by omega) _ _ (by rw [pI_yes _ hp]; rfl)
 ·have ex : x = l.len := by omega
  have hp : numsP l := ⟨fun i hi => hinv i (by omega)⟩
  rw [pD_yes _ hp, ex, Nat.sub_self, ← el', List.take_length, List.replicate_zero, List.append_nil]
  refine ⟨⟨by rw [List.length_map]; omega, by rw [take_all _ _ (by rw [List.length_map]; omega)]⟩, fun _ => hp, fun _ => trivial⟩
end Go.Ev

end

section
open Go.Proofs
namespace Go.Ev
set_option maxRecDepth 100000
set_option maxHeartbeats 4000000
theorem vc70 : ∀ (s : List UInt8), symFun (ctx (fun _ => none) hpAnn) (10 : Nat) (70 : FuncId) [V.str s, V.val (Value.string (ByteArray.mk #[(32 : UInt8)]))] (V.dat (82 : TypeId) (D.list (strsD
(piecesOf (32 : UInt8) s)))) = ((0 : Int) ≤ (0 : Int) ∧ (0 : Int) < (↑[(32 : UInt8)].length : Int) ∧ (0 : Int) ≤ byteAt [(32 : UInt8)] (Int.toNat (0 : Int)) ∧ ((-9223372036854775808 : Int) ≤ countZ s
(UInt8.ofNat (byteAt [(32 : UInt8)] (Int.toNat (0 : Int))).toNat) + (1 : Int) ∧ countZ s (UInt8.ofNat (byteAt [(32 : UInt8)] (Int.toNat (0 : Int))).toNat) + (1 : Int) < (9223372036854775808 : Int)) ∧
((-9223372036854775808 : Int) ≤ (↑s.length : Int) + (1 : Int) ∧ (↑s.length : Int) + (1 : Int) < (9223372036854775808 : Int)) ∧ ((0 : Int) ≤ bif false then max (countZ s (UInt8.ofNat (byteAt [(32 :
UInt8)] (Int.toNat (0 : Int))).toNat) + (1 : Int)) ((↑s.length : Int) + (1 : Int)) else min (countZ s (UInt8.ofNat (byteAt [(32 : UInt8)] (Int.toNat (0 : Int))).toNat) + (1 : Int)) ((↑s.length : Int)
+ (1 : Int))) ∧ ((bif false then max (countZ s (UInt8.ofNat (byteAt [(32 : UInt8)] (Int.toNat (0 : Int))).toNat) + (1 : Int)) ((↑s.length : Int) + (1 : Int)) else min (countZ s (UInt8.ofNat (byteAt
[(32 : UInt8)] (Int.toNat (0 : Int))).toNat) + (1 : Int)) ((↑s.length : Int) + (1 : Int))) ≤ bif false then max (countZ s (UInt8.ofNat (byteAt [(32 : UInt8)] (Int.toNat (0 : Int))).toNat) + (1 : Int))
((↑s.length : Int) + (1 : Int)) else min (countZ s (UInt8.ofNat (byteAt [(32 : UInt8)] (Int.toNat (0 : Int))).toNat) + (1 : Int)) ((↑s.length : Int) + (1 : Int))) ∧ (bif false then max (countZ s
(UInt8.ofNat (byteAt [(32 : UInt8)] (Int.toNat (0 : Int))).toNat) + (1 : Int)) ((↑s.length : Int) + (1 : Int)) else min (countZ s (UInt8.ofNat (byteAt [(32 : UInt8)] (Int.toNat (0 : Int))).toNat) + (1
: Int)) ((↑s.length : Int) + (1 : Int))) ≤ (16777216 : Int) ∧ (ctx (fun _ => none) hpAnn).P.types[(9 : Nat)].bytes * (bif false then max (countZ s (UInt8.ofNat (byteAt [(32 : UInt8)] (Int.toNat (0 :
Int))).toNat) + (1 : Int)) ((↑s.length : Int) + (1 : Int)) else min (countZ s (UInt8.ofNat (byteAt [(32 : UInt8)] (Int.toNat (0 : Int))).toNat) + (1 : Int)) ((↑s.length : Int) + (1 : Int))).toNat ≤
(281474976710656 : Nat) ∧ ((-9223372036854775808 : Int) ≤ (bif false then max (countZ s (UInt8.ofNat (byteAt [(32 : UInt8)] (Int.toNat (0 : Int))).toNat) + (1 : Int)) ((↑s.length : Int) + (1 : Int))
else min (countZ s (UInt8.ofNat (byteAt [(32 : UInt8)] (Int.toNat (0 : Int))).toNat) + (1 : Int)) ((↑s.length : Int) + (1 : Int))) - (1 : Int) ∧ (bif false then max (countZ s (UInt8.ofNat (byteAt [(32
: UInt8)] (Int.toNat (0 : Int))).toNat) + (1 : Int)) ((↑s.length : Int) + (1 : Int)) else min (countZ s (UInt8.ofNat (byteAt [(32 : UInt8)] (Int.toNat (0 : Int))).toNat) + (1 : Int)) ((↑s.length :
Int) + (1 : Int))) - (1 : Int) < (9223372036854775808 : Int)) ∧ (∃ (x : Nat × List UInt8), (x.fst ≤ List.count (32 : UInt8) s ∧ List.drop x.fst (piecesOf (32 : UInt8) s) = piecesOf (32 : UInt8) x.snd
∧ x.snd.length ≤ s.length) ∧ ((0 : Int) = (↑x.fst : Int) ∧ s = x.snd ∧ True) ∧ List.replicate (bif false then max (countZ s (UInt8.ofNat (byteAt [(32 : UInt8)] (Int.toNat (0 : Int))).toNat) + (1 :
Int)) ((↑s.length : Int) + (1 : Int)) else min (countZ s (UInt8.ofNat (byteAt [(32 : UInt8)] (Int.toNat (0 : Int))).toNat) + (1 : Int)) ((↑s.length : Int) + (1 : Int))).toNat (D.str []) = strsD
(List.take x.fst (piecesOf (32 : UInt8) s)) ++ List.replicate (List.count (32 : UInt8) s + (1 : Nat) - x.fst) (D.str []) ∧ True) ∧ ∀ (x : Nat × List UInt8), x.fst ≤ List.count (32 : UInt8) s ∧
List.drop x.fst (piecesOf (32 : UInt8) s) = piecesOf (32 : UInt8) x.snd ∧ x.snd.length ≤ s.length → List.count (32 : UInt8) s - x.fst < LIM ∧ ((↑x.fst : Int) < (bif false then max (countZ s
(UInt8.ofNat (byteAt [(32 : UInt8)] (Int.toNat (0 : Int))).toNat) + (1 : Int)) ((↑s.length : Int) + (1 : Int)) else min (countZ s (UInt8.ofNat (byteAt [(32 : UInt8)] (Int.toNat (0 : Int))).toNat) + (1
: Int)) ((↑s.length : Int) + (1 : Int))) - (1 : Int) → ([(32 : UInt8)] = x.snd → (0 : Int) ≤ (0 : Int) ∧ (0 : Int) ≤ Int.ofNat Nat.zero ∧ Int.ofNat Nat.zero ≤ (↑x.snd.length : Int) ∧ (0 : Int) ≤
(↑x.fst : Int) ∧ (↑x.fst : Int) < (↑(bif false then max (countZ s (UInt8.ofNat (byteAt [(32 : UInt8)] (Int.toNat (0 : Int))).toNat) + (1 : Int)) ((↑s.length : Int) + (1 : Int)) else min (countZ s
(UInt8.ofNat (byteAt [(32 : UInt8)] (Int.toNat (0 : Int))).toNat) + (1 : Int)) ((↑s.length : Int) + (1 : Int))).toNat : Int) ∧ x.fst < (strsD (List.take x.fst (piecesOf (32 : UInt8) s)) ++
List.replicate (List.count (32 : UInt8) s + (1 : Nat) - x.fst) (D.str [])).length ∧ (0 : Int) ≤ Int.ofNat (1 : Nat) ∧ Int.ofNat (1 : Nat) ≤ (↑x.snd.length : Int) ∧ (↑x.snd.length : Int) ≤
(↑x.snd.length : Int) ∧ ((-9223372036854775808 : Int) ≤ (↑x.fst : Int) + (1 : Int) ∧ (↑x.fst : Int) + (1 : Int) < (9223372036854775808 : Int)) ∧ ∃ (y : Nat × List UInt8), (y.fst ≤ List.count (32 :
UInt8) s ∧ List.drop y.fst (piecesOf (32 : UInt8) s) = piecesOf (32 : UInt8) y.snd ∧ y.snd.length ≤ s.length) ∧ List.count (32 : UInt8) s - y.fst < List.count (32 : UInt8) s - x.fst ∧ ((↑x.fst : Int)
+ (1 : Int) = (↑y.fst : Int) ∧ List.take (x.snd.length - (Int.ofNat (1 : Nat)).toNat) (List.drop (Int.ofNat (1 : Nat)).toNat x.snd) = y.snd ∧ True) ∧ (strsD (List.take x.fst (piecesOf (32 : UInt8) s))
++ List.replicate (List.count (32 : UInt8) s + (1 : Nat) - x.fst) (D.str [])).set x.fst (D.str (List.take ((Int.ofNat Nat.zero).toNat - (0 : Nat)) (List.drop (0 : Nat) x.snd))) = strsD (List.take
y.fst (piecesOf (32 : UInt8) s)) ++ List.replicate (List.count (32 : UInt8) s + (1 : Nat) - y.fst) (D.str []) ∧ True) ∧ (([(32 : UInt8)] = x.snd → False) → (0 : Int) ≤ (0 : Int) ∧ (0 : Int) < (↑[(32 :
UInt8)].length : Int) ∧ (0 : Int) ≤ byteAt [(32 : UInt8)] (Int.toNat (0 : Int)) ∧ (Lib.indexByte x.snd (UInt8.ofNat (byteAt [(32 : UInt8)] (Int.toNat (0 : Int))).toNat) < (0 : Int) → (0 : Int) ≤
(↑x.fst : Int) ∧ (↑x.fst : Int) < (↑(bif false then max (countZ s (UInt8.ofNat (byteAt [(32 : UInt8)] (Int.toNat (0 : Int))).toNat) + (1 : Int)) ((↑s.length : Int) + (1 : Int)) else min (countZ s
(UInt8.ofNat (byteAt [(32 : UInt8)] (Int.toNat (0 : Int))).toNat) + (1 : Int)) ((↑s.length : Int) + (1 : Int))).toNat : Int) ∧ x.fst < (strsD (List.take x.fst (piecesOf (32 : UInt8) s)) ++
List.replicate (List.count (32 : UInt8) s + (1 : Nat) - x.fst) (D.str [])).length ∧ ((-9223372036854775808 : Int) ≤ (↑x.fst : Int) + (1 : Int) ∧ (↑x.fst : Int) + (1 : Int) < (9223372036854775808 :
Int)) ∧ (0 : Int) ≤ (0 : Int) ∧ (0 : Int) ≤ (↑x.fst : Int) + (1 : Int) ∧ ((↑(bif false then max (countZ s (UInt8.ofNat (byteAt [(32 : UInt8)] (Int.toNat (0 : Int))).toNat) + (1 : Int)) ((↑s.length :
Int) + (1 : Int)) else min (countZ s (UInt8.ofNat (byteAt [(32 : UInt8)] (Int.toNat (0 : Int))).toNat) + (1 : Int)) ((↑s.length : Int) + (1 : Int))).toNat : Int) - ((↑x.fst : Int) + (1 : Int))).NonNeg
∧ (0 : Nat) + (0 : Nat) + ((↑x.fst : Int) + (1 : Int)).toNat ≤ ((strsD (List.take x.fst (piecesOf (32 : UInt8) s)) ++ List.replicate (List.count (32 : UInt8) s + (1 : Nat) - x.fst) (D.str [])).set
x.fst (D.str x.snd)).length ∧ D.list (List.take ((↑x.fst : Int) + (1 : Int)).toNat (List.drop ((0 : Nat) + (0 : Nat)) ((strsD (List.take x.fst (piecesOf (32 : UInt8) s)) ++ List.replicate (List.count
(32 : UInt8) s + (1 : Nat) - x.fst) (D.str [])).set x.fst (D.str x.snd)))) = D.list (strsD (piecesOf (32 : UInt8) s))) ∧ ((Lib.indexByte x.snd (UInt8.ofNat (byteAt [(32 : UInt8)] (Int.toNat (0 :
Int))).toNat) < (0 : Int) → False) → ((-9223372036854775808 : Int) ≤ Lib.indexByte x.snd (UInt8.ofNat (byteAt [(32 : UInt8)] (Int.toNat (0 : Int))).toNat) + (0 : Int) ∧ Lib.indexByte x.snd
(UInt8.ofNat (byteAt [(32 : UInt8)] (Int.toNat (0 : Int))).toNat) + (0 : Int) < (9223372036854775808 : Int)) ∧ (0 : Int) ≤ (0 : Int) ∧ (0 : Int) ≤ Lib.indexByte x.snd (UInt8.ofNat (byteAt [(32 :
UInt8)] (Int.toNat (0 : Int))).toNat) + (0 : Int) ∧ Lib.indexByte x.snd (UInt8.ofNat (byteAt [(32 : UInt8)] (Int.toNat (0 : Int))).toNat) + (0 : Int) ≤ (↑x.snd.length : Int) ∧ (0 : Int) ≤ (↑x.fst :
Int) ∧ (↑x.fst : Int) < (↑(bif false then max (countZ s (UInt8.ofNat (byteAt [(32 : UInt8)] (Int.toNat (0 : Int))).toNat) + (1 : Int)) ((↑s.length : Int) + (1 : Int)) else min (countZ s (UInt8.ofNat
(byteAt [(32 : UInt8)] (Int.toNat (0 : Int))).toNat) + (1 : Int)) ((↑s.length : Int) + (1 : Int))).toNat : Int) ∧ x.fst < (strsD (List.take x.fst (piecesOf (32 : UInt8) s)) ++ List.replicate
(List.count (32 : UInt8) s + (1 : Nat) - x.fst) (D.str [])).length ∧ ((-9223372036854775808 : Int) ≤ Lib.indexByte x.snd (UInt8.ofNat (byteAt [(32 : UInt8)] (Int.toNat (0 : Int))).toNat) +
(↑(ByteArray.mk #[(32 : UInt8)]).size : Int) ∧ Lib.indexByte x.snd (UInt8.ofNat (byteAt [(32 : UInt8)] (Int.toNat (0 : Int))).toNat) + (↑(ByteArray.mk #[(32 : UInt8)]).size : Int) <
(9223372036854775808 : Int)) ∧ (0 : Int) ≤ Lib.indexByte x.snd (UInt8.ofNat (byteAt [(32 : UInt8)] (Int.toNat (0 : Int))).toNat) + (↑(ByteArray.mk #[(32 : UInt8)]).size : Int) ∧ Lib.indexByte x.snd
(UInt8.ofNat (byteAt [(32 : UInt8)] (Int.toNat (0 : Int))).toNat) + (↑(ByteArray.mk #[(32 : UInt8)]).size : Int) ≤ (↑x.snd.length : Int) ∧ (↑x.snd.length : Int) ≤ (↑x.snd.length : Int) ∧
((-9223372036854775808 : Int) ≤ (↑x.fst : Int) + (1 : Int) ∧ (↑x.fst : Int) + (1 : Int) < (9223372036854775808 : Int)) ∧ ∃ (y : Nat × List UInt8), (y.fst ≤ List.count (32 : UInt8) s ∧ List.drop y.fst
(piecesOf (32 : UInt8) s) = piecesOf (32 : UInt8) y.snd ∧ y.snd.length ≤ s.length) ∧ List.count (32 : UInt8) s - y.fst < List.count (32 : UInt8) s - x.fst ∧ ((↑x.fst : Int) + (1 : Int) = (↑y.fst :
Int) ∧ List.take (x.snd.length - (Lib.indexByte x.snd (UInt8.ofNat (byteAt [(32 : UInt8)] (Int.toNat (0 : Int))).toNat) + (↑(ByteArray.mk #[(32 : UInt8)]).size : Int)).toNat) (List.drop (Lib.indexByte
x.snd (UInt8.ofNat (byteAt [(32 : UInt8)] (Int.toNat (0 : Int))).toNat) + (↑(ByteArray.mk #[(32 : UInt8)]).size : Int)).toNat x.snd) = y.snd ∧ True) ∧ (strsD (List.take x.fst (piecesOf (32 : UInt8)
s)) ++ List.replicate (List.count (32 : UInt8) s + (1 : Nat) - x.fst) (D.str [])).set x.fst (D.str (List.take (Lib.indexByte x.snd (UInt8.ofNat (byteAt [(32 : UInt8)] (Int.toNat (0 : Int))).toNat) +
(0 : Int)).toNat (List.drop (0 : Nat) x.snd))) = strsD (List.take y.fst (piecesOf (32 : UInt8) s)) ++ List.replicate (List.count (32 : UInt8) s + (1 : Nat) - y.fst) (D.str []) ∧ True))) ∧ (((↑x.fst :
Int) < (bif false then max (countZ s (UInt8.ofNat (byteAt [(32 : UInt8)] (Int.toNat (0 : Int))).toNat) + (1 : Int)) ((↑s.length : Int) + (1 : Int)) else min (countZ s (UInt8.ofNat (byteAt [(32 :
UInt8)] (Int.toNat (0 : Int))).toNat) + (1 : Int)) ((↑s.length : Int) + (1 : Int))) - (1 : Int) → False) → (0 : Int) ≤ (↑x.fst : Int) ∧ (↑x.fst : Int) < (↑(bif false then max (countZ s (UInt8.ofNat
(byteAt [(32 : UInt8)] (Int.toNat (0 : Int))).toNat) + (1 : Int)) ((↑s.length : Int) + (1 : Int)) else min (countZ s (UInt8.ofNat (byteAt [(32 : UInt8)] (Int.toNat (0 : Int))).toNat) + (1 : Int))
((↑s.length : Int) + (1 : Int))).toNat : Int) ∧ x.fst < (strsD (List.take x.fst (piecesOf (32 : UInt8) s)) ++ List.replicate (List.count (32 : UInt8) s + (1 : Nat) - x.fst) (D.str [])).length ∧
((-9223372036854775808 : Int) ≤ (↑x.fst : Int) + (1 : Int) ∧ (↑x.fst : Int) + (1 : Int) < (9223372036854775808 : Int)) ∧ (0 : Int) ≤ (0 : Int) ∧ (0 : Int) ≤ (↑x.fst : Int) + (1 : Int) ∧ ((↑(bif false
then max (countZ s (UInt8.ofNat (byteAt [(32 : UInt8)] (Int.toNat (0 : Int))).toNat) + (1 : Int)) ((↑s.length : Int) + (1 : Int)) else min (countZ s (UInt8.ofNat (byteAt [(32 : UInt8)] (Int.toNat (0 :
Int))).toNat) + (1 : Int)) ((↑s.length : Int) + (1 : Int))).toNat : Int) - ((↑x.fst : Int) + (1 : Int))).NonNeg ∧ (0 : Nat) + (0 : Nat) + ((↑x.fst : Int) + (1 : Int)).toNat ≤ ((strsD (List.take x.fst
(piecesOf (32 : UInt8) s)) ++ List.replicate (List.count (32 : UInt8) s + (1 : Nat) - x.fst) (D.str [])).set x.fst (D.str x.snd)).length ∧ D.list (List.take ((↑x.fst : Int) + (1 : Int)).toNat
(List.drop ((0 : Nat) + (0 : Nat)) ((strsD (List.take x.fst (piecesOf (32 : UInt8) s)) ++ List.replicate (List.count (32 : UInt8) s + (1 : Nat) - x.fst) (D.str [])).set x.fst (D.str x.snd)))) = D.list
(strsD (piecesOf (32 : UInt8) s)))) := by intros; kernel_rfl
theorem vc39 : ∀ (s : List UInt8), symFun (ctx (fun _ => none) hpAnn) (3 : Nat) (39 : FuncId) [V.str s] (V.tup [V.dat (82 : TypeId) (listD (strsD (linesL s))), V.prop ¬lastE s]) = (((∃ (x : Nat × Nat
× Nat), ((x.fst ≤ s.length ∧ x.snd.fst ≤ x.fst ∧ x.snd.snd ≤ List.count (10 : UInt8) s ∧ (∀ (j : Nat), x.snd.fst ≤ j → j < x.fst → byteAt s j = (10 : Int) → False) ∧ List.drop x.snd.snd (piecesOf (10
: UInt8) s) = piecesOf (10 : UInt8) (List.drop x.snd.fst s)) ∧ x.snd.snd = (0 : Nat)) ∧ ((0 : Int) = (↑x.fst : Int) ∧ (0 : Int) = (↑x.snd.fst : Int) ∧ True ∧ True) ∧ True) ∨ ∃ (x : Nat × Nat × Nat),
((x.fst ≤ s.length ∧ x.snd.fst ≤ x.fst ∧ x.snd.snd ≤ List.count (10 : UInt8) s ∧ (∀ (j : Nat), x.snd.fst ≤ j → j < x.fst → byteAt s j = (10 : Int) → False) ∧ List.drop x.snd.snd (piecesOf (10 : UInt8)
s) = piecesOf (10 : UInt8) (List.drop x.snd.fst s)) ∧ Nat.le (1 : Nat) x.snd.snd) ∧ ((0 : Int) = (↑x.fst : Int) ∧ (0 : Int) = (↑x.snd.fst : Int) ∧ False ∧ True) ∧ False ∧ True) ∧ (∀ (x : Nat × Nat ×
Nat), (x.fst ≤ s.length ∧ x.snd.fst ≤ x.fst ∧ x.snd.snd ≤ List.count (10 : UInt8) s ∧ (∀ (j : Nat), x.snd.fst ≤ j → j < x.fst → byteAt s j = (10 : Int) → False) ∧ List.drop x.snd.snd (piecesOf (10 :
UInt8) s) = piecesOf (10 : UInt8) (List.drop x.snd.fst s)) ∧ x.snd.snd = (0 : Nat) → s.length - x.fst < LIM ∧ ((↑x.fst : Int) < (↑s.length : Int) → (0 : Int) ≤ (↑x.fst : Int) ∧ (↑x.fst : Int) <
(↑s.length : Int) ∧ (byteAt s x.fst = (10 : Int) → (0 : Int) ≤ (↑x.snd.fst : Int) ∧ (↑x.snd.fst : Int) ≤ (↑x.fst : Int) ∧ (↑x.fst : Int) ≤ (↑s.length : Int) ∧ (0 : Nat) + (1 : Nat) ≤ [D.str (List.take
(x.fst - x.snd.fst) (List.drop x.snd.fst s))].length ∧ (1 : Nat) ≤ (16777216 : Nat) ∧ ((-9223372036854775808 : Int) ≤ (↑x.fst : Int) + (1 : Int) ∧ (↑x.fst : Int) + (1 : Int) < (9223372036854775808 :
Int)) ∧ ((-9223372036854775808 : Int) ≤ (↑x.fst : Int) + (1 : Int) ∧ (↑x.fst : Int) + (1 : Int) < (9223372036854775808 : Int)) ∧ ((∃ (y : Nat × Nat × Nat), ((y.fst ≤ s.length ∧ y.snd.fst ≤ y.fst ∧
y.snd.snd ≤ List.count (10 : UInt8) s ∧ (∀ (j : Nat), y.snd.fst ≤ j → j < y.fst → byteAt s j = (10 : Int) → False) ∧ List.drop y.snd.snd (piecesOf (10 : UInt8) s) = piecesOf (10 : UInt8) (List.drop
y.snd.fst s)) ∧ y.snd.snd = (0 : Nat)) ∧ s.length - y.fst < s.length - x.fst ∧ ((↑x.fst : Int) + (1 : Int) = (↑y.fst : Int) ∧ (↑x.fst : Int) + (1 : Int) = (↑y.snd.fst : Int) ∧ False ∧ True) ∧ True) ∨
∃ (y : Nat × Nat × Nat), ((y.fst ≤ s.length ∧ y.snd.fst ≤ y.fst ∧ y.snd.snd ≤ List.count (10 : UInt8) s ∧ (∀ (j : Nat), y.snd.fst ≤ j → j < y.fst → byteAt s j = (10 : Int) → False) ∧ List.drop
y.snd.snd (piecesOf (10 : UInt8) s) = piecesOf (10 : UInt8) (List.drop y.snd.fst s)) ∧ Nat.le (1 : Nat) y.snd.snd) ∧ s.length - y.fst < s.length - x.fst ∧ ((↑x.fst : Int) + (1 : Int) = (↑y.fst : Int)
∧ (↑x.fst : Int) + (1 : Int) = (↑y.snd.fst : Int) ∧ ((0 : Nat) = (0 : Nat) ∧ (1 : Nat) = y.snd.snd ∧ True) ∧ True) ∧ List.take (1 : Nat) [D.str (List.take (x.fst - x.snd.fst) (List.drop x.snd.fst s))]
= strsD (List.take y.snd.snd (piecesOf (10 : UInt8) s)) ∧ True)) ∧ ((byteAt s x.fst = (10 : Int) → False) → ((-9223372036854775808 : Int) ≤ (↑x.fst : Int) + (1 : Int) ∧ (↑x.fst : Int) + (1 : Int) <
(9223372036854775808 : Int)) ∧ ((∃ (y : Nat × Nat × Nat), ((y.fst ≤ s.length ∧ y.snd.fst ≤ y.fst ∧ y.snd.snd ≤ List.count (10 : UInt8) s ∧ (∀ (j : Nat), y.snd.fst ≤ j → j < y.fst → byteAt s j = (10 :
Int) → False) ∧ List.drop y.snd.snd (piecesOf (10 : UInt8) s) = piecesOf (10 : UInt8) (List.drop y.snd.fst s)) ∧ y.snd.snd = (0 : Nat)) ∧ s.length - y.fst < s.length - x.fst ∧ ((↑x.fst : Int) + (1 :
Int) = (↑y.fst : Int) ∧ (↑x.snd.fst : Int) = (↑y.snd.fst : Int) ∧ True ∧ True) ∧ True) ∨ ∃ (y : Nat × Nat × Nat), ((y.fst ≤ s.length ∧ y.snd.fst ≤ y.fst ∧ y.snd.snd ≤ List.count (10 : UInt8) s ∧ (∀ (j
: Nat), y.snd.fst ≤ j → j < y.fst → byteAt s j = (10 : Int) → False) ∧ List.drop y.snd.snd (piecesOf (10 : UInt8) s) = piecesOf (10 : UInt8) (List.drop y.snd.fst s)) ∧ Nat.le (1 : Nat) y.snd.snd) ∧
s.length - y.fst < s.length - x.fst ∧ ((↑x.fst : Int) + (1 : Int) = (↑y.fst : Int) ∧ (↑x.snd.fst : Int) = (↑y.snd.fst : Int) ∧ False ∧ True) ∧ False ∧ True))) ∧ (((↑x.fst : Int) < (↑s.length : Int) →
False) → ((↑x.snd.fst : Int) < (↑s.length : Int) → (0 : Int) ≤ (↑x.snd.fst : Int) ∧ (↑x.snd.fst : Int) ≤ (↑s.length : Int) ∧ (↑s.length : Int) ≤ (↑s.length : Int) ∧ (0 : Nat) + (1 : Nat) ≤ [D.str
(List.take (s.length - x.snd.fst) (List.drop x.snd.fst s))].length ∧ (1 : Nat) ≤ (16777216 : Nat) ∧ ((0 : Nat) + (1 : Nat) ≤ (List.take (1 : Nat) [D.str (List.take (s.length - x.snd.fst) (List.drop
x.snd.fst s))]).length ∧ D.list (List.take (1 : Nat) (List.take (1 : Nat) [D.str (List.take (s.length - x.snd.fst) (List.drop x.snd.fst s))])) = listD (strsD (linesL s))) ∧ (true = true ↔ pAt
(piecesOf (10 : UInt8) s) (List.count (10 : UInt8) s) = [] → False) ∧ True) ∧ (((↑x.snd.fst : Int) < (↑s.length : Int) → False) → D.nil = listD (strsD (linesL s)) ∧ (false = true ↔ pAt (piecesOf (10 :
UInt8) s) (List.count (10 : UInt8) s) = [] → False) ∧ True))) ∧ ∀ (x : Nat × Nat × Nat), (x.fst ≤ s.length ∧ x.snd.fst ≤ x.fst ∧ x.snd.snd ≤ List.count (10 : UInt8) s ∧ (∀ (j : Nat), x.snd.fst ≤ j → j
< x.fst → byteAt s j = (10 : Int) → False) ∧ List.drop x.snd.snd (piecesOf (10 : UInt8) s) = piecesOf (10 : UInt8) (List.drop x.snd.fst s)) ∧ Nat.le (1 : Nat) x.snd.snd → s.length - x.fst < LIM ∧
((↑x.fst : Int) < (↑s.length : Int) → (0 : Int) ≤ (↑x.fst : Int) ∧ (↑x.fst : Int) < (↑s.length : Int) ∧ (byteAt s x.fst = (10 : Int) → (0 : Int) ≤ (↑x.snd.fst : Int) ∧ (↑x.snd.fst : Int) ≤ (↑x.fst :
Int) ∧ (↑x.fst : Int) ≤ (↑s.length : Int) ∧ (0 : Nat) + (1 : Nat) ≤ [D.str (List.take (x.fst - x.snd.fst) (List.drop x.snd.fst s))].length ∧ (0 : Nat) + x.snd.snd ≤ (strsD (List.take x.snd.snd
(piecesOf (10 : UInt8) s))).length ∧ x.snd.snd + (1 : Nat) ≤ (16777216 : Nat) ∧ ((-9223372036854775808 : Int) ≤ (↑x.fst : Int) + (1 : Int) ∧ (↑x.fst : Int) + (1 : Int) < (9223372036854775808 : Int)) ∧
((-9223372036854775808 : Int) ≤ (↑x.fst : Int) + (1 : Int) ∧ (↑x.fst : Int) + (1 : Int) < (9223372036854775808 : Int)) ∧ ((∃ (y : Nat × Nat × Nat), ((y.fst ≤ s.length ∧ y.snd.fst ≤ y.fst ∧ y.snd.snd ≤
List.count (10 : UInt8) s ∧ (∀ (j : Nat), y.snd.fst ≤ j → j < y.fst → byteAt s j = (10 : Int) → False) ∧ List.drop y.snd.snd (piecesOf (10 : UInt8) s) = piecesOf (10 : UInt8) (List.drop y.snd.fst s))
∧ y.snd.snd = (0 : Nat)) ∧ s.length - y.fst < s.length - x.fst ∧ ((↑x.fst : Int) + (1 : Int) = (↑y.fst : Int) ∧ (↑x.fst : Int) + (1 : Int) = (↑y.snd.fst : Int) ∧ False ∧ True) ∧ True) ∨ ∃ (y : Nat ×
Nat × Nat), ((y.fst ≤ s.length ∧ y.snd.fst ≤ y.fst ∧ y.snd.snd ≤ List.count (10 : UInt8) s ∧ (∀ (j : Nat), y.snd.fst ≤ j → j < y.fst → byteAt s j = (10 : Int) → False) ∧ List.drop y.snd.snd (piecesOf
(10 : UInt8) s) = piecesOf (10 : UInt8) (List.drop y.snd.fst s)) ∧ Nat.le (1 : Nat) y.snd.snd) ∧ s.length - y.fst < s.length - x.fst ∧ ((↑x.fst : Int) + (1 : Int) = (↑y.fst : Int) ∧ (↑x.fst : Int) +
(1 : Int) = (↑y.snd.fst : Int) ∧ ((0 : Nat) = (0 : Nat) ∧ x.snd.snd + (1 : Nat) = y.snd.snd ∧ True) ∧ True) ∧ List.take x.snd.snd (strsD (List.take x.snd.snd (piecesOf (10 : UInt8) s))) ++ List.take
(1 : Nat) [D.str (List.take (x.fst - x.snd.fst) (List.drop x.snd.fst s))] = strsD (List.take y.snd.snd (piecesOf (10 : UInt8) s)) ∧ True)) ∧ ((byteAt s x.fst = (10 : Int) → False) →
((-9223372036854775808 : Int) ≤ (↑x.fst : Int) + (1 : Int) ∧ (↑x.fst : Int) + (1 : Int) < (9223372036854775808 : Int)) ∧ ((∃ (y : Nat × Nat × Nat), ((y.fst ≤ s.length ∧ y.snd.fst ≤ y.fst ∧ y.snd.snd ≤
List.count (10 : UInt8) s ∧ (∀ (j : Nat), y.snd.fst ≤ j → j < y.fst → byteAt s j = (10 : Int) → False) ∧ List.drop y.snd.snd (piecesOf (10 : UInt8) s) = piecesOf (10 : UInt8) (List.drop y.snd.fst s))
∧ y.snd.snd = (0 : Nat)) ∧ s.length - y.fst < s.length - x.fst ∧ ((↑x.fst : Int) + (1 : Int) = (↑y.fst : Int) ∧ (↑x.snd.fst : Int) = (↑y.snd.fst : Int) ∧ False ∧ True) ∧ True) ∨ ∃ (y : Nat × Nat ×
Nat), ((y.fst ≤ s.length ∧ y.snd.fst ≤ y.fst ∧ y.snd.snd ≤ List.count (10 : UInt8) s ∧ (∀ (j : Nat), y.snd.fst ≤ j → j < y.fst → byteAt s j = (10 : Int) → False) ∧ List.drop y.snd.snd (piecesOf (10 :
UInt8) s) = piecesOf (10 : UInt8) (List.drop y.snd.fst s)) ∧ Nat.le (1 : Nat) y.snd.snd) ∧ s.length - y.fst < s.length - x.fst ∧ ((↑x.fst : Int) + (1 : Int) = (↑y.fst : Int) ∧ (↑x.snd.fst : Int) =
(↑y.snd.fst : Int) ∧ ((0 : Nat) = (0 : Nat) ∧ x.snd.snd = y.snd.snd ∧ True) ∧ True) ∧ strsD (List.take x.snd.snd (piecesOf (10 : UInt8) s)) = strsD (List.take y.snd.snd (piecesOf (10 : UInt8) s)) ∧
True))) ∧ (((↑x.fst : Int) < (↑s.length : Int) → False) → ((↑x.snd.fst : Int) < (↑s.length : Int) → (0 : Int) ≤ (↑x.snd.fst : Int) ∧ (↑x.snd.fst : Int) ≤ (↑s.length : Int) ∧ (↑s.length : Int) ≤
(↑s.length : Int) ∧ (0 : Nat) + (1 : Nat) ≤ [D.str (List.take (s.length - x.snd.fst) (List.drop x.snd.fst s))].length ∧ (0 : Nat) + x.snd.snd ≤ (strsD (List.take x.snd.snd (piecesOf (10 : UInt8)
s))).length ∧ x.snd.snd + (1 : Nat) ≤ (16777216 : Nat) ∧ ((0 : Nat) + (x.snd.snd + (1 : Nat)) ≤ (List.take x.snd.snd (strsD (List.take x.snd.snd (piecesOf (10 : UInt8) s))) ++ List.take (1 : Nat)
[D.str (List.take (s.length - x.snd.fst) (List.drop x.snd.fst s))]).length ∧ D.list (List.take (x.snd.snd + (1 : Nat)) (List.take x.snd.snd (strsD (List.take x.snd.snd (piecesOf (10 : UInt8) s))) ++
List.take (1 : Nat) [D.str (List.take (s.length - x.snd.fst) (List.drop x.snd.fst s))])) = listD (strsD (linesL s))) ∧ (true = true ↔ pAt (piecesOf (10 : UInt8) s) (List.count (10 : UInt8) s) = [] →
False) ∧ True) ∧ (((↑x.snd.fst : Int) < (↑s.length : Int) → False) → ((0 : Nat) + x.snd.snd ≤ (strsD (List.take x.snd.snd (piecesOf (10 : UInt8) s))).length ∧ D.list (List.take x.snd.snd (strsD
(List.take x.snd.snd (piecesOf (10 : UInt8) s)))) = listD (strsD (linesL s))) ∧ (false = true ↔ pAt (piecesOf (10 : UInt8) s) (List.count (10 : UInt8) s) = [] → False) ∧ True))) := by intros; kernel_rfl
theorem one_piece {s : List UInt8} {c : UInt8} (h : (piecesOf c s).length = 1) : piecesOf c s = [s] := by
 rcases (show cutI s c < 0 ∨ 0 ≤ cutI s c by omega) with h0 | h0
 ·exact cut_no h0
 ·have h1 := (cut_yes h0).2
  rw [h1, List.length_cons] at h
  exact absurd (List.eq_nil_of_length_eq_zero (by omega)) (pieces_ne c (s.drop ((cutI s c).toNat + 1)))
theorem drop_tail {α : Type} {P r : List α} {w : α} {x : Nat} (h : P.drop x = w :: r) : x < P.length ∧ P.drop (x + 1) = r ∧ P.take (x + 1) = P.take x ++ [w] := by
 have hx : x < P.length := by
  rcases Nat.lt_or_ge x P.length with h1 | h1
  ·exact h1
  ·rw [List.drop_of_length_le h1] at h; cases h
 rw [List.drop_eq_getElem_cons hx] at h
 injection h with h1 h2
 exact ⟨hx, h2, by rw [List.take_succ_eq_append_getElem hx, h1]⟩
theorem strs_len (l : List (List UInt8)) : (strsD l).length = l.length := List.length_map _
theorem strs_app (a b : List (List UInt8)) : strsD (a ++ b) = strsD a ++ strsD b := List.map_append
theorem str_set (P : List (List UInt8)) (x : Nat) (w : List UInt8) (r : List (List UInt8)) (n : Nat) (hn : n = P.length) (hd : P.drop x = w :: r) : (strsD (P.take x) ++ List.replicate (n - x) (D.str [])).set x (.str w) = strsD (P.take (x + 1)) ++ List.replicate (n - (x + 1)) (D.str []) := by
 obtain ⟨hx, _, ht⟩ := drop_tail hd
 have e1 : (strsD (P.take x)).length = x := by rw [strs_len, List.length_take]; omega
 rw [List.set_append_right _ _ (by omega), e1, Nat.sub_self, show n - x = (n - (x + 1)) + 1 by omega, List.replicate_succ, List.set_cons_zero, ht, strs_app, List.append_assoc]
 rfl
theorem s70 (s : List UInt8) (hs : s.length ≤ 100000) : symFun (ctx (fun _ => none) hpAnn) 10 70 [.str s, .val (.string ⟨#[32]⟩)] (.dat 82 (.list (strsD (piecesOf 32 s)))) := by
 rw [vc70]
 have ez : ((ByteArray.mk #[(32 : UInt8)]).size : Int) = 1 := rfl
 have ec : countZ s 32 = (s.count 32 : Nat) := rfl
 have hcl : s.count 32 ≤ s.length := List.count_le_length
 have eN : min ((s.count 32 : Int) + 1) ((s.length : Int) + 1) = (s.count 32 : Int) + 1 := by omega
 have eb : (ctx (fun _ => none) hpAnn).P.types[(9 : Nat)].bytes = 16 := rfl
 have hP := pieces_len 32 s
 simp only [imp_false, true_and, and_true, bz32, ez, ec, fcut, cond_false, eN, eb]
 have hrow : ∀ x : Nat, x ≤ s.count 32 → (strsD ((piecesOf 32 s).take x) ++ List.replicate (s.count 32 + 1 - x) (D.str [])).length = s.count 32 + 1 := fun x hx => by
  rw [List.length_append, strs_len, List.length_take, List.length_replicate]; omega
 refine ⟨by omega, by decide, by decide, ⟨by omega, by omega⟩, ⟨by omega, by omega⟩, by omega, by omega, by omega, by omega, ⟨by omega, by omega⟩, ⟨(0, s), ⟨Nat.zero_le _, rfl, Nat.le_refl _⟩, ⟨rfl, rfl⟩, by rw [show (((s.count 32 : Nat) : Int) + 1).toNat = s.count 32 + 1 by omega]; rfl⟩, fun x ⟨hx, hd, hl⟩ => ⟨by unfold LIM; omega, fun hlt => ⟨fun he => ?_, fun hne => ⟨by omega, by decide, by decide, fun h0 => ?_, fun h0 => ?_⟩⟩, fun hge => ?_⟩⟩
 ·have hd1 : (piecesOf 32 s).drop x.1 = [] :: [[]] := by rw [hd, ← he]; rfl
  obtain ⟨t1, t2, t3⟩ := drop_tail hd1
  have hlen : x.2.length = 1 := by rw [← he]; rfl
  refine ⟨by omega, by decide, by rw [hlen]; decide, by omega, by omega, by rw [hrow _ hx]; omega, by decide, by rw [hlen]; decide, by omega, ⟨by omega, by omega⟩, (x.1 + 1, []), ⟨by show x.1 + 1 ≤ s.count 32; omega, t2, Nat.zero_le _⟩, by show s.count 32 - (x.1 + 1) < s.count 32 - x.1; omega, ⟨by show (x.1 : Int) + 1 = ((x.1 + 1 : Nat) : Int); omega, by rw [← he]; rfl⟩, str_set _ _ _ _ _ (by omega) hd1⟩
 ·exfalso
  have h1 := cut_no h0
  have h2 : ((piecesOf 32 s).drop x.1).length = 1 := by rw [hd, h1]; rfl
  rw [List.length_drop] at h2; omega
 ·obtain ⟨h1, h2⟩ := cut_yes (by omega : 0 ≤ cutI x.2 32)
  rw [h2] at hd
  obtain ⟨t1, t2, t3⟩ := drop_tail hd
  have hnn : x.1 + 1 ≤ s.count 32 := by omega
  refine ⟨⟨by omega, by omega⟩, by omega, by omega, by omega, by omega, by omega, by rw [hrow _ hx]; omega, ⟨by omega, by omega⟩, by omega, by omega, by omega, ⟨by omega, by omega⟩, (x.1 + 1, x.2.drop ((cutI x.2 32).toNat + 1)), ⟨hnn, t2, by show (x.2.drop ((cutI x.2 32).toNat + 1)).length ≤ s.length; rw [List.length_drop]; omega⟩, by show s.count 32 - (x.1 + 1) < s.count 32 - x.1; omega, ⟨by show (x.1 : Int) + 1 = ((x.1 + 1 : Nat) : Int); omega, ?_⟩, ?_⟩
  ·show List.take (x.2.length - (cutI x.2 32 + 1).toNat) (List.drop (cutI x.2 32 + 1).toNat x.2) = x.2.drop ((cutI x.2 32).toNat + 1)
   rw [show (cutI x.2 32 + 1).toNat = (cutI x.2 32).toNat + 1 by omega]
   exact take_all _ _ (by rw [List.length_drop]; omega)
  ·rw [Int.add_zero]; exact str_set _ _ _ _ _ (by omega) hd
 ·have ex : x.1 = s.count 32 := by omega
  have h1 : (piecesOf 32 x.2).length = 1 := by rw [← hd, List.length_drop]; omega
  rw [one_piece h1] at hd
  have hset := str_set _ _ _ _ (s.count 32 + 1) (by omega) hd
  refine ⟨by omega, by omega, by rw [hrow _ hx]; omega, ⟨by omega, by omega⟩, by omega, by omega, (show ((x.1 : Int) + 1) ≤ ((((s.count 32 : Nat) : Int) + 1).toNat : Int) by omega), ?_, ?_⟩
  ·rw [List.length_set, hrow _ hx]; omega
  ·rw [hset, ex, Nat.sub_self, List.replicate_zero, List.append_nil, List.drop_zero, take_all (piecesOf 32 s) _ (by omega), take_all _ _ (by rw [strs_len]; omega)]
theorem byte_dropN (s : List UInt8) (y j : Nat) : byteAt (s.drop y) j = byteAt s (y + j) := by
 unfold byteAt; rw [List.getElem?_drop]
theorem ln_cut (k : UInt8) {s : List UInt8} {i st c : Nat} (hi : i < s.length) (hst : st ≤ i) (hn : ∀ j, st ≤ j → j < i → byteAt s j ≠ k.toNat) (hd : (piecesOf k s).drop c = piecesOf k (s.drop st)) (h10 : byteAt s i = k.toNat) :
  c + 1 ≤ s.count k ∧ (piecesOf k s).drop (c + 1) = piecesOf k (s.drop (i + 1)) ∧ (piecesOf k s).take (c + 1) = (piecesOf k s).take c ++ [(s.drop st).take (i - st)] := by
 have hp := pieces_cut k (s.drop st) (i - st) (by rw [List.length_drop]; omega) (fun j hj => by rw [byte_dropN]; exact hn _ (by omega) (by omega)) (by rw [byte_dropN, show st + (i - st) = i by omega]; exact h10)
 rw [hp, List.drop_drop, show st + (i - st + 1) = i + 1 by omega] at hd
 obtain ⟨t1, t2, t3⟩ := drop_tail hd
 refine ⟨?_, t2, t3⟩
 have h2 : ((piecesOf k s).drop (c + 1)).length ≠ 0 := by rw [t2]; exact fun h => pieces_ne k _ (List.eq_nil_of_length_eq_zero h)
 rw [List.length_drop, pieces_len] at h2; omega
theorem ln_end (k : UInt8) {s : List UInt8} {st c : Nat} (hn : ∀ j, st ≤ j → j < s.length → byteAt s j ≠ k.toNat) (hd : (piecesOf k s).drop c = piecesOf k (s.drop st)) :
  c = s.count k ∧ (piecesOf k s).drop c = [s.drop st] ∧ piecesOf k s = (piecesOf k s).take c ++ [s.drop st] ∧ pAt (piecesOf k s) (s.count k) = s.drop st := by
 rw [pieces_one k (s.drop st) fun j hj => by rw [byte_dropN]; rw [List.length_drop] at hj; exact hn _ (by omega) (by omega)] at hd
 obtain ⟨t1, t2, t3⟩ := drop_tail hd
 have hP := pieces_len k s
 have h1 : ((piecesOf k s).drop c).length = 1 := by rw [hd]; rfl
 rw [List.length_drop] at h1
 have hc : c = s.count k := by omega
 refine ⟨hc, hd, ?_, ?_⟩
 ·rw [← t3, take_all _ _ (by omega)]
 ·rw [← hc]
  have h2 : ((piecesOf k s).drop c)[0]? = some (s.drop st) := by rw [hd]; rfl
  rw [List.getElem?_drop, Nat.add_zero] at h2
  unfold pAt; rw [h2]; rfl
theorem listD_ne {l : List D} (h : l.length ≠ 0) : listD l = .list l := by
 cases l with
 | nil => exact absurd rfl h
 | cons a l => rfl
theorem s39 (s : List UInt8) (hs : s.length ≤ 100000) : symFun (ctx (fun _ => none) hpAnn) 3 39 [.str s] (.tup [.dat 82 (listD (strsD (linesL s))), .prop (¬ lastE s)]) := by
 rw [vc39]
 simp only [imp_false]
 have hcl : s.count 10 ≤ s.length := List.count_le_length
 have hP := pieces_len 10 s
 have tk : ∀ c, c ≤ s.count 10 → (strsD ((piecesOf 10 s).take c)).length = c := fun c hc => by rw [strs_len, List.length_take]; omega
 have tk' : ∀ c, c ≤ s.count 10 → List.take c (strsD ((piecesOf 10 s).take c)) = strsD ((piecesOf 10 s).take c) := fun c hc => take_all _ _ (by rw [tk c hc]; omega)
 have whole : ∀ {st}, st < s.length → (∀ j, st ≤ j → j < s.length → byteAt s j ≠ 10) → ∀ {c}, (piecesOf 10 s).drop c = piecesOf 10 (s.drop st) → ¬ lastE s ∧ c = s.count 10 ∧ linesL s = (piecesOf 10 s).take c ++ [(s.drop st).take (s.length - st)] := fun {st} hst hn {c} hd => by
  obtain ⟨e1, e2, e3, e4⟩ := ln_end 10 hn hd
  have hl : ¬ lastE s := fun h => by
   unfold lastE at h
   rw [e4] at h
   have := congrArg List.length h
   rw [List.length_drop] at this; simp at this; omega
  refine ⟨hl, e1, ?_⟩
  unfold linesL
  rw [if_neg hl, take_all (s.drop st) _ (by rw [List.length_drop]; omega)]; exact e3
 have none : ∀ {st}, ¬ st < s.length → ∀ {c}, (piecesOf 10 s).drop c = piecesOf 10 (s.drop st) → lastE s ∧ c = s.count 10 ∧ linesL s = (piecesOf 10 s).take c := fun {st} hst {c} hd => by
  obtain ⟨e1, e2, e3, e4⟩ := ln_end 10 (fun j h1 h2 => by omega) hd
  have hl : lastE s := by unfold lastE; rw [e4]; exact List.drop_of_length_le (by omega)
  refine ⟨hl, e1, ?_⟩
  unfold linesL
  rw [if_pos hl, e1]
 refine ⟨.inl ⟨(0, 0, 0), ⟨⟨Nat.zero_le _, Nat.le_refl _, Nat.zero_le _, fun j _ h => absurd h (Nat.not_lt_zero _), rfl⟩, rfl⟩, ⟨rfl, rfl, trivial, trivial⟩, trivial⟩, fun x ⟨⟨hi, hst, hc, hn, hd⟩, h0⟩ => ⟨by unfold LIM; omega, fun hlt => ⟨by omega, hlt, fun hb => ?_, fun hb => ?_⟩, fun hge => ⟨fun hl => ?_, fun hl => ?_⟩⟩, fun x ⟨⟨hi, hst, hc, hn, hd⟩, h0⟩ => ⟨by unfold LIM; omega, fun hlt => ⟨by omega, hlt, fun hb => ?_, fun hb => ?_⟩, fun hge => ⟨fun hl => ?_, fun hl => ?_⟩⟩⟩
 ·obtain ⟨u1, u2, u3⟩ := ln_cut 10 (by omega) hst hn hd hb
  rw [h0] at u1 u2 u3
  refine ⟨by omega, by omega, by omega, Nat.le_refl 1, by decide, ⟨by omega, by omega⟩, ⟨by omega, by omega⟩, .inr ⟨(x.1 + 1, x.1 + 1, 1), ⟨⟨by show x.1 + 1 ≤ s.length; omega, Nat.le_refl _, u1, fun j h1 h2 => absurd h2 (Nat.not_lt.2 h1), u2⟩, Nat.le_refl 1⟩, by show s.length - (x.1 + 1) < s.length - x.1; omega, ⟨by show (x.1 : Int) + 1 = ((x.1 + 1 : Nat) : Int); omega, by show (x.1 : Int) + 1 = ((x.1 + 1 : Nat) : Int); omega, ⟨by trivial, rfl, trivial⟩, trivial⟩, ?_, trivial⟩⟩
  show _ = strsD (List.take (0 + 1) (piecesOf 10 s))
  rw [u3]; rfl
 ·refine ⟨⟨by omega, by omega⟩, .inl ⟨(x.1 + 1, x.2.1, 0), ⟨⟨by show x.1 + 1 ≤ s.length; omega, by show x.2.1 ≤ x.1 + 1; omega, Nat.zero_le _, fun j h1 h2 => ?_, by rw [← h0]; exact hd⟩, rfl⟩, by show s.length - (x.1 + 1) < s.length - x.1; omega, ⟨by show (x.1 : Int) + 1 = ((x.1 + 1 : Nat) : Int); omega, rfl, trivial, trivial⟩, trivial⟩⟩
  by_cases e : j = x.1
  ·subst e; exact hb
  ·exact hn j h1 (by have h2 : j < x.1 + 1 := h2; omega)
 ·obtain ⟨w1, w2, w3⟩ := whole (by omega : x.2.1 < s.length) (fun j h1 h2 => hn j h1 (by omega)) hd
  refine ⟨by omega, by omega, by omega, Nat.le_refl 1, by decide, ⟨Nat.le_refl 1, ?_⟩, ⟨fun _ => w1, fun _ => by trivial⟩, trivial⟩
  rw [w3, h0]; rfl
 ·obtain ⟨w1, w2, w3⟩ := none (by omega : ¬ x.2.1 < s.length) hd
  refine ⟨?_, ⟨fun h => by simp at h, fun h => absurd w1 h⟩, trivial⟩
  rw [w3, h0]; rfl
 ·obtain ⟨u1, u2, u3⟩ := ln_cut 10 (by omega) hst hn hd hb
  refine ⟨by omega, by omega, by omega, Nat.le_refl 1, by rw [tk _ hc]; omega, by omega, ⟨by omega, by omega⟩, ⟨by omega, by omega⟩, .inr ⟨(x.1 + 1, x.1 + 1, x.2.2 + 1), ⟨⟨by show x.1 + 1 ≤ s.length; omega, Nat.le_refl _, u1, fun j h1 h2 => absurd h2 (Nat.not_lt.2 h1), u2⟩, by show 1 ≤ x.2.2 + 1; omega⟩, by show s.length - (x.1 + 1) < s.length - x.1; omega, ⟨by show (x.1 : Int) + 1 = ((x.1 + 1 : Nat) : Int); omega, by show (x.1 : Int) + 1 = ((x.1 + 1 : Nat) : Int); omega, ⟨by trivial, rfl, trivial⟩, trivial⟩, ?_, trivial⟩⟩
  show _ = strsD (List.take (x.2.2 + 1) (piecesOf 10 s))
  rw [u3, strs_app, tk' _ hc]; rfl
 ·refine ⟨⟨by omega, by omega⟩, .inr ⟨(x.1 + 1, x.2.1, x.2.2), ⟨⟨by show x.1 + 1 ≤ s.length; omega, by show x.2.1 ≤ x.1 + 1; omega, hc, fun j h1 h2 => ?_, hd⟩, h0⟩, by show s.length - (x.1 + 1) < s.length - x.1; omega, ⟨by show (x.1 : Int) + 1 = ((x.1 + 1 : Nat) : Int); omega, rfl, ⟨by trivial, rfl, trivial⟩, trivial⟩, rfl, trivial⟩⟩
  by_cases e : j = x.1
  ·subst e; exact hb
  ·exact hn j h1 (by have h2 : j < x.1 + 1 := h2; omega)
 ·obtain ⟨w1, w2, w3⟩ := whole (by omega : x.2.1 < s.length) (fun j h1 h2 => hn j h1 (by omega)) hd
  have ht := tk _ hc
  have el : (strsD ((piecesOf 10 s).take x.2.2) ++ List.take 1 [D.str (List.take (s.length - x.2.1) (List.drop x.2.1 s))]).length = x.2.2 + 1 := by rw [List.length_append, ht]; rfl
  refine ⟨by omega, by omega, by omega, Nat.le_refl 1, by rw [ht]; omega, by omega, ⟨by rw [tk' _ hc, el]; omega, ?_⟩, ⟨fun _ => w1, fun _ => by trivial⟩, trivial⟩
  rw [tk' _ hc, take_all _ _ (by rw [el]; omega), w3, strs_app, listD_ne (by rw [List.length_append, ht]; exact Nat.succ_ne_zero _)]; rfl
 ·obtain ⟨w1, w2, w3⟩ := none (by omega : ¬ x.2.1 < s.length) hd
  have ht := tk _ hc
  refine ⟨⟨by rw [ht]; omega, ?_⟩, ⟨fun h => by simp at h, fun h => absurd w1 h⟩, trivial⟩
  rw [tk' _ hc, w3, listD_ne (by rw [ht]; exact Nat.ne_of_gt h0)]
end Go.Ev

end
