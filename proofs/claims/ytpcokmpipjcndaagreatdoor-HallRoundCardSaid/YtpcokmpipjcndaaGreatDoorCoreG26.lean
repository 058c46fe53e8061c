/-
  Part of the engine that the claim is proved with: it states nothing of the document by itself.
-/
import Derived.Test.YtpcokmpipjcndaaGreatDoorCoreG25

section
open Go.Proofs
namespace Go.Ev
set_option maxRecDepth 100000
set_option maxHeartbeats 4000000
theorem vc70 : ∀ (s : List UInt8), symFun (ctx (fun _ => none) hpAnn) (10 : Nat) (70 : FuncId) [V.str s, V.val (Value.string (ByteArray.mk #[(32 : UInt8)]))] (V.dat (82 : TypeId) (D.list (strsD
 (piecesOf (32 : UInt8) s)))) = ((0 : Int) ≤ (0 : Int) ∧ (0 : Int) < (↑[(32 : UInt8)].length : Int) ∧ (0 : Int) ≤ byteAt [(32 : UInt8)] (Int.toNat (0 : Int)) ∧ ((-9223372036854775808 : Int) ≤ countZ s
 (UInt8.ofNat (byteAt [(32 : UInt8)] (Int.toNat (0 : Int))).toNat) + (1 : Int) ∧ countZ s (UInt8.ofNat (byteAt [(32 : UInt8)] (Int.toNat (0 : Int))).toNat) + (1 : Int) < (9223372036854775808 : Int)) ∧
 ((-9223372036854775808 : Int) ≤ (↑s.length : Int) + (1 : Int) ∧ (↑s.length : Int) + (1 : Int) < (9223372036854775808 : Int)) ∧ ((0 : Int) ≤ bif false then max (countZ s (UInt8.ofNat (byteAt [(32 :
 UInt8)] (Int.toNat (0 : Int))).toNat) + (1 : Int)) ((↑s.length : Int) + (1 : Int)) else min (countZ s (UInt8.ofNat (byteAt [(32 : UInt8)] (Int.toNat (0 : Int))).toNat) + (1 : Int)) ((↑s.length : Int)
 + (1 : Int))) ∧ ((bif false then max (countZ s (UInt8.ofNat (byteAt [(32 : UInt8)] (Int.toNat (0 : Int))).toNat) + (1 : Int)) ((↑s.length : Int) + (1 : Int)) else min (countZ s (UInt8.ofNat (byteAt
 [(32 : UInt8)] (Int.toNat (0 : Int))).toNat) + (1 : Int)) ((↑s.length : Int) + (1 : Int))) ≤ bif false then max (countZ s (UInt8.ofNat (byteAt [(32 : UInt8)] (Int.toNat (0 : Int))).toNat) + (1 : Int))
 ((↑s.length : Int) + (1 : Int)) else min (countZ s (UInt8.ofNat (byteAt [(32 : UInt8)] (Int.toNat (0 : Int))).toNat) + (1 : Int)) ((↑s.length : Int) + (1 : Int))) ∧ (bif false then max (countZ s
 (UInt8.ofNat (byteAt [(32 : UInt8)] (Int.toNat (0 : Int))).toNat) + (1 : Int)) ((↑s.length : Int) + (1 : Int)) else min (countZ s (UInt8.ofNat (byteAt [(32 : UInt8)] (Int.toNat (0 : Int))).toNat) + (1
 : Int)) ((↑s.length : Int) + (1 : Int))) ≤ (16777216 : Int) ∧ (ctx (fun _ => none) hpAnn).P.types[(9 : Nat)].bytes * (bif false then max (countZ s (UInt8.ofNat (byteAt [(32 : UInt8)] (Int.toNat (0 :
 Int))).toNat) + (1 : Int)) ((↑s.length : Int) + (1 : Int)) else min (countZ s (UInt8.ofNat (byteAt [(32 : UInt8)] (Int.toNat (0 : Int))).toNat) + (1 : Int)) ((↑s.length : Int) + (1 : Int))).toNat ≤
 (281474976710656 : Nat) ∧ ((-9223372036854775808 : Int) ≤ (bif false then max (countZ s (UInt8.ofNat (byteAt [(32 : UInt8)] (Int.toNat (0 : Int))).toNat) + (1 : Int)) ((↑s.length : Int) + (1 : Int))
 else min (countZ s (UInt8.ofNat (byteAt [(32 : UInt8)] (Int.toNat (0 : Int))).toNat) + (1 : Int)) ((↑s.length : Int) + (1 : Int))) - (1 : Int) ∧ (bif false then max (countZ s (UInt8.ofNat (byteAt [(32
 : UInt8)] (Int.toNat (0 : Int))).toNat) + (1 : Int)) ((↑s.length : Int) + (1 : Int)) else min (countZ s (UInt8.ofNat (byteAt [(32 : UInt8)] (Int.toNat (0 : Int))).toNat) + (1 : Int)) ((↑s.length :
 Int) + (1 : Int))) - (1 : Int) < (9223372036854775808 : Int)) ∧ (∃ (x : Nat × List UInt8), (x.fst ≤ List.count (32 : UInt8) s ∧ List.drop x.fst (piecesOf (32 : UInt8) s) = piecesOf (32 : UInt8) x.snd
 ∧ x.snd.length ≤ s.length) ∧ ((0 : Int) = (↑x.fst : Int) ∧ s = x.snd ∧ True) ∧ List.replicate (bif false then max (countZ s (UInt8.ofNat (byteAt [(32 : UInt8)] (Int.toNat (0 : Int))).toNat) + (1 :
 Int)) ((↑s.length : Int) + (1 : Int)) else min (countZ s (UInt8.ofNat (byteAt [(32 : UInt8)] (Int.toNat (0 : Int))).toNat) + (1 : Int)) ((↑s.length : Int) + (1 : Int))).toNat (D.str []) = strsD
 (List.take x.fst (piecesOf (32 : UInt8) s)) ++ List.replicate (List.count (32 : UInt8) s + (1 : Nat) - x.fst) (D.str []) ∧ True) ∧ ∀ (x : Nat × List UInt8), x.fst ≤ List.count (32 : UInt8) s ∧
 List.drop x.fst (piecesOf (32 : UInt8) s) = piecesOf (32 : UInt8) x.snd ∧ x.snd.length ≤ s.length → List.count (32 : UInt8) s - x.fst < LIM ∧ ((↑x.fst : Int) < (bif false then max (countZ s
 (UInt8.ofNat (byteAt [(32 : UInt8)] (Int.toNat (0 : Int))).toNat) + (1 : Int)) ((↑s.length : Int) + (1 : Int)) else min (countZ s (UInt8.ofNat (byteAt [(32 : UInt8)] (Int.toNat (0 : Int))).toNat) + (1
 : Int)) ((↑s.length : Int) + (1 : Int))) - (1 : Int) → ([(32 : UInt8)] = x.snd → (0 : Int) ≤ (0 : Int) ∧ (0 : Int) ≤ Int.ofNat Nat.zero ∧ Int.ofNat Nat.zero ≤ (↑x.snd.length : Int) ∧ (0 : Int) ≤
 (↑x.fst : Int) ∧ (↑x.fst : Int) < (↑(bif false then max (countZ s (UInt8.ofNat (byteAt [(32 : UInt8)] (Int.toNat (0 : Int))).toNat) + (1 : Int)) ((↑s.length : Int) + (1 : Int)) else min (countZ s
 (UInt8.ofNat (byteAt [(32 : UInt8)] (Int.toNat (0 : Int))).toNat) + (1 : Int)) ((↑s.length : Int) + (1 : Int))).toNat : Int) ∧ x.fst < (strsD (List.take x.fst (piecesOf (32 : UInt8) s)) ++
 List.replicate (List.count (32 : UInt8) s + (1 : Nat) - x.fst) (D.str [])).length ∧ (0 : Int) ≤ Int.ofNat (1 : Nat) ∧ Int.ofNat (1 : Nat) ≤ (↑x.snd.length : Int) ∧ (↑x.snd.length : Int) ≤
 (↑x.snd.length : Int) ∧ ((-9223372036854775808 : Int) ≤ (↑x.fst : Int) + (1 : Int) ∧ (↑x.fst : Int) + (1 : Int) < (9223372036854775808 : Int)) ∧ ∃ (y : Nat × List UInt8), (y.fst ≤ List.count (32 :
 UInt8) s ∧ List.drop y.fst (piecesOf (32 : UInt8) s) = piecesOf (32 : UInt8) y.snd ∧ y.snd.length ≤ s.length) ∧ List.count (32 : UInt8) s - y.fst < List.count (32 : UInt8) s - x.fst ∧ ((↑x.fst : Int)
 + (1 : Int) = (↑y.fst : Int) ∧ List.take (x.snd.length - (Int.ofNat (1 : Nat)).toNat) (List.drop (Int.ofNat (1 : Nat)).toNat x.snd) = y.snd ∧ True) ∧ (strsD (List.take x.fst (piecesOf (32 : UInt8) s))
 ++ List.replicate (List.count (32 : UInt8) s + (1 : Nat) - x.fst) (D.str [])).set x.fst (D.str (List.take ((Int.ofNat Nat.zero).toNat - (0 : Nat)) (List.drop (0 : Nat) x.snd))) = strsD (List.take
 y.fst (piecesOf (32 : UInt8) s)) ++ List.replicate (List.count (32 : UInt8) s + (1 : Nat) - y.fst) (D.str []) ∧ True) ∧ (([(32 : UInt8)] = x.snd → False) → (0 : Int) ≤ (0 : Int) ∧ (0 : Int) < (↑[(32 :
 UInt8)].length : Int) ∧ (0 : Int) ≤ byteAt [(32 : UInt8)] (Int.toNat (0 : Int)) ∧ (Lib.indexByte x.snd (UInt8.ofNat (byteAt [(32 : UInt8)] (Int.toNat (0 : Int))).toNat) < (0 : Int) → (0 : Int) ≤
 (↑x.fst : Int) ∧ (↑x.fst : Int) < (↑(bif false then max (countZ s (UInt8.ofNat (byteAt [(32 : UInt8)] (Int.toNat (0 : Int))).toNat) + (1 : Int)) ((↑s.length : Int) + (1 : Int)) else min (countZ s
 (UInt8.ofNat (byteAt [(32 : UInt8)] (Int.toNat (0 : Int))).toNat) + (1 : Int)) ((↑s.length : Int) + (1 : Int))).toNat : Int) ∧ x.fst < (strsD (List.take x.fst (piecesOf (32 : UInt8) s)) ++
 List.replicate (List.count (32 : UInt8) s + (1 : Nat) - x.fst) (D.str [])).length ∧ ((-9223372036854775808 : Int) ≤ (↑x.fst : Int) + (1 : Int) ∧ (↑x.fst : Int) + (1 : Int) < (9223372036854775808 :
 Int)) ∧ (0 : Int) ≤ (0 : Int) ∧ (0 : Int) ≤ (↑x.fst : Int) + (1 : Int) ∧ ((↑(bif false then max (countZ s (UInt8.ofNat (byteAt [(32 : UInt8)] (Int.toNat (0 : Int))).toNat) + (1 : Int)) ((↑s.length :
 Int) + (1 : Int)) else min (countZ s (UInt8.ofNat (byteAt [(32 : UInt8)] (Int.toNat (0 : Int))).toNat) + (1 : Int)) ((↑s.length : Int) + (1 : Int))).toNat : Int) - ((↑x.fst : Int) + (1 : Int))).NonNeg
 ∧ (0 : Nat) + (0 : Nat) + ((↑x.fst : Int) + (1 : Int)).toNat ≤ ((strsD (List.take x.fst (piecesOf (32 : UInt8) s)) ++ List.replicate (List.count (32 : UInt8) s + (1 : Nat) - x.fst) (D.str [])).set
 x.fst (D.str x.snd)).length ∧ D.list (List.take ((↑x.fst : Int) + (1 : Int)).toNat (List.drop ((0 : Nat) + (0 : Nat)) ((strsD (List.take x.fst (piecesOf (32 : UInt8) s)) ++ List.replicate (List.count
 (32 : UInt8) s + (1 : Nat) - x.fst) (D.str [])).set x.fst (D.str x.snd)))) = D.list (strsD (piecesOf (32 : UInt8) s))) ∧ ((Lib.indexByte x.snd (UInt8.ofNat (byteAt [(32 : UInt8)] (Int.toNat (0 :
 Int))).toNat) < (0 : Int) → False) → ((-9223372036854775808 : Int) ≤ Lib.indexByte x.snd (UInt8.ofNat (byteAt [(32 : UInt8)] (Int.toNat (0 : Int))).toNat) + (0 : Int) ∧ Lib.indexByte x.snd
 (UInt8.ofNat (byteAt [(32 : UInt8)] (Int.toNat (0 : Int))).toNat) + (0 : Int) < (9223372036854775808 : Int)) ∧ (0 : Int) ≤ (0 : Int) ∧ (0 : Int) ≤ Lib.indexByte x.snd (UInt8.ofNat (byteAt [(32 :
 UInt8)] (Int.toNat (0 : Int))).toNat) + (0 : Int) ∧ Lib.indexByte x.snd (UInt8.ofNat (byteAt [(32 : UInt8)] (Int.toNat (0 : Int))).toNat) + (0 : Int) ≤ (↑x.snd.length : Int) ∧ (0 : Int) ≤ (↑x.fst :
 Int) ∧ (↑x.fst : Int) < (↑(bif false then max (countZ s (UInt8.ofNat (byteAt [(32 : UInt8)] (Int.toNat (0 : Int))).toNat) + (1 : Int)) ((↑s.length : Int) + (1 : Int)) else min (countZ s (UInt8.ofNat
 (byteAt [(32 : UInt8)] (Int.toNat (0 : Int))).toNat) + (1 : Int)) ((↑s.length : Int) + (1 : Int))).toNat : Int) ∧ x.fst < (strsD (List.take x.fst (piecesOf (32 : UInt8) s)) ++ List.replicate
 (List.count (32 : UInt8) s + (1 : Nat) - x.fst) (D.str [])).length ∧ ((-9223372036854775808 : Int) ≤ Lib.indexByte x.snd (UInt8.ofNat (byteAt [(32 : UInt8)] (Int.toNat (0 : Int))).toNat) +
 (↑(ByteArray.mk #[(32 : UInt8)]).size : Int) ∧ Lib.indexByte x.snd (UInt8.ofNat (byteAt [(32 : UInt8)] (Int.toNat (0 : Int))).toNat) + (↑(ByteArray.mk #[(32 : UInt8)]).size : Int) <
 (9223372036854775808 : Int)) ∧ (0 : Int) ≤ Lib.indexByte x.snd (UInt8.ofNat (byteAt [(32 : UInt8)] (Int.toNat (0 : Int))).toNat) + (↑(ByteArray.mk #[(32 : UInt8)]).size : Int) ∧ Lib.indexByte x.snd
 (UInt8.ofNat (byteAt [(32 : UInt8)] (Int.toNat (0 : Int))).toNat) + (↑(ByteArray.mk #[(32 : UInt8)]).size : Int) ≤ (↑x.snd.length : Int) ∧ (↑x.snd.length : Int) ≤ (↑x.snd.length : Int) ∧
 ((-9223372036854775808 : Int) ≤ (↑x.fst : Int) + (1 : Int) ∧ (↑x.fst : Int) + (1 : Int) < (9223372036854775808 : Int)) ∧ ∃ (y : Nat × List UInt8), (y.fst ≤ List.count (32 : UInt8) s ∧ List.drop y.fst
 (piecesOf (32 : UInt8) s) = piecesOf (32 : UInt8) y.snd ∧ y.snd.length ≤ s.length) ∧ List.count (32 : UInt8) s - y.fst < List.count (32 : UInt8) s - x.fst ∧ ((↑x.fst : Int) + (1 : Int) = (↑y.fst :
 Int) ∧ List.take (x.snd.length - (Lib.indexByte x.snd (UInt8.ofNat (byteAt [(32 : UInt8)] (Int.toNat (0 : Int))).toNat) + (↑(ByteArray.mk #[(32 : UInt8)]).size : Int)).toNat) (List.drop (Lib.indexByte
 x.snd (UInt8.ofNat (byteAt [(32 : UInt8)] (Int.toNat (0 : Int))).toNat) + (↑(ByteArray.mk #[(32 : UInt8)]).size : Int)).toNat x.snd) = y.snd ∧ True) ∧ (strsD (List.take x.fst (piecesOf (32 : UInt8)
 s)) ++ List.replicate (List.count (32 : UInt8) s + (1 : Nat) - x.fst) (D.str [])).set x.fst (D.str (List.take (Lib.indexByte x.snd (UInt8.ofNat (byteAt [(32 : UInt8)] (Int.toNat (0 : Int))).toNat) +
 (0 : Int)).toNat (List.drop (0 : Nat) x.snd))) = strsD (List.take y.fst (piecesOf (32 : UInt8) s)) ++ List.replicate (List.count (32 : UInt8) s + (1 : Nat) - y.fst) (D.str []) ∧ True))) ∧ (((↑x.fst :
 Int) < (bif false then max (countZ s (UInt8.ofNat (byteAt [(32 : UInt8)] (Int.toNat (0 : Int))).toNat) + (1 : Int)) ((↑s.length : Int) + (1 : Int)) else min (countZ s (UInt8.ofNat (byteAt [(32 :
 UInt8)] (Int.toNat (0 : Int))).toNat) + (1 : Int)) ((↑s.length : Int) + (1 : Int))) - (1 : Int) → False) → (0 : Int) ≤ (↑x.fst : Int) ∧ (↑x.fst : Int) < (↑(bif false then max (countZ s (UInt8.ofNat
 (byteAt [(32 : UInt8)] (Int.toNat (0 : Int))).toNat) + (1 : Int)) ((↑s.length : Int) + (1 : Int)) else min (countZ s (UInt8.ofNat (byteAt [(32 : UInt8)] (Int.toNat (0 : Int))).toNat) + (1 : Int))
 ((↑s.length : Int) + (1 : Int))).toNat : Int) ∧ x.fst < (strsD (List.take x.fst (piecesOf (32 : UInt8) s)) ++ List.replicate (List.count (32 : UInt8) s + (1 : Nat) - x.fst) (D.str [])).length ∧
 ((-9223372036854775808 : Int) ≤ (↑x.fst : Int) + (1 : Int) ∧ (↑x.fst : Int) + (1 : Int) < (9223372036854775808 : Int)) ∧ (0 : Int) ≤ (0 : Int) ∧ (0 : Int) ≤ (↑x.fst : Int) + (1 : Int) ∧ ((↑(bif false
 then max (countZ s (UInt8.ofNat (byteAt [(32 : UInt8)] (Int.toNat (0 : Int))).toNat) + (1 : Int)) ((↑s.length : Int) + (1 : Int)) else min (countZ s (UInt8.ofNat (byteAt [(32 : UInt8)] (Int.toNat (0 :
 Int))).toNat) + (1 : Int)) ((↑s.length : Int) + (1 : Int))).toNat : Int) - ((↑x.fst : Int) + (1 : Int))).NonNeg ∧ (0 : Nat) + (0 : Nat) + ((↑x.fst : Int) + (1 : Int)).toNat ≤ ((strsD (List.take x.fst
 (piecesOf (32 : UInt8) s)) ++ List.replicate (List.count (32 : UInt8) s + (1 : Nat) - x.fst) (D.str [])).set x.fst (D.str x.snd)).length ∧ D.list (List.take ((↑x.fst : Int) + (1 : Int)).toNat
 (List.drop ((0 : Nat) + (0 : Nat)) ((strsD (List.take x.fst (piecesOf (32 : UInt8) s)) ++ List.replicate (List.count (32 : UInt8) s + (1 : Nat) - x.fst) (D.str [])).set x.fst (D.str x.snd)))) = D.list
 (strsD (piecesOf (32 : UInt8) s)))) := by intros; kernel_rfl
theorem vc39 : ∀ (s : List UInt8), symFun (ctx (fun _ => none) hpAnn) (3 : Nat) (39 : FuncId) [V.str s] (V.tup [V.dat (82 : TypeId) (listD (strsD (linesL s))), V.prop ¬lastE s]) = (((∃ (x : Nat × Nat
 × Nat), ((x.fst ≤ s.length ∧ x.snd.fst ≤ x.fst ∧ x.snd.snd ≤ List.count (10 : UInt8) s ∧ (∀ (j : Nat), x.snd.fst ≤ j → j < x.fst → byteAt s j = (10 : Int) → False) ∧ List.drop x.snd.snd (piecesOf (10
 : UInt8) s) = piecesOf (10 : UInt8) (List.drop x.snd.fst s)) ∧ x.snd.snd = (0 : Nat)) ∧ ((0 : Int) = (↑x.fst : Int) ∧ (0 : Int) = (↑x.snd.fst : Int) ∧ True ∧ True) ∧ True) ∨ ∃ (x : Nat × Nat × Nat),
 ((x.fst ≤ s.length ∧ x.snd.fst ≤ x.fst ∧ x.snd.snd ≤ List.count (10 : UInt8) s ∧ (∀ (j : Nat), x.snd.fst ≤ j → j < x.fst → byteAt s j = (10 : Int) → False) ∧ List.drop x.snd.snd (piecesOf (10 : UInt8)
 s) = piecesOf (10 : UInt8) (List.drop x.snd.fst s)) ∧ Nat.le (1 : Nat) x.snd.snd) ∧ ((0 : Int) = (↑x.fst : Int) ∧ (0 : Int) = (↑x.snd.fst : Int) ∧ False ∧ True) ∧ False ∧ True) ∧ (∀ (x : Nat × Nat ×
 Nat), (x.fst ≤ s.length ∧ x.snd.fst ≤ x.fst ∧ x.snd.snd ≤ List.count (10 : UInt8) s ∧ (∀ (j : Nat), x.snd.fst ≤ j → j < x.fst → byteAt s j = (10 : Int) → False) ∧ List.drop x.snd.snd (piecesOf (10 :
 UInt8) s) = piecesOf (10 : UInt8) (List.drop x.snd.fst s)) ∧ x.snd.snd = (0 : Nat) → s.length - x.fst < LIM ∧ ((↑x.fst : Int) < (↑s.length : Int) → (0 : Int) ≤ (↑x.fst : Int) ∧ (↑x.fst : Int) <
 (↑s.length : Int) ∧ (byteAt s x.fst = (10 : Int) → (0 : Int) ≤ (↑x.snd.fst : Int) ∧ (↑x.snd.fst : Int) ≤ (↑x.fst : Int) ∧ (↑x.fst : Int) ≤ (↑s.length : Int) ∧ (0 : Nat) + (1 : Nat) ≤ [D.str (List.take
 (x.fst - x.snd.fst) (List.drop x.snd.fst s))].length ∧ (1 : Nat) ≤ (16777216 : Nat) ∧ ((-9223372036854775808 : Int) ≤ (↑x.fst : Int) + (1 : Int) ∧ (↑x.fst : Int) + (1 : Int) < (9223372036854775808 :
 Int)) ∧ ((-9223372036854775808 : Int) ≤ (↑x.fst : Int) + (1 : Int) ∧ (↑x.fst : Int) + (1 : Int) < (9223372036854775808 : Int)) ∧ ((∃ (y : Nat × Nat × Nat), ((y.fst ≤ s.length ∧ y.snd.fst ≤ y.fst ∧
 y.snd.snd ≤ List.count (10 : UInt8) s ∧ (∀ (j : Nat), y.snd.fst ≤ j → j < y.fst → byteAt s j = (10 : Int) → False) ∧ List.drop y.snd.snd (piecesOf (10 : UInt8) s) = piecesOf (10 : UInt8) (List.drop
 y.snd.fst s)) ∧ y.snd.snd = (0 : Nat)) ∧ s.length - y.fst < s.length - x.fst ∧ ((↑x.fst : Int) + (1 : Int) = (↑y.fst : Int) ∧ (↑x.fst : Int) + (1 : Int) = (↑y.snd.fst : Int) ∧ False ∧ True) ∧ True) ∨
 ∃ (y : Nat × Nat × Nat), ((y.fst ≤ s.length ∧ y.snd.fst ≤ y.fst ∧ y.snd.snd ≤ List.count (10 : UInt8) s ∧ (∀ (j : Nat), y.snd.fst ≤ j → j < y.fst → byteAt s j = (10 : Int) → False) ∧ List.drop
 y.snd.snd (piecesOf (10 : UInt8) s) = piecesOf (10 : UInt8) (List.drop y.snd.fst s)) ∧ Nat.le (1 : Nat) y.snd.snd) ∧ s.length - y.fst < s.length - x.fst ∧ ((↑x.fst : Int) + (1 : Int) = (↑y.fst : Int)
 ∧ (↑x.fst : Int) + (1 : Int) = (↑y.snd.fst : Int) ∧ ((0 : Nat) = (0 : Nat) ∧ (1 : Nat) = y.snd.snd ∧ True) ∧ True) ∧ List.take (1 : Nat) [D.str (List.take (x.fst - x.snd.fst) (List.drop x.snd.fst s))]
 = strsD (List.take y.snd.snd (piecesOf (10 : UInt8) s)) ∧ True)) ∧ ((byteAt s x.fst = (10 : Int) → False) → ((-9223372036854775808 : Int) ≤ (↑x.fst : Int) + (1 : Int) ∧ (↑x.fst : Int) + (1 : Int) <
 (9223372036854775808 : Int)) ∧ ((∃ (y : Nat × Nat × Nat), ((y.fst ≤ s.length ∧ y.snd.fst ≤ y.fst ∧ y.snd.snd ≤ List.count (10 : UInt8) s ∧ (∀ (j : Nat), y.snd.fst ≤ j → j < y.fst → byteAt s j = (10 :
 Int) → False) ∧ List.drop y.snd.snd (piecesOf (10 : UInt8) s) = piecesOf (10 : UInt8) (List.drop y.snd.fst s)) ∧ y.snd.snd = (0 : Nat)) ∧ s.length - y.fst < s.length - x.fst ∧ ((↑x.fst : Int) + (1 :
 Int) = (↑y.fst : Int) ∧ (↑x.snd.fst : Int) = (↑y.snd.fst : Int) ∧ True ∧ True) ∧ True) ∨ ∃ (y : Nat × Nat × Nat), ((y.fst ≤ s.length ∧ y.snd.fst ≤ y.fst ∧ y.snd.snd ≤ List.count (10 : UInt8) s ∧ (∀ (j
 : Nat), y.snd.fst ≤ j → j < y.fst → byteAt s j = (10 : Int) → False) ∧ List.drop y.snd.snd (piecesOf (10 : UInt8) s) = piecesOf (10 : UInt8) (List.drop y.snd.fst s)) ∧ Nat.le (1 : Nat) y.snd.snd) ∧
 s.length - y.fst < s.length - x.fst ∧ ((↑x.fst : Int) + (1 : Int) = (↑y.fst : Int) ∧ (↑x.snd.fst : Int) = (↑y.snd.fst : Int) ∧ False ∧ True) ∧ False ∧ True))) ∧ (((↑x.fst : Int) < (↑s.length : Int) →
 False) → ((↑x.snd.fst : Int) < (↑s.length : Int) → (0 : Int) ≤ (↑x.snd.fst : Int) ∧ (↑x.snd.fst : Int) ≤ (↑s.length : Int) ∧ (↑s.length : Int) ≤ (↑s.length : Int) ∧ (0 : Nat) + (1 : Nat) ≤ [D.str
 (List.take (s.length - x.snd.fst) (List.drop x.snd.fst s))].length ∧ (1 : Nat) ≤ (16777216 : Nat) ∧ ((0 : Nat) + (1 : Nat) ≤ (List.take (1 : Nat) [D.str (List.take (s.length - x.snd.fst) (List.drop
 x.snd.fst s))]).length ∧ D.list (List.take (1 : Nat) (List.take (1 : Nat) [D.str (List.take (s.length - x.snd.fst) (List.drop x.snd.fst s))])) = listD (strsD (linesL s))) ∧ (true = true ↔ pAt
 (piecesOf (10 : UInt8) s) (List.count (10 : UInt8) s) = [] → False) ∧ True) ∧ (((↑x.snd.fst : Int) < (↑s.length : Int) → False) → D.nil = listD (strsD (linesL s)) ∧ (false = true ↔ pAt (piecesOf (10 :
 UInt8) s) (List.count (10 : UInt8) s) = [] → False) ∧ True))) ∧ ∀ (x : Nat × Nat × Nat), (x.fst ≤ s.length ∧ x.snd.fst ≤ x.fst ∧ x.snd.snd ≤ List.count (10 : UInt8) s ∧ (∀ (j : Nat), x.snd.fst ≤ j → j
 < x.fst → byteAt s j = (10 : Int) → False) ∧ List.drop x.snd.snd (piecesOf (10 : UInt8) s) = piecesOf (10 : UInt8) (List.drop x.snd.fst s)) ∧ Nat.le (1 : Nat) x.snd.snd → s.length - x.fst < LIM ∧
 ((↑x.fst : Int) < (↑s.length : Int) → (0 : Int) ≤ (↑x.fst : Int) ∧ (↑x.fst : Int) < (↑s.length : Int) ∧ (byteAt s x.fst = (10 : Int) → (0 : Int) ≤ (↑x.snd.fst : Int) ∧ (↑x.snd.fst : Int) ≤ (↑x.fst :
 Int) ∧ (↑x.fst : Int) ≤ (↑s.length : Int) ∧ (0 : Nat) + (1 : Nat) ≤ [D.str (List.take (x.fst - x.snd.fst) (List.drop x.snd.fst s))].length ∧ (0 : Nat) + x.snd.snd ≤ (strsD (List.take x.snd.snd
 (piecesOf (10 : UInt8) s))).length ∧ x.snd.snd + (1 : Nat) ≤ (16777216 : Nat) ∧ ((-9223372036854775808 : Int) ≤ (↑x.fst : Int) + (1 : Int) ∧ (↑x.fst : Int) + (1 : Int) < (9223372036854775808 : Int)) ∧
 ((-9223372036854775808 : Int) ≤ (↑x.fst : Int) + (1 : Int) ∧ (↑x.fst : Int) + (1 : Int) < (9223372036854775808 : Int)) ∧ ((∃ (y : Nat × Nat × Nat), ((y.fst ≤ s.length ∧ y.snd.fst ≤ y.fst ∧ y.snd.snd ≤
 List.count (10 : UInt8) s ∧ (∀ (j : Nat), y.snd.fst ≤ j → j < y.fst → byteAt s j = (10 : Int) → False) ∧ List.drop y.snd.snd (piecesOf (10 : UInt8) s) = piecesOf (10 : UInt8) (List.drop y.snd.fst s))
 ∧ y.snd.snd = (0 : Nat)) ∧ s.length - y.fst < s.length - x.fst ∧ ((↑x.fst : Int) + (1 : Int) = (↑y.fst : Int) ∧ (↑x.fst : Int) + (1 : Int) = (↑y.snd.fst : Int) ∧ False ∧ True) ∧ True) ∨ ∃ (y : Nat ×
 Nat × Nat), ((y.fst ≤ s.length ∧ y.snd.fst ≤ y.fst ∧ y.snd.snd ≤ List.count (10 : UInt8) s ∧ (∀ (j : Nat), y.snd.fst ≤ j → j < y.fst → byteAt s j = (10 : Int) → False) ∧ List.drop y.snd.snd (piecesOf
 (10 : UInt8) s) = piecesOf (10 : UInt8) (List.drop y.snd.fst s)) ∧ Nat.le (1 : Nat) y.snd.snd) ∧ s.length - y.fst < s.length - x.fst ∧ ((↑x.fst : Int) + (1 : Int) = (↑y.fst : Int) ∧ (↑x.fst : Int) +
 (1 : Int) = (↑y.snd.fst : Int) ∧ ((0 : Nat) = (0 : Nat) ∧ x.snd.snd + (1 : Nat) = y.snd.snd ∧ True) ∧ True) ∧ List.take x.snd.snd (strsD (List.take x.snd.snd (piecesOf (10 : UInt8) s))) ++ List.take
 (1 : Nat) [D.str (List.take (x.fst - x.snd.fst) (List.drop x.snd.fst s))] = strsD (List.take y.snd.snd (piecesOf (10 : UInt8) s)) ∧ True)) ∧ ((byteAt s x.fst = (10 : Int) → False) →
 ((-9223372036854775808 : Int) ≤ (↑x.fst : Int) + (1 : Int) ∧ (↑x.fst : Int) + (1 : Int) < (9223372036854775808 : Int)) ∧ ((∃ (y : Nat × Nat × Nat), ((y.fst ≤ s.length ∧ y.snd.fst ≤ y.fst ∧ y.snd.snd ≤
 List.count (10 : UInt8) s ∧ (∀ (j : Nat), y.snd.fst ≤ j → j < y.fst → byteAt s j = (10 : Int) → False) ∧ List.drop y.snd.snd (piecesOf (10 : UInt8) s) = piecesOf (10 : UInt8) (List.drop y.snd.fst s))
 ∧ y.snd.snd = (0 : Nat)) ∧ s.length - y.fst < s.length - x.fst ∧ ((↑x.fst : Int) + (1 : Int) = (↑y.fst : Int) ∧ (↑x.snd.fst : Int) = (↑y.snd.fst : Int) ∧ False ∧ True) ∧ True) ∨ ∃ (y : Nat × Nat ×
 Nat), ((y.fst ≤ s.length ∧ y.snd.fst ≤ y.fst ∧ y.snd.snd ≤ List.count (10 : UInt8) s ∧ (∀ (j : Nat), y.snd.fst ≤ j → j < y.fst → byteAt s j = (10 : Int) → False) ∧ List.drop y.snd.snd (piecesOf (10 :
 UInt8) s) = piecesOf (10 : UInt8) (List.drop y.snd.fst s)) ∧ Nat.le (1 : Nat) y.snd.snd) ∧ s.length - y.fst < s.length - x.fst ∧ ((↑x.fst : Int) + (1 : Int) = (↑y.fst : Int) ∧ (↑x.snd.fst : Int) =
 (↑y.snd.fst : Int) ∧ ((0 : Nat) = (0 : Nat) ∧ x.snd.snd = y.snd.snd ∧ True) ∧ True) ∧ strsD (List.take x.snd.snd (piecesOf (10 : UInt8) s)) = strsD (List.take y.snd.snd (piecesOf (10 : UInt8) s)) ∧
 True))) ∧ (((↑x.fst : Int) < (↑s.length : Int) → False) → ((↑x.snd.fst : Int) < (↑s.length : Int) → (0 : Int) ≤ (↑x.snd.fst : Int) ∧ (↑x.snd.fst : Int) ≤ (↑s.length : Int) ∧ (↑s.length : Int) ≤
 (↑s.length : Int) ∧ (0 : Nat) + (1 : Nat) ≤ [D.str (List.take (s.length - x.snd.fst) (List.drop x.snd.fst s))].length ∧ (0 : Nat) + x.snd.snd ≤ (strsD (List.take x.snd.snd (piecesOf (10 : UInt8)
 s))).length ∧ x.snd.snd + (1 : Nat) ≤ (16777216 : Nat) ∧ ((0 : Nat) + (x.snd.snd + (1 : Nat)) ≤ (List.take x.snd.snd (strsD (List.take x.snd.snd (piecesOf (10 : UInt8) s))) ++ List.take (1 : Nat)
 [D.str (List.take (s.length - x.snd.fst) (List.drop x.snd.fst s))]).length ∧ D.list (List.take (x.snd.snd + (1 : Nat)) (List.take x.snd.snd (strsD (List.take x.snd.snd (piecesOf (10 : UInt8) s))) ++
 List.take (1 : Nat) [D.str (List.take (s.length - x.snd.fst) (List.drop x.snd.fst s))])) = listD (strsD (linesL s))) ∧ (true = true ↔ pAt (piecesOf (10 : UInt8) s) (List.count (10 : UInt8) s) = [] →
 False) ∧ True) ∧ (((↑x.snd.fst : Int) < (↑s.length : Int) → False) → ((0 : Nat) + x.snd.snd ≤ (strsD (List.take x.snd.snd (piecesOf (10 : UInt8) s))).length ∧ D.list (List.take x.snd.snd (strsD
 (List.take x.snd.snd (piecesOf (10 : UInt8) s)))) = listD (strsD (linesL s))) ∧ (false = true ↔ pAt (piecesOf (10 : UInt8) s) (List.count (10 : UInt8) s) = [] → False) ∧ True))) := by intros; kernel_rfl
theorem one_piece {s : List UInt8} {c : UInt8} (h : (piecesOf c s).length = 1) : piecesOf c s = [s] := by
 rcases (show cutI s c < 0 ∨ 0 ≤ cutI s c by omega) with h0 | h0
 ·exact cut_no h0
 ·have h1 := (cut_yes h0).2
  rw [h1, List.length_cons] at h
  exact absurd (List.eq_nil_of_length_eq_zero (by omega)) (pieces_ne c (s.drop ((cutI s c).toNat + 1)))
theorem drop_tail {α : Type} {P r : List α} {w : α} {x : Nat} (h : P.drop x = w :: r) : x < P.length ∧ P.drop (x + 1) = r ∧ P.take (x + 1) = P.take x ++ [w] := by
 have hx : x < P.length := by
  rcases Nat.lt_or_ge x P.length with h1 | h1
  ·exact h1
  ·rw [List.drop_of_length_le h1] at h; cases h
 rw [List.drop_eq_getElem_cons hx] at h
 injection h with h1 h2
 exact ⟨hx, h2, by rw [List.take_succ_eq_append_getElem hx, h1]⟩
theorem strs_len (l : List (List UInt8)) : (strsD l).length = l.length := List.length_map _
theorem strs_app (a b : List (List UInt8)) : strsD (a ++ b) = strsD a ++ strsD b := List.map_append
theorem str_set (P : List (List UInt8)) (x : Nat) (w : List UInt8) (r : List (List UInt8)) (n : Nat) (hn : n = P.length) (hd : P.drop x = w :: r) : (strsD (P.take x) ++ List.replicate (n - x) (D.str [])).set x (.str w) = strsD (P.take (x + 1)) ++ List.replicate (n - (x + 1)) (D.str []) := by
 obtain ⟨hx, _, ht⟩ := drop_tail hd
 have e1 : (strsD (P.take x)).length = x := by rw [strs_len, List.length_take]; omega
 rw [List.set_append_right _ _ (by omega), e1, Nat.sub_self, show n - x = (n - (x + 1)) + 1 by omega, List.replicate_succ, List.set_cons_zero, ht, strs_app, List.append_assoc]
 rfl
theorem s70 (s : List UInt8) (hs : s.length ≤ 100000) : symFun (ctx (fun _ => none) hpAnn) 10 70 [.str s, .val (.string ⟨#[32]⟩)] (.dat 82 (.list (strsD (piecesOf 32 s)))) := by
 rw [vc70]
 have ez : ((ByteArray.mk #[(32 : UInt8)]).size : Int) = 1 := rfl
 have ec : countZ s 32 = (s.count 32 : Nat) := rfl
 have hcl : s.count 32 ≤ s.length := List.count_le_length
 have eN : min ((s.count 32 : Int) + 1) ((s.length : Int) + 1) = (s.count 32 : Int) + 1 := by omega
 have eb : (ctx (fun _ => none) hpAnn).P.types[(9 : Nat)].bytes = 16 := rfl
 have hP := pieces_len 32 s
 simp only [imp_false, true_and, and_true, bz32, ez, ec, fcut, cond_false, eN, eb]
 have hrow : ∀ x : Nat, x ≤ s.count 32 → (strsD ((piecesOf 32 s).take x) ++ List.replicate (s.count 32 + 1 - x) (D.str [])).length = s.count 32 + 1 := fun x hx => by
  rw [List.length_append, strs_len, List.length_take, List.length_replicate]; omega
 refine ⟨by omega, by decide, by decide, ⟨by omega, by omega⟩, ⟨by omega, by omega⟩, by omega, by omega, by omega, by omega, ⟨by omega, by omega⟩, ⟨(0, s), ⟨Nat.zero_le _, rfl, Nat.le_refl _⟩, ⟨rfl, rfl⟩, by rw [show (((s.count 32 : Nat) : Int) + 1).toNat = s.count 32 + 1 by omega]; rfl⟩, fun x ⟨hx, hd, hl⟩ => ⟨by unfold LIM; omega, fun hlt => ⟨fun he => ?_, fun hne => ⟨by omega, by decide, by decide, fun h0 => ?_, fun h0 => ?_⟩⟩, fun hge => ?_⟩⟩
 ·have hd1 : (piecesOf 32 s).drop x.1 = [] :: [[]] := by rw [hd, ← he]; rfl
  obtain ⟨t1, t2, t3⟩ := drop_tail hd1
  have hlen : x.2.length = 1 := by rw [← he]; rfl
  refine ⟨by omega, by decide, by rw [hlen]; decide, by omega, by omega, by rw [hrow _ hx]; omega, by decide, by rw [hlen]; decide, by omega, ⟨by omega, by omega⟩, (x.1 + 1, []), ⟨by show x.1 + 1 ≤ s.count 32; omega, t2, Nat.zero_le _⟩, by show s.count 32 - (x.1 + 1) < s.count 32 - x.1; omega, ⟨by show (x.1 : Int) + 1 = ((x.1 + 1 : Nat) : Int); omega, by rw [← he]; rfl⟩, str_set _ _ _ _ _ (by omega) hd1⟩
 ·exfalso
  have h1 := cut_no h0
  have h2 : ((piecesOf 32 s).drop x.1).length = 1 := by rw [hd, h1]; rfl
  rw [List.length_drop] at h2; omega
 ·obtain ⟨h1, h2⟩ := cut_yes (by omega : 0 ≤ cutI x.2 32)
  rw [h2] at hd
  obtain ⟨t1, t2, t3⟩ := drop_tail hd
  have hnn : x.1 + 1 ≤ s.count 32 := by omega
  refine ⟨⟨by omega, by omega⟩, by omega, by omega, by omega, by omega, by omega, by rw [hrow _ hx]; omega, ⟨by omega, by omega⟩, by omega, by omega, by omega, ⟨by omega, by omega⟩, (x.1 + 1, x.2.drop ((cutI x.2 32).toNat + 1)), ⟨hnn, t2, by show (x.2.drop ((cutI x.2 32).toNat + 1)).length ≤ s.length; rw [List.length_drop]; omega⟩, by show s.count 32 - (x.1 + 1) < s.count 32 - x.1; omega, ⟨by show (x.1 : Int) + 1 = ((x.1 + 1 : Nat) : Int); omega, ?_⟩, ?_⟩
  ·show List.take (x.2.length - (cutI x.2 32 + 1).toNat) (List.drop (cutI x.2 32 + 1).toNat x.2) = x.2.drop ((cutI x.2 32).toNat + 1)
   rw [show (cutI x.2 32 + 1).toNat = (cutI x.2 32).toNat + 1 by omega]
   exact take_all _ _ (by rw [List.length_drop]; omega)
  ·rw [Int.add_zero]; exact str_set _ _ _ _ _ (by omega) hd
 ·have ex : x.1 = s.count 32 := by omega
  have h1 : (piecesOf 32 x.2).length = 1 := by rw [← hd, List.length_drop]; omega
  rw [one_piece h1] at hd
  have hset := str_set _ _ _ _ (s.count 32 + 1) (by omega) hd
  refine ⟨by omega, by omega, by rw [hrow _ hx]; omega, ⟨by omega, by omega⟩, by omega, by omega, (show ((x.1 : Int) + 1) ≤ ((((s.count 32 : Nat) : Int) + 1).toNat : Int) by omega), ?_, ?_⟩
  ·rw [List.length_set, hrow _ hx]; omega
  ·rw [hset, ex, Nat.sub_self, List.replicate_zero, List.append_nil, List.drop_zero, take_all (piecesOf 32 s) _ (by omega), take_all _ _ (by rw [strs_len]; omega)]
theorem byte_dropN (s : List UInt8) (y j : Nat) : byteAt (s.drop y) j = byteAt s (y + j) := by
 unfold byteAt; rw [List.getElem?_drop]
theorem ln_cut (k : UInt8) {s : List UInt8} {i st c : Nat} (hi : i < s.length) (hst : st ≤ i) (hn : ∀ j, st ≤ j → j < i → byteAt s j ≠ k.toNat) (hd : (piecesOf k s).drop c = piecesOf k (s.drop st)) (h10 : byteAt s i = k.toNat) :
  c + 1 ≤ s.count k ∧ (piecesOf k s).drop (c + 1) = piecesOf k (s.drop (i + 1)) ∧ (piecesOf k s).take (c + 1) = (piecesOf k s).take c ++ [(s.drop st).take (i - st)] := by
 have hp := pieces_cut k (s.drop st) (i - st) (by rw [List.length_drop]; omega) (fun j hj => by rw [byte_dropN]; exact hn _ (by omega) (by omega)) (by rw [byte_dropN, show st + (i - st) = i by omega]; exact h10)
 rw [hp, List.drop_drop, show st + (i - st + 1) = i + 1 by omega] at hd
 obtain ⟨t1, t2, t3⟩ := drop_tail hd
 refine ⟨?_, t2, t3⟩
 have h2 : ((piecesOf k s).drop (c + 1)).length ≠ 0 := by rw [t2]; exact fun h => pieces_ne k _ (List.eq_nil_of_length_eq_zero h)
 rw [List.length_drop, pieces_len] at h2; omega
theorem ln_end (k : UInt8) {s : List UInt8} {st c : Nat} (hn : ∀ j, st ≤ j → j < s.length → byteAt s j ≠ k.toNat) (hd : (piecesOf k s).drop c = piecesOf k (s.drop st)) :
  c = s.count k ∧ (piecesOf k s).drop c = [s.drop st] ∧ piecesOf k s = (piecesOf k s).take c ++ [s.drop st] ∧ pAt (piecesOf k s) (s.count k) = s.drop st := by
 rw [pieces_one k (s.drop st) fun j hj => by rw [byte_dropN]; rw [List.length_drop] at hj; exact hn _ (by omega) (by omega)] at hd
 obtain ⟨t1, t2, t3⟩ := drop_tail hd
 have hP := pieces_len k s
 have h1 : ((piecesOf k s).drop c).length = 1 := by rw [hd]; rfl
 rw [List.length_drop] at h1
 have hc : c = s.count k := by omega
 refine ⟨hc, hd, ?_, ?_⟩
 ·rw [← t3, take_all _ _ (by omega)]
 ·rw [← hc]
  have h2 : ((piecesOf k s).drop c)[0]? = some (s.drop st) := by rw [hd]; rfl
  rw [List.getElem?_drop, Nat.add_zero] at h2
  unfold pAt; rw [h2]; rfl
theorem listD_ne {l : List D} (h : l.length ≠ 0) : listD l = .list l := by
 cases l with
 | nil => exact absurd rfl h
 | cons a l => rfl
theorem s39 (s : List UInt8) (hs : s.length ≤ 100000) : symFun (ctx (fun _ => none) hpAnn) 3 39 [.str s] (.tup [.dat 82 (listD (strsD (linesL s))), .prop (¬ lastE s)]) := by
 rw [vc39]
 simp only [imp_false]
 have hcl : s.count 10 ≤ s.length := List.count_le_length
 have hP := pieces_len 10 s
 have tk : ∀ c, c ≤ s.count 10 → (strsD ((piecesOf 10 s).take c)).length = c := fun c hc => by rw [strs_len, List.length_take]; omega
 have tk' : ∀ c, c ≤ s.count 10 → List.take c (strsD ((piecesOf 10 s).take c)) = strsD ((piecesOf 10 s).take c) := fun c hc => take_all _ _ (by rw [tk c hc]; omega)
 have whole : ∀ {st}, st < s.length → (∀ j, st ≤ j → j < s.length → byteAt s j ≠ 10) → ∀ {c}, (piecesOf 10 s).drop c = piecesOf 10 (s.drop st) → ¬ lastE s ∧ c = s.count 10 ∧ linesL s = (piecesOf 10 s).take c ++ [(s.drop st).take (s.length - st)] := fun {st} hst hn {c} hd => by
  obtain ⟨e1, e2, e3, e4⟩ := ln_end 10 hn hd
  have hl : ¬ lastE s := fun h => by
   unfold lastE at h
   rw [e4] at h
   have := congrArg List.length h
   rw [List.length_drop] at this; simp at this; omega
  refine ⟨hl, e1, ?_⟩
  unfold linesL
  rw [if_neg hl, take_all (s.drop st) _ (by rw [List.length_drop]; omega)]; exact e3
 have none : ∀ {st}, ¬ st < s.length → ∀ {c}, (piecesOf 10 s).drop c = piecesOf 10 (s.drop st) → lastE s ∧ c = s.count 10 ∧ linesL s = (piecesOf 10 s).take c := fun {st} hst {c} hd => by
  obtain ⟨e1, e2, e3, e4⟩ := ln_end 10 (fun j h1 h2 => by omega) hd
  have hl : lastE s := by unfold lastE; rw [e4]; exact List.drop_of_length_le (by omega)
  refine ⟨hl, e1, ?_⟩
  unfold linesL
  rw [if_pos hl, e1]
 refine ⟨.inl ⟨(0, 0, 0), ⟨⟨Nat.zero_le _, Nat.le_refl _, Nat.zero_le _, fun j _ h => absurd h (Nat.not_lt_zero _), rfl⟩, rfl⟩, ⟨rfl, rfl, trivial, trivial⟩, trivial⟩, fun x ⟨⟨hi, hst, hc, hn, hd⟩, h0⟩ => ⟨by unfold LIM; omega, fun hlt => ⟨by omega, hlt, fun hb => ?_, fun hb => ?_⟩, fun hge => ⟨fun hl => ?_, fun hl => ?_⟩⟩, fun x ⟨⟨hi, hst, hc, hn, hd⟩, h0⟩ => ⟨by unfold LIM; omega, fun hlt => ⟨by omega, hlt, fun hb => ?_, fun hb => ?_⟩, fun hge => ⟨fun hl => ?_, fun hl => ?_⟩⟩⟩
 ·obtain ⟨u1, u2, u3⟩ := ln_cut 10 (by omega) hst hn hd hb
  rw [h0] at u1 u2 u3
  refine ⟨by omega, by omega, by omega, Nat.le_refl 1, by decide, ⟨by omega, by omega⟩, ⟨by omega, by omega⟩, .inr ⟨(x.1 + 1, x.1 + 1, 1), ⟨⟨by show x.1 + 1 ≤ s.length; omega, Nat.le_refl _, u1, fun j h1 h2 => absurd h2 (Nat.not_lt.2 h1), u2⟩, Nat.le_refl 1⟩, by show s.length - (x.1 + 1) < s.length - x.1; omega, ⟨by show (x.1 : Int) + 1 = ((x.1 + 1 : Nat) : Int); omega, by show (x.1 : Int) + 1 = ((x.1 + 1 : Nat) : Int); omega, ⟨by trivial, rfl, trivial⟩, trivial⟩, ?_, trivial⟩⟩
  show _ = strsD (List.take (0 + 1) (piecesOf 10 s))
  rw [u3]; rfl
 ·refine ⟨⟨by omega, by omega⟩, .inl ⟨(x.1 + 1, x.2.1, 0), ⟨⟨by show x.1 + 1 ≤ s.length; omega, by show x.2.1 ≤ x.1 + 1; omega, Nat.zero_le _, fun j h1 h2 => ?_, by rw [← h0]; exact hd⟩, rfl⟩, by show s.length - (x.1 + 1) < s.length - x.1; omega, ⟨by show (x.1 : Int) + 1 = ((x.1 + 1 : Nat) : Int); omega, rfl, trivial, trivial⟩, trivial⟩⟩
  by_cases e : j = x.1
  ·subst e; exact hb
  ·exact hn j h1 (by have h2 : j < x.1 + 1 := h2; omega)
 ·obtain ⟨w1, w2, w3⟩ := whole (by omega : x.2.1 < s.length) (fun j h1 h2 => hn j h1 (by omega)) hd
  refine ⟨by omega, by omega, by omega, Nat.le_refl 1, by decide, ⟨Nat.le_refl 1, ?_⟩, ⟨fun _ => w1, fun _ => by trivial⟩, trivial⟩
  rw [w3, h0]; rfl
 ·obtain ⟨w1, w2, w3⟩ := none (by omega : ¬ x.2.1 < s.length) hd
  refine ⟨?_, ⟨fun h => by simp at h, fun h => absurd w1 h⟩, trivial⟩
  rw [w3, h0]; rfl
 ·obtain ⟨u1, u2, u3⟩ := ln_cut 10 (by omega) hst hn hd hb
  refine ⟨by omega, by omega, by omega, Nat.le_refl 1, by rw [tk _ hc]; omega, by omega, ⟨by omega, by omega⟩, ⟨by omega, by omega⟩, .inr ⟨(x.1 + 1, x.1 + 1, x.2.2 + 1), ⟨⟨by show x.1 + 1 ≤ s.length; omega, Nat.le_refl _, u1, fun j h1 h2 => absurd h2 (Nat.not_lt.2 h1), u2⟩, by show 1 ≤ x.2.2 + 1; omega⟩, by show s.length - (x.1 + 1) < s.length - x.1; omega, ⟨by show (x.1 : Int) + 1 = ((x.1 + 1 : Nat) : Int); omega, by show (x.1 : Int) + 1 = ((x.1 + 1 : Nat) : Int); omega, ⟨by trivial, rfl, trivial⟩, trivial⟩, ?_, trivial⟩⟩
  show _ = strsD (List.take (x.2.2 + 1) (piecesOf 10 s))
  rw [u3, strs_app, tk' _ hc]; rfl
 ·refine ⟨⟨by omega, by omega⟩, .inr ⟨(x.1 + 1, x.2.1, x.2.2), ⟨⟨by show x.1 + 1 ≤ s.length; omega, by show x.2.1 ≤ x.1 + 1; omega, hc, fun j h1 h2 => ?_, hd⟩, h0⟩, by show s.length - (x.1 + 1) < s.length - x.1; omega, ⟨by show (x.1 : Int) + 1 = ((x.1 + 1 : Nat) : Int); omega, rfl, ⟨by trivial, rfl, trivial⟩, trivial⟩, rfl, trivial⟩⟩
  by_cases e : j = x.1
  ·subst e; exact hb
  ·exact hn j h1 (by have h2 : j < x.1 + 1 := h2; omega)
 ·obtain ⟨w1, w2, w3⟩ := whole (by omega : x.2.1 < s.length) (fun j h1 h2 => hn j h1 (by omega)) hd
  have ht := tk _ hc
  have el : (strsD ((piecesOf 10 s).take x.2.2) ++ List.take 1 [D.str (List.take (s.length - x.2.1) (List.drop x.2.1 s))]).length = x.2.2 + 1 := by rw [List.length_append, ht]; rfl
  refine ⟨by omega, by omega, by omega, Nat.le_refl 1, by rw [ht]; omega, by omega, ⟨by rw [tk' _ hc, el]; omega, ?_⟩, ⟨fun _ => w1, fun _ => by trivial⟩, trivial⟩
  rw [tk' _ hc, take_all _ _ (by rw [el]; omega), w3, strs_app, listD_ne (by rw [List.length_append, ht]; exact Nat.succ_ne_zero _)]; rfl
 ·obtain ⟨w1, w2, w3⟩ := none (by omega : ¬ x.2.1 < s.length) hd
  have ht := tk _ hc
  refine ⟨⟨by rw [ht]; omega, ?_⟩, ⟨fun h => by simp at h, fun h => absurd w1 h⟩, trivial⟩
  rw [tk' _ hc, w3, listD_ne (by rw [ht]; exact Nat.ne_of_gt h0)]
end Go.Ev

end

section
open Go.Proofs
namespace Go.Ev
set_option maxRecDepth 100000
set_option maxHeartbeats 4000000
theorem vc76 : ∀ (s : List UInt8), symFun (ctx (fun _ => none) hpAnn) (3 : Nat) (76 : FuncId) [V.str s] (V.tup [V.dat (82 : TypeId) (pD (okW s) (D.list (strsD (piecesOf (32 : UInt8) s)))), V.prop (okW
 s)]) = (((∃ (x : Nat × Nat × Nat), (((x.fst ≤ s.length ∧ x.snd.fst ≤ x.fst ∧ x.snd.snd ≤ List.count (32 : UInt8) s ∧ (∀ (j : Nat), x.snd.fst ≤ j → j < x.fst → byteAt s j = (32 : Int) → False) ∧
 List.drop x.snd.snd (piecesOf (32 : UInt8) s) = piecesOf (32 : UInt8) (List.drop x.snd.fst s) ∧ ∀ (w : List UInt8), List.Mem w (List.take x.snd.snd (piecesOf (32 : UInt8) s)) → w = [] → False) ∨ x.fst
 = s.length + (1 : Nat) ∧ x.snd.fst = x.fst ∧ x.snd.snd = List.count (32 : UInt8) s + (1 : Nat) ∧ okW s) ∧ x.snd.snd = (0 : Nat)) ∧ ((0 : Int) = (↑x.fst : Int) ∧ [] = List.drop x.snd.fst (List.take
 x.fst s) ∧ True ∧ True) ∧ True) ∨ ∃ (x : Nat × Nat × Nat), (((x.fst ≤ s.length ∧ x.snd.fst ≤ x.fst ∧ x.snd.snd ≤ List.count (32 : UInt8) s ∧ (∀ (j : Nat), x.snd.fst ≤ j → j < x.fst → byteAt s j = (32
 : Int) → False) ∧ List.drop x.snd.snd (piecesOf (32 : UInt8) s) = piecesOf (32 : UInt8) (List.drop x.snd.fst s) ∧ ∀ (w : List UInt8), List.Mem w (List.take x.snd.snd (piecesOf (32 : UInt8) s)) → w =
 [] → False) ∨ x.fst = s.length + (1 : Nat) ∧ x.snd.fst = x.fst ∧ x.snd.snd = List.count (32 : UInt8) s + (1 : Nat) ∧ okW s) ∧ Nat.le (1 : Nat) x.snd.snd) ∧ ((0 : Int) = (↑x.fst : Int) ∧ [] = List.drop
 x.snd.fst (List.take x.fst s) ∧ False ∧ True) ∧ False ∧ True) ∧ (∀ (x : Nat × Nat × Nat), ((x.fst ≤ s.length ∧ x.snd.fst ≤ x.fst ∧ x.snd.snd ≤ List.count (32 : UInt8) s ∧ (∀ (j : Nat), x.snd.fst ≤ j →
 j < x.fst → byteAt s j = (32 : Int) → False) ∧ List.drop x.snd.snd (piecesOf (32 : UInt8) s) = piecesOf (32 : UInt8) (List.drop x.snd.fst s) ∧ ∀ (w : List UInt8), List.Mem w (List.take x.snd.snd
 (piecesOf (32 : UInt8) s)) → w = [] → False) ∨ x.fst = s.length + (1 : Nat) ∧ x.snd.fst = x.fst ∧ x.snd.snd = List.count (32 : UInt8) s + (1 : Nat) ∧ okW s) ∧ x.snd.snd = (0 : Nat) → s.length + (1 :
 Nat) - x.fst < LIM ∧ ((↑x.fst : Int) ≤ (↑s.length : Int) → ((↑x.fst : Int) < (↑s.length : Int) → (0 : Int) ≤ (↑x.fst : Int) ∧ (↑x.fst : Int) < (↑s.length : Int) ∧ ((byteAt s x.fst = (32 : Int) →
 False) → ((-9223372036854775808 : Int) ≤ (↑x.fst : Int) + (1 : Int) ∧ (↑x.fst : Int) + (1 : Int) < (9223372036854775808 : Int)) ∧ (0 : Int) ≤ (↑x.fst : Int) ∧ (↑x.fst : Int) ≤ (↑x.fst : Int) + (1 :
 Int) ∧ (↑x.fst : Int) + (1 : Int) ≤ (↑s.length : Int) ∧ (List.drop x.snd.fst (List.take x.fst s)).length + (List.take (((↑x.fst : Int) + (1 : Int)).toNat - x.fst) (List.drop x.fst s)).length <
 (9223372036854775808 : Nat) ∧ ((-9223372036854775808 : Int) ≤ (↑x.fst : Int) + (1 : Int) ∧ (↑x.fst : Int) + (1 : Int) < (9223372036854775808 : Int)) ∧ ((∃ (y : Nat × Nat × Nat), (((y.fst ≤ s.length ∧
 y.snd.fst ≤ y.fst ∧ y.snd.snd ≤ List.count (32 : UInt8) s ∧ (∀ (j : Nat), y.snd.fst ≤ j → j < y.fst → byteAt s j = (32 : Int) → False) ∧ List.drop y.snd.snd (piecesOf (32 : UInt8) s) = piecesOf (32 :
 UInt8) (List.drop y.snd.fst s) ∧ ∀ (w : List UInt8), List.Mem w (List.take y.snd.snd (piecesOf (32 : UInt8) s)) → w = [] → False) ∨ y.fst = s.length + (1 : Nat) ∧ y.snd.fst = y.fst ∧ y.snd.snd =
 List.count (32 : UInt8) s + (1 : Nat) ∧ okW s) ∧ y.snd.snd = (0 : Nat)) ∧ s.length + (1 : Nat) - y.fst < s.length + (1 : Nat) - x.fst ∧ ((↑x.fst : Int) + (1 : Int) = (↑y.fst : Int) ∧ List.drop
 x.snd.fst (List.take x.fst s) ++ List.take (((↑x.fst : Int) + (1 : Int)).toNat - x.fst) (List.drop x.fst s) = List.drop y.snd.fst (List.take y.fst s) ∧ True ∧ True) ∧ True) ∨ ∃ (y : Nat × Nat × Nat),
 (((y.fst ≤ s.length ∧ y.snd.fst ≤ y.fst ∧ y.snd.snd ≤ List.count (32 : UInt8) s ∧ (∀ (j : Nat), y.snd.fst ≤ j → j < y.fst → byteAt s j = (32 : Int) → False) ∧ List.drop y.snd.snd (piecesOf (32 :
 UInt8) s) = piecesOf (32 : UInt8) (List.drop y.snd.fst s) ∧ ∀ (w : List UInt8), List.Mem w (List.take y.snd.snd (piecesOf (32 : UInt8) s)) → w = [] → False) ∨ y.fst = s.length + (1 : Nat) ∧ y.snd.fst
 = y.fst ∧ y.snd.snd = List.count (32 : UInt8) s + (1 : Nat) ∧ okW s) ∧ Nat.le (1 : Nat) y.snd.snd) ∧ s.length + (1 : Nat) - y.fst < s.length + (1 : Nat) - x.fst ∧ ((↑x.fst : Int) + (1 : Int) = (↑y.fst
 : Int) ∧ List.drop x.snd.fst (List.take x.fst s) ++ List.take (((↑x.fst : Int) + (1 : Int)).toNat - x.fst) (List.drop x.fst s) = List.drop y.snd.fst (List.take y.fst s) ∧ False ∧ True) ∧ False ∧
 True)) ∧ (((byteAt s x.fst = (32 : Int) → False) → False) → (List.drop x.snd.fst (List.take x.fst s) = [] → D.nil = pD (okW s) (D.list (strsD (piecesOf (32 : UInt8) s))) ∧ (false = true ↔ okW s) ∧
 True) ∧ ((List.drop x.snd.fst (List.take x.fst s) = [] → False) → (0 : Nat) + (1 : Nat) ≤ [D.str (List.drop x.snd.fst (List.take x.fst s))].length ∧ (1 : Nat) ≤ (16777216 : Nat) ∧
 ((-9223372036854775808 : Int) ≤ (↑x.fst : Int) + (1 : Int) ∧ (↑x.fst : Int) + (1 : Int) < (9223372036854775808 : Int)) ∧ ((∃ (y : Nat × Nat × Nat), (((y.fst ≤ s.length ∧ y.snd.fst ≤ y.fst ∧ y.snd.snd
 ≤ List.count (32 : UInt8) s ∧ (∀ (j : Nat), y.snd.fst ≤ j → j < y.fst → byteAt s j = (32 : Int) → False) ∧ List.drop y.snd.snd (piecesOf (32 : UInt8) s) = piecesOf (32 : UInt8) (List.drop y.snd.fst s)
 ∧ ∀ (w : List UInt8), List.Mem w (List.take y.snd.snd (piecesOf (32 : UInt8) s)) → w = [] → False) ∨ y.fst = s.length + (1 : Nat) ∧ y.snd.fst = y.fst ∧ y.snd.snd = List.count (32 : UInt8) s + (1 :
 Nat) ∧ okW s) ∧ y.snd.snd = (0 : Nat)) ∧ s.length + (1 : Nat) - y.fst < s.length + (1 : Nat) - x.fst ∧ ((↑x.fst : Int) + (1 : Int) = (↑y.fst : Int) ∧ [] = List.drop y.snd.fst (List.take y.fst s) ∧
 False ∧ True) ∧ True) ∨ ∃ (y : Nat × Nat × Nat), (((y.fst ≤ s.length ∧ y.snd.fst ≤ y.fst ∧ y.snd.snd ≤ List.count (32 : UInt8) s ∧ (∀ (j : Nat), y.snd.fst ≤ j → j < y.fst → byteAt s j = (32 : Int) →
 False) ∧ List.drop y.snd.snd (piecesOf (32 : UInt8) s) = piecesOf (32 : UInt8) (List.drop y.snd.fst s) ∧ ∀ (w : List UInt8), List.Mem w (List.take y.snd.snd (piecesOf (32 : UInt8) s)) → w = [] →
 False) ∨ y.fst = s.length + (1 : Nat) ∧ y.snd.fst = y.fst ∧ y.snd.snd = List.count (32 : UInt8) s + (1 : Nat) ∧ okW s) ∧ Nat.le (1 : Nat) y.snd.snd) ∧ s.length + (1 : Nat) - y.fst < s.length + (1 :
 Nat) - x.fst ∧ ((↑x.fst : Int) + (1 : Int) = (↑y.fst : Int) ∧ [] = List.drop y.snd.fst (List.take y.fst s) ∧ ((0 : Nat) = (0 : Nat) ∧ (1 : Nat) = y.snd.snd ∧ True) ∧ True) ∧ List.take (1 : Nat) [D.str
 (List.drop x.snd.fst (List.take x.fst s))] = strsD (List.take y.snd.snd (piecesOf (32 : UInt8) s)) ∧ True)))) ∧ (((↑x.fst : Int) < (↑s.length : Int) → False) → (List.drop x.snd.fst (List.take x.fst s)
 = [] → D.nil = pD (okW s) (D.list (strsD (piecesOf (32 : UInt8) s))) ∧ (false = true ↔ okW s) ∧ True) ∧ ((List.drop x.snd.fst (List.take x.fst s) = [] → False) → (0 : Nat) + (1 : Nat) ≤ [D.str
 (List.drop x.snd.fst (List.take x.fst s))].length ∧ (1 : Nat) ≤ (16777216 : Nat) ∧ ((-9223372036854775808 : Int) ≤ (↑x.fst : Int) + (1 : Int) ∧ (↑x.fst : Int) + (1 : Int) < (9223372036854775808 :
 Int)) ∧ ((∃ (y : Nat × Nat × Nat), (((y.fst ≤ s.length ∧ y.snd.fst ≤ y.fst ∧ y.snd.snd ≤ List.count (32 : UInt8) s ∧ (∀ (j : Nat), y.snd.fst ≤ j → j < y.fst → byteAt s j = (32 : Int) → False) ∧
 List.drop y.snd.snd (piecesOf (32 : UInt8) s) = piecesOf (32 : UInt8) (List.drop y.snd.fst s) ∧ ∀ (w : List UInt8), List.Mem w (List.take y.snd.snd (piecesOf (32 : UInt8) s)) → w = [] → False) ∨ y.fst
 = s.length + (1 : Nat) ∧ y.snd.fst = y.fst ∧ y.snd.snd = List.count (32 : UInt8) s + (1 : Nat) ∧ okW s) ∧ y.snd.snd = (0 : Nat)) ∧ s.length + (1 : Nat) - y.fst < s.length + (1 : Nat) - x.fst ∧
 ((↑x.fst : Int) + (1 : Int) = (↑y.fst : Int) ∧ [] = List.drop y.snd.fst (List.take y.fst s) ∧ False ∧ True) ∧ True) ∨ ∃ (y : Nat × Nat × Nat), (((y.fst ≤ s.length ∧ y.snd.fst ≤ y.fst ∧ y.snd.snd ≤
 List.count (32 : UInt8) s ∧ (∀ (j : Nat), y.snd.fst ≤ j → j < y.fst → byteAt s j = (32 : Int) → False) ∧ List.drop y.snd.snd (piecesOf (32 : UInt8) s) = piecesOf (32 : UInt8) (List.drop y.snd.fst s) ∧
 ∀ (w : List UInt8), List.Mem w (List.take y.snd.snd (piecesOf (32 : UInt8) s)) → w = [] → False) ∨ y.fst = s.length + (1 : Nat) ∧ y.snd.fst = y.fst ∧ y.snd.snd = List.count (32 : UInt8) s + (1 : Nat)
 ∧ okW s) ∧ Nat.le (1 : Nat) y.snd.snd) ∧ s.length + (1 : Nat) - y.fst < s.length + (1 : Nat) - x.fst ∧ ((↑x.fst : Int) + (1 : Int) = (↑y.fst : Int) ∧ [] = List.drop y.snd.fst (List.take y.fst s) ∧ ((0
 : Nat) = (0 : Nat) ∧ (1 : Nat) = y.snd.snd ∧ True) ∧ True) ∧ List.take (1 : Nat) [D.str (List.drop x.snd.fst (List.take x.fst s))] = strsD (List.take y.snd.snd (piecesOf (32 : UInt8) s)) ∧ True)))) ∧
 (((↑x.fst : Int) ≤ (↑s.length : Int) → False) → D.nil = pD (okW s) (D.list (strsD (piecesOf (32 : UInt8) s))) ∧ (true = true ↔ okW s) ∧ True)) ∧ ∀ (x : Nat × Nat × Nat), ((x.fst ≤ s.length ∧ x.snd.fst
 ≤ x.fst ∧ x.snd.snd ≤ List.count (32 : UInt8) s ∧ (∀ (j : Nat), x.snd.fst ≤ j → j < x.fst → byteAt s j = (32 : Int) → False) ∧ List.drop x.snd.snd (piecesOf (32 : UInt8) s) = piecesOf (32 : UInt8)
 (List.drop x.snd.fst s) ∧ ∀ (w : List UInt8), List.Mem w (List.take x.snd.snd (piecesOf (32 : UInt8) s)) → w = [] → False) ∨ x.fst = s.length + (1 : Nat) ∧ x.snd.fst = x.fst ∧ x.snd.snd = List.count
 (32 : UInt8) s + (1 : Nat) ∧ okW s) ∧ Nat.le (1 : Nat) x.snd.snd → s.length + (1 : Nat) - x.fst < LIM ∧ ((↑x.fst : Int) ≤ (↑s.length : Int) → ((↑x.fst : Int) < (↑s.length : Int) → (0 : Int) ≤ (↑x.fst
 : Int) ∧ (↑x.fst : Int) < (↑s.length : Int) ∧ ((byteAt s x.fst = (32 : Int) → False) → ((-9223372036854775808 : Int) ≤ (↑x.fst : Int) + (1 : Int) ∧ (↑x.fst : Int) + (1 : Int) < (9223372036854775808 :
 Int)) ∧ (0 : Int) ≤ (↑x.fst : Int) ∧ (↑x.fst : Int) ≤ (↑x.fst : Int) + (1 : Int) ∧ (↑x.fst : Int) + (1 : Int) ≤ (↑s.length : Int) ∧ (List.drop x.snd.fst (List.take x.fst s)).length + (List.take
 (((↑x.fst : Int) + (1 : Int)).toNat - x.fst) (List.drop x.fst s)).length < (9223372036854775808 : Nat) ∧ ((-9223372036854775808 : Int) ≤ (↑x.fst : Int) + (1 : Int) ∧ (↑x.fst : Int) + (1 : Int) <
 (9223372036854775808 : Int)) ∧ ((∃ (y : Nat × Nat × Nat), (((y.fst ≤ s.length ∧ y.snd.fst ≤ y.fst ∧ y.snd.snd ≤ List.count (32 : UInt8) s ∧ (∀ (j : Nat), y.snd.fst ≤ j → j < y.fst → byteAt s j = (32 :
 Int) → False) ∧ List.drop y.snd.snd (piecesOf (32 : UInt8) s) = piecesOf (32 : UInt8) (List.drop y.snd.fst s) ∧ ∀ (w : List UInt8), List.Mem w (List.take y.snd.snd (piecesOf (32 : UInt8) s)) → w = []
 → False) ∨ y.fst = s.length + (1 : Nat) ∧ y.snd.fst = y.fst ∧ y.snd.snd = List.count (32 : UInt8) s + (1 : Nat) ∧ okW s) ∧ y.snd.snd = (0 : Nat)) ∧ s.length + (1 : Nat) - y.fst < s.length + (1 : Nat)
 - x.fst ∧ ((↑x.fst : Int) + (1 : Int) = (↑y.fst : Int) ∧ List.drop x.snd.fst (List.take x.fst s) ++ List.take (((↑x.fst : Int) + (1 : Int)).toNat - x.fst) (List.drop x.fst s) = List.drop y.snd.fst
 (List.take y.fst s) ∧ False ∧ True) ∧ True) ∨ ∃ (y : Nat × Nat × Nat), (((y.fst ≤ s.length ∧ y.snd.fst ≤ y.fst ∧ y.snd.snd ≤ List.count (32 : UInt8) s ∧ (∀ (j : Nat), y.snd.fst ≤ j → j < y.fst →
 byteAt s j = (32 : Int) → False) ∧ List.drop y.snd.snd (piecesOf (32 : UInt8) s) = piecesOf (32 : UInt8) (List.drop y.snd.fst s) ∧ ∀ (w : List UInt8), List.Mem w (List.take y.snd.snd (piecesOf (32 :
 UInt8) s)) → w = [] → False) ∨ y.fst = s.length + (1 : Nat) ∧ y.snd.fst = y.fst ∧ y.snd.snd = List.count (32 : UInt8) s + (1 : Nat) ∧ okW s) ∧ Nat.le (1 : Nat) y.snd.snd) ∧ s.length + (1 : Nat) -
 y.fst < s.length + (1 : Nat) - x.fst ∧ ((↑x.fst : Int) + (1 : Int) = (↑y.fst : Int) ∧ List.drop x.snd.fst (List.take x.fst s) ++ List.take (((↑x.fst : Int) + (1 : Int)).toNat - x.fst) (List.drop x.fst
 s) = List.drop y.snd.fst (List.take y.fst s) ∧ ((0 : Nat) = (0 : Nat) ∧ x.snd.snd = y.snd.snd ∧ True) ∧ True) ∧ strsD (List.take x.snd.snd (piecesOf (32 : UInt8) s)) = strsD (List.take y.snd.snd
 (piecesOf (32 : UInt8) s)) ∧ True)) ∧ (((byteAt s x.fst = (32 : Int) → False) → False) → (List.drop x.snd.fst (List.take x.fst s) = [] → D.nil = pD (okW s) (D.list (strsD (piecesOf (32 : UInt8) s))) ∧
 (false = true ↔ okW s) ∧ True) ∧ ((List.drop x.snd.fst (List.take x.fst s) = [] → False) → (0 : Nat) + (1 : Nat) ≤ [D.str (List.drop x.snd.fst (List.take x.fst s))].length ∧ (0 : Nat) + x.snd.snd ≤
 (strsD (List.take x.snd.snd (piecesOf (32 : UInt8) s))).length ∧ x.snd.snd + (1 : Nat) ≤ (16777216 : Nat) ∧ ((-9223372036854775808 : Int) ≤ (↑x.fst : Int) + (1 : Int) ∧ (↑x.fst : Int) + (1 : Int) <
 (9223372036854775808 : Int)) ∧ ((∃ (y : Nat × Nat × Nat), (((y.fst ≤ s.length ∧ y.snd.fst ≤ y.fst ∧ y.snd.snd ≤ List.count (32 : UInt8) s ∧ (∀ (j : Nat), y.snd.fst ≤ j → j < y.fst → byteAt s j = (32 :
 Int) → False) ∧ List.drop y.snd.snd (piecesOf (32 : UInt8) s) = piecesOf (32 : UInt8) (List.drop y.snd.fst s) ∧ ∀ (w : List UInt8), List.Mem w (List.take y.snd.snd (piecesOf (32 : UInt8) s)) → w = []
 → False) ∨ y.fst = s.length + (1 : Nat) ∧ y.snd.fst = y.fst ∧ y.snd.snd = List.count (32 : UInt8) s + (1 : Nat) ∧ okW s) ∧ y.snd.snd = (0 : Nat)) ∧ s.length + (1 : Nat) - y.fst < s.length + (1 : Nat)
 - x.fst ∧ ((↑x.fst : Int) + (1 : Int) = (↑y.fst : Int) ∧ [] = List.drop y.snd.fst (List.take y.fst s) ∧ False ∧ True) ∧ True) ∨ ∃ (y : Nat × Nat × Nat), (((y.fst ≤ s.length ∧ y.snd.fst ≤ y.fst ∧
 y.snd.snd ≤ List.count (32 : UInt8) s ∧ (∀ (j : Nat), y.snd.fst ≤ j → j < y.fst → byteAt s j = (32 : Int) → False) ∧ List.drop y.snd.snd (piecesOf (32 : UInt8) s) = piecesOf (32 : UInt8) (List.drop
 y.snd.fst s) ∧ ∀ (w : List UInt8), List.Mem w (List.take y.snd.snd (piecesOf (32 : UInt8) s)) → w = [] → False) ∨ y.fst = s.length + (1 : Nat) ∧ y.snd.fst = y.fst ∧ y.snd.snd = List.count (32 : UInt8)
 s + (1 : Nat) ∧ okW s) ∧ Nat.le (1 : Nat) y.snd.snd) ∧ s.length + (1 : Nat) - y.fst < s.length + (1 : Nat) - x.fst ∧ ((↑x.fst : Int) + (1 : Int) = (↑y.fst : Int) ∧ [] = List.drop y.snd.fst (List.take
 y.fst s) ∧ ((0 : Nat) = (0 : Nat) ∧ x.snd.snd + (1 : Nat) = y.snd.snd ∧ True) ∧ True) ∧ List.take x.snd.snd (strsD (List.take x.snd.snd (piecesOf (32 : UInt8) s))) ++ List.take (1 : Nat) [D.str
 (List.drop x.snd.fst (List.take x.fst s))] = strsD (List.take y.snd.snd (piecesOf (32 : UInt8) s)) ∧ True)))) ∧ (((↑x.fst : Int) < (↑s.length : Int) → False) → (List.drop x.snd.fst (List.take x.fst s)
 = [] → D.nil = pD (okW s) (D.list (strsD (piecesOf (32 : UInt8) s))) ∧ (false = true ↔ okW s) ∧ True) ∧ ((List.drop x.snd.fst (List.take x.fst s) = [] → False) → (0 : Nat) + (1 : Nat) ≤ [D.str
 (List.drop x.snd.fst (List.take x.fst s))].length ∧ (0 : Nat) + x.snd.snd ≤ (strsD (List.take x.snd.snd (piecesOf (32 : UInt8) s))).length ∧ x.snd.snd + (1 : Nat) ≤ (16777216 : Nat) ∧
 ((-9223372036854775808 : Int) ≤ (↑x.fst : Int) + (1 : Int) ∧ (↑x.fst : Int) + (1 : Int) < (9223372036854775808 : Int)) ∧ ((∃ (y : Nat × Nat × Nat), (((y.fst ≤ s.length ∧ y.snd.fst ≤ y.fst ∧ y.snd.snd
 ≤ List.count (32 : UInt8) s ∧ (∀ (j : Nat), y.snd.fst ≤ j → j < y.fst → byteAt s j = (32 : Int) → False) ∧ List.drop y.snd.snd (piecesOf (32 : UInt8) s) = piecesOf (32 : UInt8) (List.drop y.snd.fst s)
 ∧ ∀ (w : List UInt8), List.Mem w (List.take y.snd.snd (piecesOf (32 : UInt8) s)) → w = [] → False) ∨ y.fst = s.length + (1 : Nat) ∧ y.snd.fst = y.fst ∧ y.snd.snd = List.count (32 : UInt8) s + (1 :
 Nat) ∧ okW s) ∧ y.snd.snd = (0 : Nat)) ∧ s.length + (1 : Nat) - y.fst < s.length + (1 : Nat) - x.fst ∧ ((↑x.fst : Int) + (1 : Int) = (↑y.fst : Int) ∧ [] = List.drop y.snd.fst (List.take y.fst s) ∧
 False ∧ True) ∧ True) ∨ ∃ (y : Nat × Nat × Nat), (((y.fst ≤ s.length ∧ y.snd.fst ≤ y.fst ∧ y.snd.snd ≤ List.count (32 : UInt8) s ∧ (∀ (j : Nat), y.snd.fst ≤ j → j < y.fst → byteAt s j = (32 : Int) →
 False) ∧ List.drop y.snd.snd (piecesOf (32 : UInt8) s) = piecesOf (32 : UInt8) (List.drop y.snd.fst s) ∧ ∀ (w : List UInt8), List.Mem w (List.take y.snd.snd (piecesOf (32 : UInt8) s)) → w = [] →
 False) ∨ y.fst = s.length + (1 : Nat) ∧ y.snd.fst = y.fst ∧ y.snd.snd = List.count (32 : UInt8) s + (1 : Nat) ∧ okW s) ∧ Nat.le (1 : Nat) y.snd.snd) ∧ s.length + (1 : Nat) - y.fst < s.length + (1 :
 Nat) - x.fst ∧ ((↑x.fst : Int) + (1 : Int) = (↑y.fst : Int) ∧ [] = List.drop y.snd.fst (List.take y.fst s) ∧ ((0 : Nat) = (0 : Nat) ∧ x.snd.snd + (1 : Nat) = y.snd.snd ∧ True) ∧ True) ∧ List.take
 x.snd.snd (strsD (List.take x.snd.snd (piecesOf (32 : UInt8) s))) ++ List.take (1 : Nat) [D.str (List.drop x.snd.fst (List.take x.fst s))] = strsD (List.take y.snd.snd (piecesOf (32 : UInt8) s)) ∧
 True)))) ∧ (((↑x.fst : Int) ≤ (↑s.length : Int) → False) → ((0 : Nat) + x.snd.snd ≤ (strsD (List.take x.snd.snd (piecesOf (32 : UInt8) s))).length ∧ D.list (List.take x.snd.snd (strsD (List.take
 x.snd.snd (piecesOf (32 : UInt8) s)))) = pD (okW s) (D.list (strsD (piecesOf (32 : UInt8) s)))) ∧ (true = true ↔ okW s) ∧ True)) := by intros; kernel_rfl
theorem w_eq (s : List UInt8) (i st : Nat) : (s.take i).drop st = (s.drop st).take (i - st) := by rw [List.drop_take]
theorem w_cut {s : List UInt8} {i st c : Nat} (hi : i < s.length) (hst : st ≤ i) (hn : ∀ j, st ≤ j → j < i → ¬ byteAt s j = 32) (hd : (piecesOf 32 s).drop c = piecesOf 32 (s.drop st)) (h10 : byteAt s i = 32) :
  c + 1 ≤ s.count 32 ∧ (piecesOf 32 s).drop (c + 1) = piecesOf 32 (s.drop (i + 1)) ∧ (piecesOf 32 s).take (c + 1) = (piecesOf 32 s).take c ++ [(s.take i).drop st] ∧ (s.take i).drop st ∈ piecesOf 32 s := by
 obtain ⟨u1, u2, u3⟩ := ln_cut 32 hi hst hn hd h10
 rw [w_eq]
 exact ⟨u1, u2, u3, List.mem_of_mem_take (i := c + 1) (by rw [u3]; exact List.mem_append_right _ (List.mem_singleton.2 rfl))⟩
theorem w_end {s : List UInt8} {i st c : Nat} (hi : i = s.length) (hn : ∀ j, st ≤ j → j < i → ¬ byteAt s j = 32) (hd : (piecesOf 32 s).drop c = piecesOf 32 (s.drop st)) :
  c = s.count 32 ∧ piecesOf 32 s = (piecesOf 32 s).take c ++ [(s.take i).drop st] ∧ (s.take i).drop st ∈ piecesOf 32 s := by
 subst hi
 obtain ⟨e1, e2, e3, e4⟩ := ln_end 32 hn hd
 rw [List.take_length]
 exact ⟨e1, e3, by rw [e3]; exact List.mem_append_right _ (List.mem_singleton.2 rfl)⟩
theorem w_go (s : List UInt8) (i st : Nat) (hi : i < s.length) (hst : st ≤ i) : (s.take i).drop st ++ List.take (((i : Int) + 1).toNat - i) (s.drop i) = (s.take (i + 1)).drop st := by
 rw [show ((i : Int) + 1).toNat - i = 1 by omega, List.take_succ_eq_append_getElem hi, List.drop_append_of_le_length (by rw [List.length_take]; omega), List.drop_eq_getElem_cons hi]
 rfl
theorem w_nil (s : List UInt8) (i : Nat) : [] = (s.take (i + 1)).drop (i + 1) := (List.drop_of_length_le (by rw [List.length_take]; omega)).symm
theorem mem_snoc {l : List (List UInt8)} {v : List UInt8} (h : ∀ w, List.Mem w l → ¬ w = []) (hv : ¬ v = []) : ∀ w, List.Mem w (l ++ [v]) → ¬ w = [] := fun w hw => by
 rcases List.mem_append.1 hw with h1 | h1
 ·exact h w h1
 ·rw [List.mem_singleton.1 h1]; exact hv
theorem s76 (s : List UInt8) (hs : s.length ≤ 100000) : symFun (ctx (fun _ => none) hpAnn) 3 76 [.str s] (.tup [.dat 82 (pD (okW s) (.list (strsD (piecesOf 32 s)))), .prop (okW s)]) := by
 rw [vc76]
 simp only [imp_false, Classical.not_not]
 have hcl : s.count 32 ≤ s.length := List.count_le_length
 have hP := pieces_len 32 s
 have tk : ∀ c, c ≤ s.count 32 + 1 → (strsD ((piecesOf 32 s).take c)).length = c := fun c hc => by rw [strs_len, List.length_take]; omega
 have tk' : ∀ c, c ≤ s.count 32 + 1 → List.take c (strsD ((piecesOf 32 s).take c)) = strsD ((piecesOf 32 s).take c) := fun c hc => take_all _ _ (by rw [tk c hc]; omega)
 have bad : ∀ {w : List UInt8}, w ∈ piecesOf 32 s → w = [] → D.nil = pD (okW s) (.list (strsD (piecesOf 32 s))) ∧ (false = true ↔ okW s) ∧ True := fun {w} hw he => by
  have hn : ¬ okW s := fun h => h.out w hw he
  exact ⟨pD_no _ hn, ⟨fun h => by simp at h, fun h => absurd h hn⟩, trivial⟩
 have meas : ∀ {i : Nat}, i ≤ s.length → s.length + 1 - (i + 1) < s.length + 1 - i := fun h => by omega
 have ext : ∀ {i st : Nat}, (∀ j, st ≤ j → j < i → ¬ byteAt s j = 32) → ¬ byteAt s i = 32 → ∀ j, st ≤ j → j < i + 1 → ¬ byteAt s j = 32 := fun {i st} hn hb j h1 h2 => by
  by_cases e : j = i
  ·subst e; exact hb
  ·exact hn j h1 (by omega)
 have lens : ∀ i st : Nat, (List.drop st (List.take i s)).length + (List.take (((i : Int) + 1).toNat - i) (List.drop i s)).length < 9223372036854775808 := fun i st => by
  rw [List.length_drop, List.length_take, List.length_take, List.length_drop]; omega
 refine ⟨.inl ⟨(0, 0, 0), ⟨.inl ⟨Nat.zero_le _, Nat.le_refl _, Nat.zero_le _, fun j _ h => absurd h (Nat.not_lt_zero _), rfl, fun w hw => absurd hw (List.not_mem_nil)⟩, rfl⟩, ⟨rfl, rfl, trivial, trivial⟩, trivial⟩, fun x ⟨hx, h0⟩ => ⟨by unfold LIM; omega, fun hle => ⟨fun hlt => ⟨by omega, hlt, fun hb => ?_, fun hb => ?_⟩, fun hlt => ?_⟩, fun hgt => ?_⟩, fun x ⟨hx, h0⟩ => ⟨by unfold LIM; omega, fun hle => ⟨fun hlt => ⟨by omega, hlt, fun hb => ?_, fun hb => ?_⟩, fun hlt => ?_⟩, fun hgt => ?_⟩⟩
 ·rcases hx with ⟨hi, hst, hc, hn, hd, hw⟩ | ⟨hi, _⟩
  ·refine ⟨⟨by omega, by omega⟩, by omega, by omega, by omega, lens _ _, ⟨by omega, by omega⟩, .inl ⟨(x.1 + 1, x.2.1, x.2.2), ⟨.inl ⟨by show x.1 + 1 ≤ s.length; omega, by show x.2.1 ≤ x.1 + 1; omega, hc, ext hn hb, hd, hw⟩, h0⟩, meas (by omega), ⟨by show (x.1 : Int) + 1 = ((x.1 + 1 : Nat) : Int); omega, w_go s x.1 x.2.1 (by omega) hst, trivial, trivial⟩, trivial⟩⟩
  ·omega
 ·rcases hx with ⟨hi, hst, hc, hn, hd, hw⟩ | ⟨hi, _⟩
  ·obtain ⟨u1, u2, u3, u4⟩ := w_cut (by omega) hst hn hd hb
   rw [h0] at u1 u2 u3
   refine ⟨fun he => bad u4 he, fun hne => ⟨Nat.le_refl 1, by decide, ⟨by omega, by omega⟩, .inr ⟨(x.1 + 1, x.1 + 1, 1), ⟨.inl ⟨by show x.1 + 1 ≤ s.length; omega, Nat.le_refl _, u1, fun j h1 h2 => absurd h2 (Nat.not_lt.2 h1), u2, ?_⟩, Nat.le_refl 1⟩, meas (by omega), ⟨by show (x.1 : Int) + 1 = ((x.1 + 1 : Nat) : Int); omega, w_nil _ _, ⟨by trivial, rfl, trivial⟩, trivial⟩, ?_, trivial⟩⟩⟩
   ·show ∀ w, List.Mem w (List.take (0 + 1) (piecesOf 32 s)) → ¬ w = []
    rw [u3]; exact mem_snoc (fun w hw => absurd hw (List.not_mem_nil)) hne
   ·show _ = strsD (List.take (0 + 1) (piecesOf 32 s))
    rw [u3]; rfl
  ·omega
 ·rcases hx with ⟨hi, hst, hc, hn, hd, hw⟩ | ⟨hi, _⟩
  ·obtain ⟨u1, u2, u3⟩ := w_end (by omega) hn hd
   rw [h0] at u1 u2
   refine ⟨fun he => bad u3 he, fun hne => ⟨Nat.le_refl 1, by decide, ⟨by omega, by omega⟩, .inr ⟨(x.1 + 1, x.1 + 1, 1), ⟨.inr ⟨by show x.1 + 1 = s.length + 1; omega, rfl, by show 1 = s.count 32 + 1; omega, ⟨fun w hw => ?_⟩⟩, Nat.le_refl 1⟩, meas (by omega), ⟨by show (x.1 : Int) + 1 = ((x.1 + 1 : Nat) : Int); omega, w_nil _ _, ⟨by trivial, rfl, trivial⟩, trivial⟩, ?_, trivial⟩⟩⟩
   ·rw [u2] at hw; exact mem_snoc (l := []) (fun w hw => absurd hw (List.not_mem_nil)) hne w hw
   ·show _ = strsD (List.take 1 (piecesOf 32 s))
    rw [take_all (piecesOf 32 s) 1 (by omega), u2]; rfl
  ·omega
 ·rcases hx with ⟨hi, _⟩ | ⟨hi, _, hc, _⟩ <;> omega
 ·rcases hx with ⟨hi, hst, hc, hn, hd, hw⟩ | ⟨hi, _⟩
  ·refine ⟨⟨by omega, by omega⟩, by omega, by omega, by omega, lens _ _, ⟨by omega, by omega⟩, .inr ⟨(x.1 + 1, x.2.1, x.2.2), ⟨.inl ⟨by show x.1 + 1 ≤ s.length; omega, by show x.2.1 ≤ x.1 + 1; omega, hc, ext hn hb, hd, hw⟩, h0⟩, meas (by omega), ⟨by show (x.1 : Int) + 1 = ((x.1 + 1 : Nat) : Int); omega, w_go s x.1 x.2.1 (by omega) hst, ⟨by trivial, rfl, trivial⟩, trivial⟩, rfl, trivial⟩⟩
  ·omega
 ·rcases hx with ⟨hi, hst, hc, hn, hd, hw⟩ | ⟨hi, _⟩
  ·obtain ⟨u1, u2, u3, u4⟩ := w_cut (by omega) hst hn hd hb
   refine ⟨fun he => bad u4 he, fun hne => ⟨Nat.le_refl 1, by rw [tk _ (by omega)]; omega, by omega, ⟨by omega, by omega⟩, .inr ⟨(x.1 + 1, x.1 + 1, x.2.2 + 1), ⟨.inl ⟨by show x.1 + 1 ≤ s.length; omega, Nat.le_refl _, u1, fun j h1 h2 => absurd h2 (Nat.not_lt.2 h1), u2, ?_⟩, by show 1 ≤ x.2.2 + 1; omega⟩, meas (by omega), ⟨by show (x.1 : Int) + 1 = ((x.1 + 1 : Nat) : Int); omega, w_nil _ _, ⟨by trivial, rfl, trivial⟩, trivial⟩, ?_, trivial⟩⟩⟩
   ·show ∀ w, List.Mem w (List.take (x.2.2 + 1) (piecesOf 32 s)) → ¬ w = []
    rw [u3]; exact mem_snoc hw hne
   ·show _ = strsD (List.take (x.2.2 + 1) (piecesOf 32 s))
    rw [u3, strs_app, tk' _ (by omega)]; rfl
  ·omega
 ·rcases hx with ⟨hi, hst, hc, hn, hd, hw⟩ | ⟨hi, _⟩
  ·obtain ⟨u1, u2, u3⟩ := w_end (by omega) hn hd
   refine ⟨fun he => bad u3 he, fun hne => ⟨Nat.le_refl 1, by rw [tk _ (by omega)]; omega, by omega, ⟨by omega, by omega⟩, .inr ⟨(x.1 + 1, x.1 + 1, x.2.2 + 1), ⟨.inr ⟨by show x.1 + 1 = s.length + 1; omega, rfl, by show x.2.2 + 1 = s.count 32 + 1; omega, ⟨fun w hw' => ?_⟩⟩, by show 1 ≤ x.2.2 + 1; omega⟩, meas (by omega), ⟨by show (x.1 : Int) + 1 = ((x.1 + 1 : Nat) : Int); omega, w_nil _ _, ⟨by trivial, rfl, trivial⟩, trivial⟩, ?_, trivial⟩⟩⟩
   ·rw [u2] at hw'; exact mem_snoc hw hne w hw'
   ·show _ = strsD (List.take (x.2.2 + 1) (piecesOf 32 s))
    rw [take_all (piecesOf 32 s) (x.2.2 + 1) (by omega), tk' _ (by omega)]
    conv => rhs; rw [u2]
    rw [strs_app]; rfl
  ·omega
 ·rcases hx with ⟨hi, _⟩ | ⟨hi, _, hc, hok⟩
  ·omega
  ·refine ⟨⟨by rw [tk _ (by omega)]; omega, ?_⟩, ⟨fun _ => hok, fun _ => by trivial⟩, trivial⟩
   rw [pD_yes _ hok, tk' _ (by omega), take_all (piecesOf 32 s) _ (by omega)]
end Go.Ev

end
