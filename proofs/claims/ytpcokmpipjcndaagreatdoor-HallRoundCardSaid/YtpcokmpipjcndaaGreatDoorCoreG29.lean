/-
  Part of the engine that the claim is proved with: it states nothing of the document by itself.
-/
import Derived.Test.YtpcokmpipjcndaaGreatDoorCoreG28

section
open Go.Proofs
namespace Go.Ev
open Classical in
noncomputable def fmtD (l : D) : List UInt8 := if (badZ l).2 = 0 then fmtL l l.len else []
noncomputable def con65 : Con := fun | [.dat 25 l] => some (smallD l, .tup [.int .i64 (badZ l).1, .int .i64 (badZ l).2]) | _ => none
noncomputable def con7 : Con := fun | [.dat 24 l] => some (codesP l, .dat 25 (madeD l)) | _ => none
noncomputable def con8 : Con := fun | [.dat 25 l] => some (smallD l, .str (fmtD l)) | _ => none
noncomputable def con11 : Con := fun | [.str s, .val (.string b)] => cond (isNl b) (some (s.length ≤ 100000, .int .i64 (s.count 10 : Nat))) none | _ => none
noncomputable def con4 : Con := fun | [.dat 24 l, .str _] => some (codesP l, .prop True) | _ => none
noncomputable def hr1 : FuncId → Option Con
 | 65 => some con65
 | 25 => some con25
 | 11 => some con11
 | g => hp3 g
noncomputable def hr2 : FuncId → Option Con
 | 7 => some con7
 | 8 => some con8
 | 9 => some con9
 | g => hr1 g
noncomputable def bkRow (S : SS) (b o r : Nat) : Nat := match bkV S b o with | .slc b _ _ _ => b | _ => r
noncomputable def slRow (S : SS) (t : Tmp) : Nat := match S.fr.get t with | some (.slc b _ _ _) => b | _ => 0
noncomputable def bldBox (r n : Nat) : SB := .box 59 [.ptr 0 0, .slc r (.lit 0) (.sym n) none]
noncomputable def bldRow (s : List UInt8) : SB := .arr 5 (strD s)
noncomputable def hrAnn : FuncId → Nat → Option Ann
 | 65, 4 => some { τ := Nat, slots := fun _ _ x => [(12, .int .i64 x)], blks := fun _ _ _ => [], inv := fun S _ x => x ≤ (slD S 0).len ∧ ∀ j, j < x → err1 (slD S 0) j = 0, meas := fun S _ x => (slD S 0).len - x }
 | 7, 3 => some { hs := 2, τ := Nat, slots := fun _ i x => match i with | 0 => [(13, .int .i64 0), (3, .val (.slice none 0 0))] | _ => [(13, .int .i64 x), (3, .slc 60 (.lit 0) (.sym x) none)],
                   blks := fun S i x => match i with | 0 => [] | _ => [(60, .arr 39 (madeL (slD S 0) x))], inv := fun S i x => match i with | 0 => x = 0 | _ => 0 < x ∧ x ≤ min (slD S 0).len 16, meas := fun _ _ x => 16 - x }
 | 8, 5 => some { hs := 2, τ := Nat, slots := fun _ i x => match i with | 0 => [(13, .int .i64 0)] | _ => [(13, .int .i64 x)],
                   blks := fun S i x => match i with | 0 => [(0, .box 59 [.val (.pointer none), .val (.slice none 0 0)])] | _ => [(0, bldBox 60 (fmtL (slD S 0) x).length), (60, bldRow (fmtL (slD S 0) x))],
                   inv := fun S i x => match i with | 0 => x = 0 | _ => 0 < x ∧ x ≤ (slD S 0).len, meas := fun S _ x => (slD S 0).len - x }
 | 8, 9 => some { τ := Nat, slots := fun _ _ j => [(39, .int .i64 j)],
                   blks := fun S _ j => [(0, .box 59 [.ptr 0 0, .slc (bkRow S 0 1 70) (.lit 0) (.sym ((bkL S (bkRow S 0 1 70)).length + (numsB (bkL S (slRow S 37)) j).length)) none]), (bkRow S 0 1 70, .arr 5 (bkL S (bkRow S 0 1 70) ++ strD (numsB (bkL S (slRow S 37)) j)))],
                   inv := fun S _ j => j ≤ (bkL S (slRow S 37)).length, meas := fun S _ j => (bkL S (slRow S 37)).length - j }
 | _, _ => none
noncomputable def hrJoin : FuncId → Nat → Option Ann
 | 8, 8 => some { τ := Unit, slots := fun _ _ _ => [],
                   blks := fun S _ _ => [(0, bldBox (bkRow S 0 1 70) (fmtL (slD S 0) (slI S 13).toNat ++ lineB (el (slD S 0) (slI S 13).toNat)).length), (bkRow S 0 1 70, bldRow (fmtL (slD S 0) (slI S 13).toNat ++ lineB (el (slD S 0) (slI S 13).toNat)))],
                   inv := fun _ _ _ => True, meas := fun _ _ _ => 0 }
 | _, _ => none
noncomputable def ctxJ (con : FuncId → Option Con) : Ctx := { ctx con hrAnn with join := hrJoin }
end Go.Ev

end

section
open Go.Proofs
namespace Go.Ev
set_option maxRecDepth 100000
set_option maxHeartbeats 4000000
theorem vc65 : ∀ (l : D), symFun (ctx hp3 hrAnn) (3 : Nat) (65 : FuncId) [V.dat (25 : TypeId) l] (V.tup [V.int IntKind.i64 (badZ l).fst, V.int IntKind.i64 (badZ l).snd]) = (((16 : Int) < (↑l.len :
 Int) → (0 : Int) = (badZ l).fst ∧ (7 : Int) = (badZ l).snd ∧ True) ∧ (((16 : Int) < (↑l.len : Int) → False) → (∃ (x : Nat), (x ≤ l.len ∧ ∀ (j : Nat), j < x → err1 l j = (0 : Int)) ∧ ((0 : Int) = (↑x :
 Int) ∧ True) ∧ True) ∧ ∀ (x : Nat), (x ≤ l.len ∧ ∀ (j : Nat), j < x → err1 l j = (0 : Int)) → l.len - x < LIM ∧ ((↑x : Int) < (↑l.len : Int) → (0 : Int) ≤ (↑x : Int) ∧ (↑x : Int) < (↑l.len : Int) ∧ (0
 : Int) ≤ (0 : Int) ∧ (0 : Int) ≤ (↑x : Int) ∧ (↑x : Int) ≤ (↑l.len : Int) ∧ ((l.sub (0 : Nat) x).len ≤ (100 : Nat) ∧ (tOpen (el l x)).len ≤ (100000 : Nat)) ∧ ((nextZ (l.sub (0 : Nat) x) (tName (el l
 x)) (tShape (el l x)) (tA (el l x)) (tB (el l x)) (tOpen (el l x)) (tX (el l x)) (tY (el l x)) = (0 : Int) → False) → (↑x : Int) = (badZ l).fst ∧ nextZ (l.sub (0 : Nat) x) (tName (el l x)) (tShape (el
 l x)) (tA (el l x)) (tB (el l x)) (tOpen (el l x)) (tX (el l x)) (tY (el l x)) = (badZ l).snd ∧ True) ∧ (((nextZ (l.sub (0 : Nat) x) (tName (el l x)) (tShape (el l x)) (tA (el l x)) (tB (el l x))
 (tOpen (el l x)) (tX (el l x)) (tY (el l x)) = (0 : Int) → False) → False) → ((-9223372036854775808 : Int) ≤ (↑x : Int) + (1 : Int) ∧ (↑x : Int) + (1 : Int) < (9223372036854775808 : Int)) ∧ ∃ (y :
 Nat), (y ≤ l.len ∧ ∀ (j : Nat), j < y → err1 l j = (0 : Int)) ∧ l.len - y < l.len - x ∧ ((↑x : Int) + (1 : Int) = (↑y : Int) ∧ True) ∧ True)) ∧ (((↑x : Int) < (↑l.len : Int) → False) → (0 : Int) =
 (badZ l).fst ∧ (0 : Int) = (badZ l).snd ∧ True))) := by intros; kernel_rfl
theorem vc11 : ∀ (s : List UInt8), symFun (ctx (fun _ => none) hrAnn) (8 : Nat) (11 : FuncId) [V.str s, V.val (Value.string (ByteArray.mk #[(10 : UInt8)]))] (V.int IntKind.i64 (↑(List.count (10 :
 UInt8) s) : Int)) = ((0 : Int) ≤ (0 : Int) ∧ (0 : Int) < (↑[(10 : UInt8)].length : Int) ∧ (0 : Int) ≤ byteAt [(10 : UInt8)] (Int.toNat (0 : Int)) ∧ countZ s (UInt8.ofNat (byteAt [(10 : UInt8)]
 (Int.toNat (0 : Int))).toNat) = (↑(List.count (10 : UInt8) s) : Int)) := by intros; kernel_rfl
theorem vc7 : ∀ (l : D), symFun (ctx hr1 hrAnn) (5 : Nat) (7 : FuncId) [V.dat (24 : TypeId) l] (V.dat (25 : TypeId) (madeD l)) = ((0 : Int) ≤ (0 : Int) ∧ ((0 : Int) ≤ bif false then max (↑l.len : Int)
 (16 : Int) else min (↑l.len : Int) (16 : Int)) ∧ (bif false then max (↑l.len : Int) (16 : Int) else min (↑l.len : Int) (16 : Int)) ≤ (↑l.len : Int) ∧ ((∃ (x : Nat), x = (0 : Nat) ∧ ((0 : Int) = (0 :
 Int) ∧ True ∧ True) ∧ True) ∨ ∃ (x : Nat), ((0 : Nat) < x ∧ x ≤ min l.len (16 : Nat)) ∧ ((0 : Int) = (↑x : Int) ∧ False ∧ True) ∧ False ∧ True) ∧ (∀ (x : Nat), x = (0 : Nat) → (16 : Nat) - x < LIM ∧
 ((0 : Int) < (↑(l.sub (0 : Nat) (bif false then max (↑l.len : Int) (16 : Int) else min (↑l.len : Int) (16 : Int)).toNat).len : Int) → (0 : Int) ≤ (0 : Int) ∧ (0 : Int) < (↑(l.sub (0 : Nat) (bif false
 then max (↑l.len : Int) (16 : Int) else min (↑l.len : Int) (16 : Int)).toNat).len : Int) ∧ ((-9223372036854775808 : Int) ≤ (97 : Int) + (0 : Int) ∧ (97 : Int) + (0 : Int) < (9223372036854775808 :
 Int)) ∧ (0 : Nat) + (1 : Nat) ≤ [D.int (IntKind.u8.wrap ((97 : Int) + (0 : Int)))].length ∧ byteL (List.take (1 : Nat) [D.int (IntKind.u8.wrap ((97 : Int) + (0 : Int)))]) ∧ (byteP ((el (l.sub (0 :
 Nat) (bif false then max (↑l.len : Int) (16 : Int) else min (↑l.len : Int) (16 : Int)).toNat) (Int.toNat (0 : Int))).fld (0 : Nat)).asInt ∧ byteP (tShape (el (l.sub (0 : Nat) (bif false then max
 (↑l.len : Int) (16 : Int) else min (↑l.len : Int) (16 : Int)).toNat) (Int.toNat (0 : Int)))) ∧ byteP (tA (el (l.sub (0 : Nat) (bif false then max (↑l.len : Int) (16 : Int) else min (↑l.len : Int) (16
 : Int)).toNat) (Int.toNat (0 : Int)))) ∧ bytesP ((el (l.sub (0 : Nat) (bif false then max (↑l.len : Int) (16 : Int) else min (↑l.len : Int) (16 : Int)).toNat) (Int.toNat (0 : Int))).fld (3 : Nat))) ∧
 ((-9223372036854775808 : Int) ≤ (7 : Int) * (0 : Int) ∧ (7 : Int) * (0 : Int) < (9223372036854775808 : Int)) ∧ ((-9223372036854775808 : Int) ≤ (100 : Int) - (0 : Int) ∧ (100 : Int) - (0 : Int) <
 (9223372036854775808 : Int)) ∧ (0 : Nat) + (1 : Nat) ≤ [D.sct [D.str (bytesD (List.take (1 : Nat) [D.int (IntKind.u8.wrap ((97 : Int) + (0 : Int)))])), D.int (mSh ((el (l.sub (0 : Nat) (bif false then
 max (↑l.len : Int) (16 : Int) else min (↑l.len : Int) (16 : Int)).toNat) (Int.toNat (0 : Int))).fld (0 : Nat)).asInt), D.int (mA ((el (l.sub (0 : Nat) (bif false then max (↑l.len : Int) (16 : Int)
 else min (↑l.len : Int) (16 : Int)).toNat) (Int.toNat (0 : Int))).fld (0 : Nat)).asInt (tShape (el (l.sub (0 : Nat) (bif false then max (↑l.len : Int) (16 : Int) else min (↑l.len : Int) (16 :
 Int)).toNat) (Int.toNat (0 : Int))))), D.int (mB ((el (l.sub (0 : Nat) (bif false then max (↑l.len : Int) (16 : Int) else min (↑l.len : Int) (16 : Int)).toNat) (Int.toNat (0 : Int))).fld (0 :
 Nat)).asInt (tShape (el (l.sub (0 : Nat) (bif false then max (↑l.len : Int) (16 : Int) else min (↑l.len : Int) (16 : Int)).toNat) (Int.toNat (0 : Int)))) (tA (el (l.sub (0 : Nat) (bif false then max
 (↑l.len : Int) (16 : Int) else min (↑l.len : Int) (16 : Int)).toNat) (Int.toNat (0 : Int))))), openD ((el (l.sub (0 : Nat) (bif false then max (↑l.len : Int) (16 : Int) else min (↑l.len : Int) (16 :
 Int)).toNat) (Int.toNat (0 : Int))).fld (3 : Nat)) (mN ((el (l.sub (0 : Nat) (bif false then max (↑l.len : Int) (16 : Int) else min (↑l.len : Int) (16 : Int)).toNat) (Int.toNat (0 : Int))).fld (0 :
 Nat)).asInt (tShape (el (l.sub (0 : Nat) (bif false then max (↑l.len : Int) (16 : Int) else min (↑l.len : Int) (16 : Int)).toNat) (Int.toNat (0 : Int)))) (tA (el (l.sub (0 : Nat) (bif false then max
 (↑l.len : Int) (16 : Int) else min (↑l.len : Int) (16 : Int)).toNat) (Int.toNat (0 : Int))))), D.int ((7 : Int) * (0 : Int)), D.int ((100 : Int) - (0 : Int))]].length ∧ (1 : Nat) ≤ (16777216 : Nat) ∧
 ((-9223372036854775808 : Int) ≤ (0 : Int) + (1 : Int) ∧ (0 : Int) + (1 : Int) < (9223372036854775808 : Int)) ∧ ((∃ (y : Nat), y = (0 : Nat) ∧ (16 : Nat) - y < (16 : Nat) - x ∧ ((0 : Int) + (1 : Int) =
 (0 : Int) ∧ False ∧ True) ∧ True) ∨ ∃ (y : Nat), ((0 : Nat) < y ∧ y ≤ min l.len (16 : Nat)) ∧ (16 : Nat) - y < (16 : Nat) - x ∧ ((0 : Int) + (1 : Int) = (↑y : Int) ∧ ((0 : Nat) = (0 : Nat) ∧ (1 : Nat)
 = y ∧ True) ∧ True) ∧ List.take (1 : Nat) [D.sct [D.str (bytesD (List.take (1 : Nat) [D.int (IntKind.u8.wrap ((97 : Int) + (0 : Int)))])), D.int (mSh ((el (l.sub (0 : Nat) (bif false then max (↑l.len
 : Int) (16 : Int) else min (↑l.len : Int) (16 : Int)).toNat) (Int.toNat (0 : Int))).fld (0 : Nat)).asInt), D.int (mA ((el (l.sub (0 : Nat) (bif false then max (↑l.len : Int) (16 : Int) else min
 (↑l.len : Int) (16 : Int)).toNat) (Int.toNat (0 : Int))).fld (0 : Nat)).asInt (tShape (el (l.sub (0 : Nat) (bif false then max (↑l.len : Int) (16 : Int) else min (↑l.len : Int) (16 : Int)).toNat)
 (Int.toNat (0 : Int))))), D.int (mB ((el (l.sub (0 : Nat) (bif false then max (↑l.len : Int) (16 : Int) else min (↑l.len : Int) (16 : Int)).toNat) (Int.toNat (0 : Int))).fld (0 : Nat)).asInt (tShape
 (el (l.sub (0 : Nat) (bif false then max (↑l.len : Int) (16 : Int) else min (↑l.len : Int) (16 : Int)).toNat) (Int.toNat (0 : Int)))) (tA (el (l.sub (0 : Nat) (bif false then max (↑l.len : Int) (16 :
 Int) else min (↑l.len : Int) (16 : Int)).toNat) (Int.toNat (0 : Int))))), openD ((el (l.sub (0 : Nat) (bif false then max (↑l.len : Int) (16 : Int) else min (↑l.len : Int) (16 : Int)).toNat)
 (Int.toNat (0 : Int))).fld (3 : Nat)) (mN ((el (l.sub (0 : Nat) (bif false then max (↑l.len : Int) (16 : Int) else min (↑l.len : Int) (16 : Int)).toNat) (Int.toNat (0 : Int))).fld (0 : Nat)).asInt
 (tShape (el (l.sub (0 : Nat) (bif false then max (↑l.len : Int) (16 : Int) else min (↑l.len : Int) (16 : Int)).toNat) (Int.toNat (0 : Int)))) (tA (el (l.sub (0 : Nat) (bif false then max (↑l.len :
 Int) (16 : Int) else min (↑l.len : Int) (16 : Int)).toNat) (Int.toNat (0 : Int))))), D.int ((7 : Int) * (0 : Int)), D.int ((100 : Int) - (0 : Int))]] = madeL l y ∧ True)) ∧ (((0 : Int) < (↑(l.sub (0 :
 Nat) (bif false then max (↑l.len : Int) (16 : Int) else min (↑l.len : Int) (16 : Int)).toNat).len : Int) → False) → D.nil = madeD l)) ∧ ∀ (x : Nat), (0 : Nat) < x ∧ x ≤ min l.len (16 : Nat) → (16 :
 Nat) - x < LIM ∧ ((↑x : Int) < (↑(l.sub (0 : Nat) (bif false then max (↑l.len : Int) (16 : Int) else min (↑l.len : Int) (16 : Int)).toNat).len : Int) → (0 : Int) ≤ (↑x : Int) ∧ (↑x : Int) < (↑(l.sub
 (0 : Nat) (bif false then max (↑l.len : Int) (16 : Int) else min (↑l.len : Int) (16 : Int)).toNat).len : Int) ∧ ((-9223372036854775808 : Int) ≤ (97 : Int) + (↑x : Int) ∧ (97 : Int) + (↑x : Int) <
 (9223372036854775808 : Int)) ∧ (0 : Nat) + (1 : Nat) ≤ [D.int (IntKind.u8.wrap ((97 : Int) + (↑x : Int)))].length ∧ byteL (List.take (1 : Nat) [D.int (IntKind.u8.wrap ((97 : Int) + (↑x : Int)))]) ∧
 (byteP ((el (l.sub (0 : Nat) (bif false then max (↑l.len : Int) (16 : Int) else min (↑l.len : Int) (16 : Int)).toNat) x).fld (0 : Nat)).asInt ∧ byteP (tShape (el (l.sub (0 : Nat) (bif false then max
 (↑l.len : Int) (16 : Int) else min (↑l.len : Int) (16 : Int)).toNat) x)) ∧ byteP (tA (el (l.sub (0 : Nat) (bif false then max (↑l.len : Int) (16 : Int) else min (↑l.len : Int) (16 : Int)).toNat) x)) ∧
 bytesP ((el (l.sub (0 : Nat) (bif false then max (↑l.len : Int) (16 : Int) else min (↑l.len : Int) (16 : Int)).toNat) x).fld (3 : Nat))) ∧ ((-9223372036854775808 : Int) ≤ (7 : Int) * (↑x : Int) ∧ (7 :
 Int) * (↑x : Int) < (9223372036854775808 : Int)) ∧ ((-9223372036854775808 : Int) ≤ (100 : Int) - (↑x : Int) ∧ (100 : Int) - (↑x : Int) < (9223372036854775808 : Int)) ∧ (0 : Nat) + (1 : Nat) ≤ [D.sct
 [D.str (bytesD (List.take (1 : Nat) [D.int (IntKind.u8.wrap ((97 : Int) + (↑x : Int)))])), D.int (mSh ((el (l.sub (0 : Nat) (bif false then max (↑l.len : Int) (16 : Int) else min (↑l.len : Int) (16 :
 Int)).toNat) x).fld (0 : Nat)).asInt), D.int (mA ((el (l.sub (0 : Nat) (bif false then max (↑l.len : Int) (16 : Int) else min (↑l.len : Int) (16 : Int)).toNat) x).fld (0 : Nat)).asInt (tShape (el
 (l.sub (0 : Nat) (bif false then max (↑l.len : Int) (16 : Int) else min (↑l.len : Int) (16 : Int)).toNat) x))), D.int (mB ((el (l.sub (0 : Nat) (bif false then max (↑l.len : Int) (16 : Int) else min
 (↑l.len : Int) (16 : Int)).toNat) x).fld (0 : Nat)).asInt (tShape (el (l.sub (0 : Nat) (bif false then max (↑l.len : Int) (16 : Int) else min (↑l.len : Int) (16 : Int)).toNat) x)) (tA (el (l.sub (0 :
 Nat) (bif false then max (↑l.len : Int) (16 : Int) else min (↑l.len : Int) (16 : Int)).toNat) x))), openD ((el (l.sub (0 : Nat) (bif false then max (↑l.len : Int) (16 : Int) else min (↑l.len : Int)
 (16 : Int)).toNat) x).fld (3 : Nat)) (mN ((el (l.sub (0 : Nat) (bif false then max (↑l.len : Int) (16 : Int) else min (↑l.len : Int) (16 : Int)).toNat) x).fld (0 : Nat)).asInt (tShape (el (l.sub (0 :
 Nat) (bif false then max (↑l.len : Int) (16 : Int) else min (↑l.len : Int) (16 : Int)).toNat) x)) (tA (el (l.sub (0 : Nat) (bif false then max (↑l.len : Int) (16 : Int) else min (↑l.len : Int) (16 :
 Int)).toNat) x))), D.int ((7 : Int) * (↑x : Int)), D.int ((100 : Int) - (↑x : Int))]].length ∧ (0 : Nat) + x ≤ (madeL l x).length ∧ x + (1 : Nat) ≤ (16777216 : Nat) ∧ ((-9223372036854775808 : Int) ≤
 (↑x : Int) + (1 : Int) ∧ (↑x : Int) + (1 : Int) < (9223372036854775808 : Int)) ∧ ((∃ (y : Nat), y = (0 : Nat) ∧ (16 : Nat) - y < (16 : Nat) - x ∧ ((↑x : Int) + (1 : Int) = (0 : Int) ∧ False ∧ True) ∧
 True) ∨ ∃ (y : Nat), ((0 : Nat) < y ∧ y ≤ min l.len (16 : Nat)) ∧ (16 : Nat) - y < (16 : Nat) - x ∧ ((↑x : Int) + (1 : Int) = (↑y : Int) ∧ ((0 : Nat) = (0 : Nat) ∧ x + (1 : Nat) = y ∧ True) ∧ True) ∧
 List.take x (madeL l x) ++ List.take (1 : Nat) [D.sct [D.str (bytesD (List.take (1 : Nat) [D.int (IntKind.u8.wrap ((97 : Int) + (↑x : Int)))])), D.int (mSh ((el (l.sub (0 : Nat) (bif false then max
 (↑l.len : Int) (16 : Int) else min (↑l.len : Int) (16 : Int)).toNat) x).fld (0 : Nat)).asInt), D.int (mA ((el (l.sub (0 : Nat) (bif false then max (↑l.len : Int) (16 : Int) else min (↑l.len : Int) (16
 : Int)).toNat) x).fld (0 : Nat)).asInt (tShape (el (l.sub (0 : Nat) (bif false then max (↑l.len : Int) (16 : Int) else min (↑l.len : Int) (16 : Int)).toNat) x))), D.int (mB ((el (l.sub (0 : Nat) (bif
 false then max (↑l.len : Int) (16 : Int) else min (↑l.len : Int) (16 : Int)).toNat) x).fld (0 : Nat)).asInt (tShape (el (l.sub (0 : Nat) (bif false then max (↑l.len : Int) (16 : Int) else min (↑l.len
 : Int) (16 : Int)).toNat) x)) (tA (el (l.sub (0 : Nat) (bif false then max (↑l.len : Int) (16 : Int) else min (↑l.len : Int) (16 : Int)).toNat) x))), openD ((el (l.sub (0 : Nat) (bif false then max
 (↑l.len : Int) (16 : Int) else min (↑l.len : Int) (16 : Int)).toNat) x).fld (3 : Nat)) (mN ((el (l.sub (0 : Nat) (bif false then max (↑l.len : Int) (16 : Int) else min (↑l.len : Int) (16 :
 Int)).toNat) x).fld (0 : Nat)).asInt (tShape (el (l.sub (0 : Nat) (bif false then max (↑l.len : Int) (16 : Int) else min (↑l.len : Int) (16 : Int)).toNat) x)) (tA (el (l.sub (0 : Nat) (bif false then
 max (↑l.len : Int) (16 : Int) else min (↑l.len : Int) (16 : Int)).toNat) x))), D.int ((7 : Int) * (↑x : Int)), D.int ((100 : Int) - (↑x : Int))]] = madeL l y ∧ True)) ∧ (((↑x : Int) < (↑(l.sub (0 :
 Nat) (bif false then max (↑l.len : Int) (16 : Int) else min (↑l.len : Int) (16 : Int)).toNat).len : Int) → False) → (0 : Nat) + x ≤ (madeL l x).length ∧ D.list (List.take x (madeL l x)) = madeD l)) := by intros; kernel_rfl
theorem vc4 : ∀ (l : D) (s : List UInt8), symFun (ctx hr2 hrAnn) (4 : Nat) (4 : FuncId) [V.dat (24 : TypeId) l, V.str s] (V.prop True) = (codesP l ∧ smallD (madeD l) ∧ True ∧ (((parE (fmtD (madeD l))
 = (0 : Int) → False) → False) → (((parL (fmtD (madeD l)) = (0 : Int) → False) → False) → smallD (parD (fmtD (madeD l))) ∧ (((sameAll (parD (fmtD (madeD l))) (madeD l) → False) → False) → (fmtD (madeD
 l)).length ≤ (100000 : Nat) ∧ (((↑(List.count (10 : UInt8) (fmtD (madeD l))) : Int) = (↑(madeD l).len : Int) → False) → (false = true ↔ True)) ∧ ((((↑(List.count (10 : UInt8) (fmtD (madeD l))) : Int)
 = (↑(madeD l).len : Int) → False) → False) → ((4000 : Int) < (↑s.length : Int) → (true = true ↔ True)) ∧ (((4000 : Int) < (↑s.length : Int) → False) → True ∧ ((parE s = (0 : Int) → False) → ((↑(parD
 s).len : Int) = (0 : Int) → ((0 : Int) ≤ parL s → s.length ≤ (100000 : Nat) ∧ (parL s ≤ (↑(List.count (10 : UInt8) s) : Int) → (true = true ↔ True)) ∧ ((parL s ≤ (↑(List.count (10 : UInt8) s) : Int) →
 False) → (false = true ↔ True))) ∧ (((0 : Int) ≤ parL s → False) → (false = true ↔ True))) ∧ (((↑(parD s).len : Int) = (0 : Int) → False) → (false = true ↔ True))) ∧ (((parE s = (0 : Int) → False) →
 False) → smallD (parD s) ∧ (fmtD (parD s) = s → (parL s = (0 : Int) → (true = true ↔ True)) ∧ ((parL s = (0 : Int) → False) → (false = true ↔ True))) ∧ ((fmtD (parD s) = s → False) → (false = true ↔
 True)))))) ∧ ((sameAll (parD (fmtD (madeD l))) (madeD l) → False) → (false = true ↔ True))) ∧ ((parL (fmtD (madeD l)) = (0 : Int) → False) → (false = true ↔ True))) ∧ ((parE (fmtD (madeD l)) = (0 :
 Int) → False) → (false = true ↔ True))) := by intros; kernel_rfl
theorem next_err1 (l : D) (x : Nat) (hx : x ≤ l.len) : nextZ (l.sub 0 x) (tName (el l x)) (tShape (el l x)) (tA (el l x)) (tB (el l x)) (tOpen (el l x)) (tX (el l x)) (tY (el l x)) = err1 l x := by
 have e : errZ (tName (el l x)) (tShape (el l x)) (tA (el l x)) (tB (el l x)) (tOpen (el l x)) (tX (el l x)) (tY (el l x)) = errT (el l x) := rfl
 have ht : twiceN (l.sub 0 x) (tName (el l x)) ↔ twiceP l x := by
  constructor
  ·intro h
   obtain ⟨k, h1, h2⟩ := h.out
   rw [subLen l x hx] at h1
   rw [subEl l x k h1] at h2
   exact ⟨k, h1, h2⟩
  ·intro h
   obtain ⟨k, h1, h2⟩ := h.out
   exact ⟨k, by rw [subLen l x hx]; exact h1, by rw [subEl l x k h1]; exact h2⟩
 unfold nextZ err1
 rw [e]
 by_cases h1 : errT (el l x) = 0
 ·by_cases h2 : twiceP l x
  ·have h3 := ht.2 h2
   simp [h1, h2, h3]
  ·have h3 : ¬ twiceN (l.sub 0 x) (tName (el l x)) := fun h => h2 (ht.1 h)
   simp [h1, h2, h3]
 ·simp [h1]
theorem scanZ_stop (l : D) (k : Nat) (hk : ∀ j, j < k → err1 l j = 0) (he : err1 l k ≠ 0) : ∀ f i, i ≤ k → k < i + f → scanZ l f i = ((k : Int), err1 l k)
 | 0, i, h1, h2 => by omega
 | f + 1, i, h1, h2 => by
  unfold scanZ
  by_cases e : i = k
  ·subst e; rw [if_pos he]
  ·rw [if_neg fun h => h (hk i (by omega))]; exact scanZ_stop l k hk he f (i + 1) (by omega) (by omega)
theorem s65 (l : D) (h : smallD l) : symFun (ctx hp3 hrAnn) 3 65 [.dat 25 l] (.tup [.int .i64 (badZ l).1, .int .i64 (badZ l).2]) := by
 rw [vc65]
 obtain ⟨h1, h2⟩ := h.out
 refine ⟨fun h => by unfold badZ; rw [if_pos (by omega)]; exact ⟨rfl, rfl, trivial⟩, fun h => ?_⟩
 have h : ¬ (16 : Int) < l.len := h
 have eb : badZ l = scanZ l l.len 0 := by unfold badZ; rw [if_neg (by omega)]
 refine ⟨⟨0, ⟨Nat.zero_le _, fun j hj => absurd hj (Nat.not_lt_zero _)⟩, ⟨rfl, trivial⟩, trivial⟩, fun x ⟨hx, hinv⟩ => ⟨by unfold LIM; omega, fun hlt => ?_, fun hge => ?_⟩⟩
 ·rw [next_err1 l x hx]
  refine ⟨by omega, hlt, by omega, by omega, by omega, ⟨by rw [subLen l x hx]; omega, h2 x (by omega)⟩, fun he => ?_, fun he => ⟨⟨by omega, by omega⟩, x + 1, ⟨by omega, fun j hj => ?_⟩, by omega, ⟨by omega, trivial⟩, trivial⟩⟩
  ·rw [eb, scanZ_stop l x hinv he l.len 0 (Nat.zero_le _) (by omega)]; exact ⟨rfl, rfl, trivial⟩
  ·by_cases e : j = x
   ·subst e; exact Classical.not_not.1 he
   ·exact hinv j (by omega)
 ·have hge : ¬ (x : Int) < l.len := hge
  rw [eb, scan_zero0 l (fun k hk => hinv k (by omega)) l.len 0 (by omega)]; exact ⟨rfl, rfl, trivial⟩
theorem s11 (s : List UInt8) : symFun (ctx (fun _ => none) hrAnn) 8 11 [.str s, .val (.string ⟨#[10]⟩)] (.int .i64 (s.count 10 : Nat)) := by
 rw [vc11]
 exact ⟨by omega, by decide, by decide, rfl⟩
theorem take_one {α : Type} (a : α) : List.take 1 [a] = [a] := rfl
theorem s7 (l : D) (h : codesP l) : symFun (ctx hr1 hrAnn) 5 7 [.dat 24 l] (.dat 25 (madeD l)) := by
 rw [vc7]
 have hq : (min (↑l.len : Int) 16).toNat = min l.len 16 := by omega
 have hsl : (l.sub 0 (min l.len 16)).len = min l.len 16 := subLen _ _ (by omega)
 simp only [cond_false, hq, hsl, imp_false, take_one, List.length_singleton, madeL_len, and_true, true_and, and_false, false_and, or_false, false_or, exists_false, List.take_of_length_le (Nat.le_of_eq (madeL_len l _))]
 refine ⟨by omega, by omega, by omega, ⟨0, rfl⟩, fun x hx0 => ?_, fun x hx => ?_⟩
 ·subst hx0
  refine ⟨by unfold LIM; omega, fun hlt => ?_, fun hge => ?_⟩
  ·have hc := (h.out 0 (by omega)).out
   rw [show Int.toNat 0 = 0 from rfl, subEl _ _ _ (show 0 < min l.len 16 by omega), wrap8 (by omega) (by omega)]
   exact ⟨by omega, hlt, by omega, by omega, byteL_one (by omega) (by omega), hc, by omega, by omega, by omega, by omega, by omega, 1, by omega, by omega, ⟨by omega, rfl⟩, rfl⟩
  ·unfold madeD
   rw [show min l.len 16 = 0 by omega]; rfl
 ·refine ⟨by unfold LIM; omega, fun hlt => ?_, fun hge => ?_⟩
  ·have hc := (h.out x (by omega)).out
   rw [subEl _ _ _ (show x < min l.len 16 by omega), wrap8 (by omega) (by omega), bytes_one]
   exact ⟨by omega, hlt, by omega, by omega, byteL_one (by omega) (by omega), hc, by omega, by omega, by omega, by omega, by omega, by omega, x + 1, by omega, by omega, ⟨by omega, rfl⟩, (madeL_succ l x).symm⟩
  ·refine ⟨by omega, ?_⟩
   have e : x = min l.len 16 := by omega
   unfold madeD
   rw [← e, listD_ne (by rw [madeL_len]; omega)]
theorem scan_fst (s : List UInt8) : ∀ f i, 0 ≤ (scanP s f i).1 ∧ ((scanP s f i).2 ≠ 0 → (scanP s f i).1 < i + f)
 | 0, i => ⟨Int.le_refl _, fun h => absurd rfl h⟩
 | f + 1, i => by
  unfold scanP
  split
  ·exact ⟨by show (0 : Int) ≤ (i : Int); omega, fun _ => by show (i : Int) < (i : Int) + ((f + 1 : Nat) : Int); omega⟩
  ·have := scan_fst s f (i + 1)
   exact ⟨this.1, fun h => by have := this.2 h; omega⟩
theorem par_line (s : List UInt8) : 0 ≤ parL s ∧ parL s ≤ (s.count 10 : Nat) := by
 unfold parL endP
 split
 ·exact ⟨Int.le_refl _, by omega⟩
 ·have h := scan_fst s (nLines s) 0
  refine ⟨h.1, ?_⟩
  by_cases he : (scanP s (nLines s) 0).2 = 0
  ·have := scan_zero s (nLines s) 0 he
   have e := scan_end s (nLines s) 0 this
   rw [e]; show (0 : Int) ≤ _; omega
  ·have h2 := h.2 he
   have hle : nLines s ≤ s.count 10 + 1 := by
    by_cases hl : lastE s
    ·rw [nL_last hl]; omega
    ·rw [nL_not hl]; exact Nat.le_refl _
   omega
theorem par_nil {s : List UInt8} (h : parE s ≠ 0) : parD s = .nil := by
 unfold parE at h
 unfold parD
 split
 ·rfl
 ·rename_i h1
  rw [if_neg h1] at h
  rw [if_pos h]
theorem sl4 (l : D) (s : List UInt8) (h : codesP l) : symFun (ctx hr2 hrAnn) 4 4 [.dat 24 l, .str s] (.prop True) := by
 rw [vc4]
 have hok : (badZ (madeD l)).2 = 0 := (made_ok h).out
 have eF : fmtD (madeD l) = fmtL (madeD l) (madeD l).len := by unfold fmtD; rw [if_pos hok]
 obtain ⟨p1, p2, p3, p4, p5⟩ := par_fmt hok
 rw [eF]
 have yes : ((true = true) ↔ True) := ⟨fun _ => trivial, fun _ => rfl⟩
 refine ⟨h, made_small h, trivial, fun _ => ⟨fun _ => ⟨small_par _, fun _ => ⟨by omega, fun hc => absurd (by rw [p4]) hc, fun _ => ⟨fun _ => yes, fun h4 => ⟨trivial, fun he => ⟨fun _ => ⟨fun _ => ⟨?_, fun _ => yes, fun hn => absurd (par_line s).2 hn⟩, fun hn => absurd (par_line s).1 hn⟩, fun hn => absurd (by rw [par_nil he]; rfl) hn⟩, fun he => ⟨small_par s, fun hf => ⟨fun _ => yes, fun hn => ?_⟩, fun hn => ?_⟩⟩⟩⟩, fun hn => absurd p1 hn⟩, fun hn => absurd p2 hn⟩, fun hn => absurd p3 hn⟩
 ·have h4 : ¬ (4000 : Int) < s.length := h4
  omega
 ·have h4 : ¬ (4000 : Int) < s.length := h4
  exact absurd (fmt_par (by omega) (Classical.not_not.1 he)).2.2 hn
 ·have h4 : ¬ (4000 : Int) < s.length := h4
  obtain ⟨f1, f2, f3⟩ := fmt_par (s := s) (by omega) (Classical.not_not.1 he)
  exact absurd (by unfold fmtD; rw [if_pos f1]; exact f2) hn
end Go.Ev

end

section
open Go.Proofs
namespace Go.Ev
set_option maxRecDepth 100000
set_option maxHeartbeats 4000000
def tailP (l : D) (x : Nat) (xi : Int) (A : List UInt8) (L : List D) (j : Nat) : Prop :=
 0 + ((strD A).length + (numsB L j).length) ≤ (strD A ++ strD (numsB L j)).length ∧ (strD A).length + (numsB L j).length + nlB.length ≤ 16777216 ∧
 ((-9223372036854775808 : Int) ≤ xi + 1 ∧ xi + 1 < 9223372036854775808) ∧
 ((∃ y : Nat, y = 0 ∧ l.len - y < l.len - x ∧ (xi + 1 = 0 ∧ True) ∧ (False ∧ False ∧ True) ∧ True) ∨
  ∃ y : Nat, (0 < y ∧ y ≤ l.len) ∧ l.len - y < l.len - x ∧ (xi + 1 = (y : Int) ∧ True) ∧ (True ∧ ((0 : Nat) = 0 ∧ (strD A).length + (numsB L j).length + nlB.length = (fmtL l y).length ∧ True) ∧ True) ∧
   List.take ((strD A).length + (numsB L j).length) (strD A ++ strD (numsB L j)) ++ strD nlB = strD (fmtL l y) ∧ True)
def innerP (l : D) (x : Nat) (xi : Int) (A : List UInt8) (L : List D) (N : Nat) : Prop :=
 (∃ j : Nat, j ≤ L.length ∧ ((0 : Int) = (j : Int) ∧ True) ∧ (True ∧ ((0 : Nat) = 0 ∧ A.length = (strD A).length + (numsB L j).length ∧ True) ∧ True) ∧ strD A = strD A ++ strD (numsB L j) ∧ True) ∧
 ∀ j : Nat, j ≤ L.length → L.length - j < LIM ∧
  ((j : Int) < (N : Int) → (0 : Int) ≤ (j : Int) ∧ (j : Int) < (N : Int) ∧ j < L.length ∧ ((0 : Int) ≤ (nthD L j).asInt ∧ (nthD L j).asInt ≤ (1000 : Int)) ∧ spB.length + (decB (nthD L j).asInt).length < 9223372036854775808 ∧
   0 < (spB ++ decB (nthD L j).asInt).length ∧ 0 + ((strD A).length + (numsB L j).length) ≤ (strD A ++ strD (numsB L j)).length ∧ (strD A).length + (numsB L j).length + (spB ++ decB (nthD L j).asInt).length ≤ 16777216 ∧
   ((-9223372036854775808 : Int) ≤ (j : Int) + 1 ∧ (j : Int) + 1 < 9223372036854775808) ∧
   ∃ y : Nat, y ≤ L.length ∧ L.length - y < L.length - j ∧ ((j : Int) + 1 = (y : Int) ∧ True) ∧
    (True ∧ ((0 : Nat) = 0 ∧ (strD A).length + (numsB L j).length + (spB ++ decB (nthD L j).asInt).length = (strD A).length + (numsB L y).length ∧ True) ∧ True) ∧
    List.take ((strD A).length + (numsB L j).length) (strD A ++ strD (numsB L j)) ++ strD (spB ++ decB (nthD L j).asInt) = strD A ++ strD (numsB L y) ∧ True) ∧
  (((j : Int) < (N : Int) → False) → tailP l x xi A L j)
def waysP (W : List UInt8 → Prop) (sh : Int) : Prop :=
 (sh = 1 → W w1B) ∧ ((sh = 1 → False) → (sh = 2 → W w2B) ∧ ((sh = 2 → False) → (sh = 3 → W w3B) ∧ ((sh = 3 → False) → (sh = 4 → W w4B) ∧ ((sh = 4 → False) → W []))))
def way0 (l : D) (w : List UInt8) : Prop :=
 (headB (el l 0)).length + w.length < 9223372036854775808 ∧ 0 < (headB (el l 0) ++ w).length ∧ (headB (el l 0) ++ w).length ≤ 16777216 ∧
 ∃ _ : Unit, True ∧ True ∧ (True ∧ ((0 : Nat) = 0 ∧ (headB (el l 0) ++ w).length = (fmtL l 0 ++ lineB (el l 0)).length ∧ True) ∧ True) ∧ strD (headB (el l 0) ++ w) = strD (fmtL l 0 ++ lineB (el l 0)) ∧ True
def way1 (l : D) (x : Nat) (w : List UInt8) : Prop :=
 (headB (el l x)).length + w.length < 9223372036854775808 ∧ 0 < (headB (el l x) ++ w).length ∧ 0 + (fmtL l x).length ≤ (strD (fmtL l x)).length ∧ (fmtL l x).length + (headB (el l x) ++ w).length ≤ 16777216 ∧
 ∃ _ : Unit, True ∧ True ∧ (True ∧ ((0 : Nat) = 0 ∧ (fmtL l x).length + (headB (el l x) ++ w).length = (fmtL l x ++ lineB (el l x)).length ∧ True) ∧ True) ∧
  List.take (fmtL l x).length (strD (fmtL l x)) ++ strD (headB (el l x) ++ w) = strD (fmtL l x ++ lineB (el l x)) ∧ True
def roundP (l : D) (m x : Nat) (xi : Int) (W : List UInt8 → Prop) : Prop :=
 (0 : Int) ≤ xi ∧ xi < (l.len : Int) ∧
 (tblB.length + (tName (el l x)).length < 9223372036854775808 ∧ (tblB ++ tName (el l x)).length + spB.length < 9223372036854775808 ∧ waysP W (tShape (el l x))) ∧
 ∀ _ : Unit, True →
  ((tOpen (el l x)).len = 0 → innerP l m xi (fmtL l x ++ lineB (el l x)) (nums4 (el l x)) 4) ∧
  (0 < (tOpen (el l x)).len → 0 + 4 ≤ (nums4 (el l x)).length ∧ 4 + (tOpen (el l x)).len ≤ 16777216 ∧
   (4 + (tOpen (el l x)).len ≤ 4 → 0 + 4 + (tOpen (el l x)).len ≤ (nums4 (el l x)).length ∧
    innerP l m xi (fmtL l x ++ lineB (el l x)) (List.take (0 + 4) (nums4 (el l x)) ++ (tOpen (el l x)).asList ++ List.drop (0 + 4 + (tOpen (el l x)).len) (nums4 (el l x))) (4 + (tOpen (el l x)).len)) ∧
   (4 < 4 + (tOpen (el l x)).len → innerP l m xi (fmtL l x ++ lineB (el l x)) (List.take 4 (nums4 (el l x)) ++ (tOpen (el l x)).asList) (4 + (tOpen (el l x)).len)))
theorem vc8 (l : D) : symFun (ctxJ hr1) 6 8 [.dat 25 l] (.str (fmtD l)) =
 (smallD l ∧ (((badZ l).snd = 0 → False) → [] = fmtD l) ∧ ((((badZ l).snd = 0 → False) → False) →
  ((∃ x : Nat, x = 0 ∧ ((0 : Int) = 0 ∧ True) ∧ (True ∧ True ∧ True) ∧ True) ∨ ∃ x : Nat, (0 < x ∧ x ≤ l.len) ∧ ((0 : Int) = (x : Int) ∧ True) ∧ (False ∧ False ∧ True) ∧ False ∧ True) ∧
  (∀ x : Nat, x = 0 → l.len - x < LIM ∧ ((0 : Int) < (l.len : Int) → roundP l x 0 0 (way0 l)) ∧ (((0 : Int) < (l.len : Int) → False) → [] = fmtD l)) ∧
  ∀ x : Nat, 0 < x ∧ x ≤ l.len → l.len - x < LIM ∧ ((x : Int) < (l.len : Int) → roundP l x x (x : Int) (way1 l x)) ∧
   (((x : Int) < (l.len : Int) → False) → ((fmtL l x).length = 0 → False) ∧ (0 : Int) ≤ ((fmtL l x).length : Int) ∧ 0 < (fmtL l x).length ∧ (fmtL l x).length ≤ 16777216 ∧ 0 + (fmtL l x).length ≤ (strD (fmtL l x)).length ∧
    byteL (List.take (fmtL l x).length (strD (fmtL l x))) ∧ bytesD (List.take (fmtL l x).length (strD (fmtL l x))) = fmtD l))) := by kernel_rfl
theorem strD_app (a b : List UInt8) : strD (a ++ b) = strD a ++ strD b := List.map_append
theorem strD_take (a : List UInt8) (n : Nat) (h : n = a.length) : List.take n (strD a) = strD a := List.take_of_length_le (by rw [strD_len]; omega)
theorem inner_ok {l : D} {m x : Nat} {xi : Int} {A : List UInt8} {L : List D} {N : Nat} (hm : m = x) (hxi : xi = (x : Int)) (hN : N = L.length) (hL : ∀ j, j < L.length → 0 ≤ (nthD L j).asInt ∧ (nthD L j).asInt ≤ 1000)
  (hl : L.length ≤ 104) (hA : A.length ≤ 100000) (hfm : A ++ numsB L L.length ++ nlB = fmtL l (x + 1)) (hx : x < l.len) (hll : l.len ≤ 100) : innerP l m xi A L N := by
 subst hm hxi hN
 refine ⟨⟨0, Nat.zero_le _, ⟨rfl, trivial⟩, ⟨trivial, ⟨rfl, by rw [strD_len]; rfl, trivial⟩, trivial⟩, by show _ = _ ++ strD []; simp [strD], trivial⟩, fun j hj => ⟨by unfold LIM; omega, fun hjN => ?_, fun hjN => ?_⟩⟩
 ·have hlt : j < L.length := by omega
  have h1 := numsB_len L j
  have h2 := decB_len (nthD L j).asInt
  refine ⟨by omega, hjN, hlt, hL j hlt, by rw [sp_len]; omega, by simp only [List.length_append, sp_len]; omega, by simp only [List.length_append, strD_len]; omega, ?_, by omega, j + 1, hlt, by omega, ⟨by omega, trivial⟩, ⟨trivial, ⟨rfl, ?_, trivial⟩, trivial⟩, ?_, trivial⟩
  ·simp only [List.length_append, sp_len, strD_len]; omega
  ·show _ = _ + (numsB L j ++ (spB ++ decB (nthD L j).asInt)).length
   simp only [List.length_append]; omega
  ·show _ = strD A ++ strD (numsB L j ++ (spB ++ decB (nthD L j).asInt))
   rw [List.take_of_length_le (by simp only [List.length_append, strD_len]; omega), strD_app (numsB L j), List.append_assoc]
 ·have hjN : ¬ ((j : Int) < (L.length : Int)) := hjN
  have hj' : j = L.length := by omega
  subst hj'
  have h1 := numsB_len L L.length
  unfold tailP
  refine ⟨by simp only [List.length_append, strD_len]; omega, by rw [strD_len, nl_len]; omega, by omega, .inr ⟨m + 1, by omega, by omega, ⟨by omega, trivial⟩, ⟨trivial, ⟨rfl, ?_, trivial⟩, trivial⟩, ?_, trivial⟩⟩
  ·rw [← hfm, strD_len]; simp only [List.length_append]
  ·rw [← hfm, List.take_of_length_le (by simp only [List.length_append, strD_len]; omega), strD_app, strD_app]
theorem ways_ok {W : List UInt8 → Prop} {sh : Int} (hs : sh = 1 ∨ sh = 2 ∨ sh = 3 ∨ sh = 4) (h : W (wordB sh)) : waysP W sh := by
 unfold waysP
 rcases hs with rfl | rfl | rfl | rfl
 ·exact ⟨fun _ => h, fun hn => (hn rfl).elim⟩
 ·exact ⟨fun hn => absurd hn (by decide), fun _ => ⟨fun _ => h, fun hn => (hn rfl).elim⟩⟩
 ·exact ⟨fun hn => absurd hn (by decide), fun _ => ⟨fun hn => absurd hn (by decide), fun _ => ⟨fun _ => h, fun hn => (hn rfl).elim⟩⟩⟩
 ·exact ⟨fun hn => absurd hn (by decide), fun _ => ⟨fun hn => absurd hn (by decide), fun _ => ⟨fun hn => absurd hn (by decide), fun _ => ⟨fun _ => h, fun hn => (hn rfl).elim⟩⟩⟩⟩
structure okTab (t : D) : Prop where
 err : errT t = 0
 name : (tName t).length ≤ 12
 size : sizeT' t ≠ 0
 few : (tOpen t).len ≤ 100
theorem tab_ok {l : D} (hb : (badZ l).2 = 0) (k : Nat) (hk : k < l.len) : okTab (el l k) := by
 have h := ((bad_ok hb).2 k hk).1
 obtain ⟨h1, h2, h3, _⟩ := errT_ok h
 have b3 : sizeT' (el l k) ≤ 24 := (size_bnd h2).2.2
 have ho := rising_len h3
 exact ⟨h, h1.out.2.1, h2, by omega⟩
theorem nums4_len (t : D) : (nums4 t).length = 4 := rfl
theorem open_nil {t : D} (h : (tOpen t).len = 0) : (tOpen t).asList = [] := List.eq_nil_of_length_eq_zero h
theorem nums_ok {t : D} (h : errT t = 0) : ∀ j, j < (numsT t).length → 0 ≤ (nthD (numsT t) j).asInt ∧ (nthD (numsT t) j).asInt ≤ 1000 := fun j hj => by
 rw [nthD_get _ _ hj]; exact nums_in h _ (List.getElem_mem hj)
theorem fmtL_pos (l : D) (n : Nat) (h : 0 < n) : 0 < (fmtL l n).length := by
 cases n with
 | zero => omega
 | succ n =>
  unfold fmtL tableB
  simp only [List.length_append, nl_len]
  omega
theorem round_ok {l : D} {m x : Nat} {xi : Int} {W : List UInt8 → Prop} (hs : smallD l) (hb : (badZ l).2 = 0) (hm : m = x) (hxi : xi = (x : Int)) (hx : x < l.len) (hW : W (wordB (tShape (el l x)))) : roundP l m x xi W := by
 have ht := tab_ok hb x hx
 have hll := hs.out.1
 have hlen := fmtL_len l x (fun k hk => (tab_ok hb k (by omega)).err)
 have hline := line_len (el l x)
 have hname := ht.name
 have hfew := ht.few
 have hA : (fmtL l x ++ lineB (el l x)).length ≤ 100000 := by rw [List.length_append]; omega
 have hnum := nums_ok ht.err
 have hfm : fmtL l x ++ lineB (el l x) ++ numsB (numsT (el l x)) (numsT (el l x)).length ++ nlB = fmtL l (x + 1) := by
  show _ = fmtL l x ++ tableB (el l x)
  unfold tableB
  simp only [List.append_assoc]
 refine ⟨by omega, by omega, ⟨by rw [tbl_len]; omega, by simp only [List.length_append, tbl_len, sp_len]; omega, ways_ok (shape_of ht.size) hW⟩, fun _ _ => ⟨fun h0 => ?_, fun h0 => ⟨by rw [nums4_len]; omega, by omega, fun h1 => by omega, fun _ => ?_⟩⟩⟩
 ·have e : nums4 (el l x) = numsT (el l x) := by unfold numsT; rw [open_nil h0, List.append_nil]
  rw [e]
  exact inner_ok hm hxi (by rw [← e]; rfl) hnum (by rw [numsT_len]; omega) hA hfm hx hll
 ·have e : List.take 4 (nums4 (el l x)) ++ (tOpen (el l x)).asList = numsT (el l x) := rfl
  rw [e]
  exact inner_ok hm hxi (by rw [numsT_len]) hnum (by rw [numsT_len]; omega) hA hfm hx hll
theorem s8 (l : D) (hs : smallD l) : symFun (ctxJ hr1) 6 8 [.dat 25 l] (.str (fmtD l)) := by
 rw [vc8]
 refine ⟨hs, fun hb => ?_, fun hb => ?_⟩
 ·unfold fmtD; rw [if_neg hb]
 ·have hb : (badZ l).2 = 0 := Classical.byContradiction hb
  have hll := hs.out.1
  have hf : fmtD l = fmtL l l.len := by unfold fmtD; rw [if_pos hb]
  rw [hf]
  have hok := tab_ok hb
  refine ⟨.inl ⟨0, rfl, ⟨rfl, trivial⟩, ⟨trivial, trivial, trivial⟩, trivial⟩, fun x hx => ⟨by unfold LIM; omega, fun h => ?_, fun h => ?_⟩, fun x hx => ⟨by unfold LIM; omega, fun h => ?_, fun h => ?_⟩⟩
  ·have ht := hok 0 (by omega)
   have hname := ht.name
   have hline := line_len (el l 0)
   refine round_ok hs hb hx rfl (by omega) ?_
   have e : headB (el l 0) ++ wordB (tShape (el l 0)) = lineB (el l 0) := rfl
   have hh := head_len (el l 0)
   have hw := wordB_len (tShape (el l 0))
   unfold way0
   rw [e]
   refine ⟨by omega, ?_, by omega, (), trivial, trivial, ⟨trivial, ⟨rfl, rfl, trivial⟩, trivial⟩, rfl, trivial⟩
   rw [← e, List.length_append]; omega
  ·have h : ¬ ((0 : Int) < (l.len : Int)) := h
   have : l.len = 0 := by omega
   rw [this]; rfl
  ·have ht := hok x (by omega)
   have hname := ht.name
   have hline := line_len (el l x)
   have hlen := fmtL_len l x (fun k hk => (hok k (by omega)).err)
   refine round_ok hs hb rfl rfl (by omega) ?_
   have e : headB (el l x) ++ wordB (tShape (el l x)) = lineB (el l x) := rfl
   have hh := head_len (el l x)
   have hw := wordB_len (tShape (el l x))
   unfold way1
   rw [e]
   refine ⟨by omega, ?_, by rw [strD_len]; omega, by omega, (), trivial, trivial, ⟨trivial, ⟨rfl, by rw [List.length_append], trivial⟩, trivial⟩, by rw [strD_take _ _ rfl, ← strD_app], trivial⟩
   rw [← e, List.length_append]; omega
  ·have h : ¬ ((x : Int) < (l.len : Int)) := h
   have hxe : x = l.len := by omega
   subst hxe
   have hlen := fmtL_len l l.len (fun k hk => (hok k hk).err)
   have hpos := fmtL_pos l l.len hx.1
   refine ⟨fun h => by omega, by omega, hpos, by omega, by rw [strD_len]; omega, ?_, ?_⟩
   ·rw [strD_take _ _ rfl]; exact byteL_strD _
   ·rw [strD_take _ _ rfl, bytesD_strD]
end Go.Ev

end
