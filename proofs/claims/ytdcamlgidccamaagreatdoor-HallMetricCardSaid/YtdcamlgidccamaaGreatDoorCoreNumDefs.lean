/-
  Part of the engine that the claim is proved with: it states nothing of the document by itself.
-/
import Derived.Test.YtdcamlgidccamaaGreatDoorCoreMadeDefs
import Derived.Test.YtdcamlgidccamaaGreatDoorCoreKit
open Go.Proofs
namespace Go.Ev

/-! ### Halls that are made of numbers -/
def letter (i : Nat) : List UInt8 := [UInt8.ofNat (97 + i)]
def madeRow (c : D) (i : Nat) : D := .sct [.str (letter i), .int (mSh (cSh c)), .int (mA (cSh c) (cA c)), .int (mB (cSh c) (cA c) (cB c)), openD (cO c) (mN (cSh c) (cA c) (cB c)), .int (7 * i), .int (100 - i)]
def madeL (l : D) (x : Nat) : List D := (List.range x).map fun i => madeRow (el l i) i
def madeD (l : D) : D := listD (madeL l (min l.len 16))
structure codeP (c : D) : Prop where
  out : byteP (cSh c) ∧ byteP (cA c) ∧ byteP (cB c) ∧ bytesP (cO c)
structure codesP (l : D) : Prop where
  out : ∀ i, i < l.len → codeP (el l i)
structure i64P (n : Int) : Prop where
  out : -9223372036854775808 ≤ n ∧ n < 9223372036854775808
structure okHall (l : D) : Prop where
  out : (badZ l).2 = 0
open Classical in
noncomputable def seatsZ (nm : List UInt8) (sh a b : Int) (o : D) (x y : Int) : Int := if errZ nm sh a b o x y = 0 then sizeZ sh a b else 0
open Classical in
noncomputable def countZ (l : D) : Int := if okHall l then sumZ l l.len else 0
open Classical in
noncomputable def firstZ (l : D) (t : Int) : Int := if (0 ≤ t ∧ t < l.len) ∧ okHall l then sumZ l t.toNat else 0
structure foundP (l : D) (s : List UInt8) : Prop where
  out : okHall l ∧ 0 ≤ idxZ l s l.len 0
open Classical in
noncomputable def findZ (l : D) (s : List UInt8) : Int := if foundP l s then idxZ l s l.len 0 else 0
/-- Where a seat is: the table, its number there, and whether there is one. -/
noncomputable def whereZ (l : D) : Nat → Nat → Int → Option (Int × Int)
  | 0, _, _ => none
  | f + 1, i, k => if k < sizeT' (el l i) then some (i, k) else whereZ l f (i + 1) (k - sizeT' (el l i))
open Classical in
noncomputable def whereO (l : D) (n : Int) : Option (Int × Int) := if n < 0 ∨ ¬ okHall l then none else whereZ l l.len 0 n
noncomputable def whereT (l : D) (n : Int) : Int := ((whereO l n).getD (0, 0)).1
noncomputable def whereK (l : D) (n : Int) : Int := ((whereO l n).getD (0, 0)).2
structure whereP (l : D) (n : Int) : Prop where
  out : whereO l n ≠ none
noncomputable def con49 : Con := fun | [.dat 65 l] => some (codesP l, .dat 22 (madeD l)) | _ => none
noncomputable def con113 : Con := fun | [.dat 22 l] => some (smallD l, .prop (okHall l)) | _ => none
noncomputable def con50 : Con := fun | [.agg [.str nm, .int .u8 sh, .int .i64 a, .int .i64 b, .dat 29 o, .int .i64 x, .int .i64 y]] => some (o.len ≤ 100, .int .i64 (seatsZ nm sh a b o x y)) | _ => none
noncomputable def con55 : Con := fun | [.dat 22 l] => some (smallD l, .int .i64 (countZ l)) | _ => none
noncomputable def con52 : Con := fun | [.dat 22 l, .int .i64 t] => some (smallD l, .int .i64 (firstZ l t)) | _ => none
noncomputable def con57 : Con := fun | [.dat 22 l, .str s] => some (smallD l, .tup [.int .i64 (findZ l s), .prop (foundP l s)]) | _ => none
noncomputable def con56 : Con := fun | [.dat 22 l, .int .i64 n] => some (smallD l ∧ i64P n, .tup [.int .i64 (whereT l n), .int .i64 (whereK l n), .prop (whereP l n)]) | _ => none
noncomputable def con16 : Con := fun | [.dat 65 l, .int .i64 n] => some (codesP l ∧ i64P n, .prop True) | _ => none
noncomputable def num1 : FuncId → Option Con
  | 108 => some con108
  | 113 => some con113
  | 50 => some con50
  | g => chk3 g
noncomputable def num2 : FuncId → Option Con
  | 49 => some con49
  | 55 => some con55
  | 52 => some (extC con52)
  | 57 => some (extC con57)
  | 56 => some (extC con56)
  | g => num1 g
noncomputable def numAnn : FuncId → Nat → Option Ann
  | 49, 3 => some { hs := 2, τ := Nat, slots := fun _ i x => match i with | 0 => [(13, .int .i64 0), (3, .val (.slice none 0 0))] | _ => [(13, .int .i64 x), (3, .slc 60 (.lit 0) (.sym x) none)],
                    blks := fun S i x => match i with | 0 => [] | _ => [(60, .arr 31 (madeL (slD S 0) x))], inv := fun S i x => match i with | 0 => x = 0 | _ => 0 < x ∧ x ≤ min (slD S 0).len 16, meas := fun _ _ x => 16 - x }
  | 56, 5 => some { τ := Nat × Int, slots := fun _ _ x => [(20, .int .i64 x.1), (5, .int .i64 x.2)], blks := fun _ _ _ => [], inv := fun S _ x => x.1 ≤ (slD S 0).len ∧ 0 ≤ x.2 ∧ x.2 ≤ slI S 1 ∧ whereZ (slD S 0) ((slD S 0).len - x.1) x.1 x.2 = whereZ (slD S 0) (slD S 0).len 0 (slI S 1), meas := fun S _ x => (slD S 0).len - x.1 }
  | 16, 4 => some { τ := Nat, slots := fun S _ x => [(27, .int .i64 x), (6, .int .i64 (sumZ (slD S 5) x))], blks := fun _ _ _ => [], inv := fun S _ x => x ≤ (slD S 5).len, meas := fun S _ x => (slD S 5).len - x }
  | 16, 7 => some { τ := Nat, slots := fun S _ k => [(34, .int .i64 k), (6, .int .i64 (sumZ (slD S 5) (slI S 27).toNat + k))], blks := fun _ _ _ => [], inv := fun S _ k => k ≤ (slI S 33).toNat, meas := fun S _ k => (slI S 33).toNat - k }
  | g, i => chkAnn g i

end Go.Ev
