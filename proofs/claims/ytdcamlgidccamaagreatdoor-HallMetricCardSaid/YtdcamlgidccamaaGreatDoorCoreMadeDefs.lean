/-
  Part of the engine that the claim is proved with: it states nothing of the document by itself.
-/
import Derived.Test.YtdcamlgidccamaaGreatDoorCoreChkDefs
import Derived.Test.YtdcamlgidccamaaGreatDoorCoreSort
import Derived.Test.YtdcamlgidccamaaGreatDoorCoreSorted
open Go.Proofs
namespace Go.Ev

/-! ### Tables that are made of numbers -/
def cSh (d : D) : Int := (d.fld 0).asInt
def cA (d : D) : Int := (d.fld 1).asInt
def cB (d : D) : Int := (d.fld 2).asInt
def cO (d : D) : D := d.fld 3
def mSh (sh : Int) : Int := 1 + sh.tmod 4
def mA (sh a : Int) : Int := if mSh sh = 1 then 1 + a.tmod 24 else if mSh sh = 2 then 1 + a.tmod 11 else if mSh sh = 3 then 1 + a.tmod 8 else 1 + a.tmod 24
def mB (sh a b : Int) : Int := if mSh sh = 1 then 0 else if mSh sh = 2 then b.tmod 3 else if mSh sh = 3 then 1 + b.tmod 8 else b.tmod (1 + a.tmod 24 + 1)
def mN (sh a b : Int) : Int := if mSh sh = 1 then mA sh a else if mSh sh = 2 then 2 * mA sh a + mB sh a b else if mSh sh = 3 then mA sh a + 2 * mB sh a b else mA sh a
def openI (o : D) (n : Int) (x : Nat) : List Int := (List.range x).map fun i => (atI o i).tmod n
def openL (o : D) (n : Int) (x : Nat) : List D := (openI o n x).map .int
def openZ (o : D) (n : Int) : List Int := Lib.compact ((openI o n (min o.len 24)).mergeSort fun x y => decide (x ≤ y))
def openD (o : D) (n : Int) : D := listD ((openZ o n).map .int)
structure byteP (n : Int) : Prop where
  out : 0 ≤ n ∧ n < 256
structure bytesP (o : D) : Prop where
  out : ∀ i, i < o.len → 0 ≤ atI o i ∧ atI o i < 256
noncomputable def con108 : Con := fun
  | [.agg [.int .u8 sh, .int .u8 a, .int .u8 b, .dat 39 o], .str nm] => some (byteP sh ∧ byteP a ∧ byteP b ∧ bytesP o, .agg [.str nm, .int .u8 (mSh sh), .int .i64 (mA sh a), .int .i64 (mB sh a b), .dat 29 (openD o (mN sh a b)), .int .i64 0, .int .i64 0])
  | _ => none
noncomputable def annMade (nm : List UInt8) (o : D) : FuncId → Nat → Option Ann
  | 108, 17 => some { hs := 2, τ := Nat, slots := fun _ i x => match i with | 0 => [(90, .int .i64 0)] | _ => [(90, .int .i64 x)], blks := fun S i x => match i with | 0 => [] | _ => [(2, .box 31 [.str nm, .int .u8 (bkI S 2 1), .int .i64 (bkI S 2 2), .int .i64 (bkI S 2 3), .slc 40 (.lit 0) (.sym x) none, .int .i64 0, .int .i64 0]), (40, .arr 3 (openL o (slI S 6) x))], inv := fun _ i x => match i with | 0 => x = 0 | _ => 0 < x ∧ x ≤ min o.len 24, meas := fun _ _ x => 24 - x }
  | _, _ => none
end Go.Ev
