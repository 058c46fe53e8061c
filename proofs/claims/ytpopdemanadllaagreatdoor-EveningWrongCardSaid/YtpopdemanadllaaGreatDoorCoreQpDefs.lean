/-
  Part of the engine that the claim is proved with: it states nothing of the document by itself.
-/
import Derived.Test.YtpopdemanadllaaGreatDoorCoreOqDefs
open Go.Proofs
namespace Go.Ev
def szF (c : D) (i : Nat) : Int := 1 + IntKind.i64.wrap ((nAt c i).tmod 6)
def sub8 (c : D) : D := c.sub 0 (min (c.len : Int) (8 : Int)).toNat
def sub20 (c : D) : D := c.sub 0 (min (c.len : Int) (20 : Int)).toNat
def sub10 (c : D) : D := c.sub 0 (min (c.len : Int) (10 : Int)).toNat
def sumF (c : D) : Nat → Int
 | 0 => 0
 | n + 1 => sumF c n + szF c n
def szL (c : D) (n : Nat) : List D := (List.range n).map fun i => .int (szF c i)
def kS (c : D) : Nat := (sub8 c).len
def szD (c : D) : D := if kS c = 0 then .list [.int 1] else .list (szL (sub8 c) (kS c))
def nD (c : D) : Int := if kS c = 0 then 1 else sumF (sub8 c) (kS c)
def swap1 (l : List D) (a b : Nat) : List D := (l.set a (.int (nthD l b).asInt)).set b (.int (nthD l a).asInt)
def swA (n : Int) (q : D) (j : Nat) : Int := (IntKind.i64.wrap ((q.fld j).asInt)).tmod n
def stepsL (n : Int) (l : List D) (w : D) : Nat → List D
 | 0 => l
 | j + 1 => swap1 (stepsL n l w j) (swA n (el w j) 0).toNat (swA n (el w j) 1).toNat
def idL (n : Nat) : List D := (List.range n).map fun i => .int (i : Nat)
def ordL (n : Int) (w : D) : Nat → List D
 | 0 => idL n.toNat
 | i + 1 => stepsL n (ordL n w i) (sub20 (el w i)) (sub20 (el w i)).len
def offZ (sz : D) : Nat → Int
 | 0 => 0
 | n + 1 => offZ sz n + nAt sz n
def tabL (o : List D) (sz : D) (z : Nat) : List D := (List.range z).map fun j => .list ((o.drop (offZ sz j).toNat).take (nAt sz j).toNat)
def outL (n : Int) (sz w : D) (x : Nat) : List D := (List.range x).map fun i => .list (tabL (ordL n w (i + 1)) sz sz.len)
structure u8L (c : D) : Prop where
 out : ∀ i, i < c.len → 0 ≤ nAt c i ∧ nAt c i < 256
structure u8W (w : D) : Prop where
 out : ∀ i j, i < w.len → j < (el w i).len → (0 ≤ ((el (el w i) j).fld 0).asInt ∧ ((el (el w i) j).fld 0).asInt < 256) ∧ (0 ≤ ((el (el w i) j).fld 1).asInt ∧ ((el (el w i) j).fld 1).asInt < 256)
def madeD (c w : D) : D := listD (outL (nD c) (szD c) (sub10 w) (sub10 w).len)
noncomputable def con21z : Con := fun | [.dat 22 c] => some (u8L c, .tup [.dat 25 (szD c), .int .i64 (nD c)]) | _ => none
noncomputable def con6z : Con := fun | [.dat 22 c, .dat 23 w] => some (u8L c ∧ u8W w, .tup [.dat 24 (madeD c w), .dat 25 (szD c), .int .i64 (nD c)]) | _ => none
noncomputable def mz1 : FuncId → Option Con
 | 22 => some con21z
 | _ => none
noncomputable def mzAnn : FuncId → Nat → Option Ann
 | 22, 4 => some { hs := 2, τ := Nat, slots := fun S i x => match i with | 0 => [(14, .int .i64 0), (4, .val (.slice none 0 0)), (5, .int .i64 0)] | _ => [(14, .int .i64 x), (4, .slc 60 (.lit 0) (.sym x) none), (5, .int .i64 (sumF (slD S 12) x))], blks := fun S i x => match i with | 0 => [] | _ => [(60, .arr 3 (szL (slD S 12) x))], inv := fun S i x => match i with | 0 => x = 0 | _ => 0 < x ∧ x ≤ kS (slD S 0), meas := fun S _ x => (slD S 12).len - x }
 | 4, 4 => some { τ := Nat × List D, slots := fun _ _ x => [(31, .int .i64 x.1)], blks := fun S _ x => [(rowId S 9, .arr 3 x.2)], inv := fun S _ x => x.1 ≤ (slI S 8).toNat ∧ x.2.length = (slI S 8).toNat ∧ x.2.take x.1 = idL x.1, meas := fun S _ x => (slI S 8).toNat - x.1 }
 | 4, 10 => some { hs := 2, τ := Nat × List D, slots := fun _ i x => match i with | 0 => [(45, .int .i64 0), (11, .val (.slice none 0 0))] | _ => [(45, .int .i64 x.1), (11, .slc 60 (.lit 0) (.sym x.1) none)], blks := fun S i x => match i with | 0 => [(rowId S 9, .arr 3 x.2)] | _ => [(60, .arr 32 (outL (slI S 8) (slD S 7) (slD S 43) x.1)), (rowId S 9, .arr 3 x.2)], inv := fun S i x => match i with | 0 => x.1 = 0 ∧ x.2 = ordL (slI S 8) (slD S 43) 0 | _ => 0 < x.1 ∧ x.1 ≤ (slD S 43).len ∧ x.2 = ordL (slI S 8) (slD S 43) x.1, meas := fun S _ x => (slD S 43).len - x.1 }
 | 4, 13 => some { τ := Nat × List D, slots := fun _ _ y => [(55, .int .i64 y.1)], blks := fun S _ y => [(rowId S 9, .arr 3 y.2)], inv := fun S _ y => y.1 ≤ (slD S 53).len ∧ y.2 = stepsL (slI S 8) (slRow S 9) (slD S 53) y.1, meas := fun S _ y => (slD S 53).len - y.1 }
 | 4, 21 => some { hs := 2, τ := Nat, slots := fun S i z => match i with | 0 => [(86, .int .i64 0), (18, .val (.slice none 0 0)), (19, .int .i64 0)] | _ => [(86, .int .i64 z), (18, .slc 90 (.lit 0) (.sym z) none), (19, .int .i64 (offZ (slD S 7) z))], blks := fun S i z => match i with | 0 => [] | _ => [(90, .arr 25 (tabL (slRow S 9) (slD S 7) z))], inv := fun S i z => match i with | 0 => z = 0 | _ => 0 < z ∧ z ≤ (slD S 7).len, meas := fun S _ z => (slD S 7).len - z }
 | _, _ => none
end Go.Ev
