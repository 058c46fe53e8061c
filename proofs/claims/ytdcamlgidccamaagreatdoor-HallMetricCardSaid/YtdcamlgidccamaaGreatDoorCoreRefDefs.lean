/-
  Part of the engine that the claim is proved with: it states nothing of the document by itself.
-/
import Derived.Test.YtdcamlgidccamaaGreatDoorCoreNumDefs
open Go.Proofs
namespace Go.Ev

/-! ### Halls that are not valid -/
structure noHall (l : D) : Prop where
  out : smallD l ∧ ¬ okHall l
noncomputable def con32i : Con := fun | [.dat 22 l, .int .i64 a, .int .i64 b] => some (noHall l ∧ i64P a ∧ i64P b, .tup [.int .i64 0, .prop False]) | _ => none
noncomputable def con53i : Con := fun | [.dat 22 l, .int .i64 a] => some (noHall l ∧ i64P a, .int .i64 0) | _ => none
noncomputable def con51i : Con := fun | [.dat 22 l, .int .i64 a] => some (noHall l ∧ i64P a, .val (.slice none 0 0)) | _ => none
noncomputable def con36i : Con := fun | [.dat 22 l, .int .i64 a] => some (noHall l ∧ i64P a, .val (.slice none 0 0)) | _ => none
noncomputable def con54i : Con := fun | [.dat 22 l, .int .i64 a] => some (noHall l ∧ i64P a, .val (.slice none 0 0)) | _ => none
noncomputable def con45i : Con := fun | [.dat 22 l, .int .i64 a] => some (noHall l ∧ i64P a, .prop False) | _ => none
noncomputable def con33i : Con := fun | [.dat 22 l, .int .i64 a, .int .i64 b] => some (noHall l ∧ i64P a ∧ i64P b, .prop False) | _ => none
noncomputable def con58i : Con := fun | [.dat 22 l] => some (smallD l ∧ (okHall l → l.len = 0), .str []) | _ => none
noncomputable def con39i : Con := fun | [.agg [.str nm, .int .u8 sh, .int .i64 a, .int .i64 b, .dat 29 o, .int .i64 x, .int .i64 y]] => some (o.len ≤ 100 ∧ errZ nm sh a b o x y ≠ 0, .val (.slice none 0 0)) | _ => none
noncomputable def con18 : Con := fun | [.dat 65 l, .int .u8 w, .int .u8 v, .int .i64 n] => some (codesP l ∧ byteP w ∧ byteP v ∧ i64P n, .prop True) | _ => none
noncomputable def ref1 : FuncId → Option Con
  | 49 => none
  | 32 => some (extC con32i)
  | 53 => some (extC con53i)
  | 51 => some (extC con51i)
  | 36 => some (extC con36i)
  | 54 => some (extC con54i)
  | 45 => some (extC con45i)
  | 33 => some (extC con33i)
  | 58 => some con58i
  | 39 => some con39i
  | g => num2 g
def mrow (l : D) (x k : Nat) : D := nthD (madeL l x) k
def setL (l : D) (x k : Nat) (nm : List UInt8) (sh a b : Int) (o : D) (X Y : Int) : List D := (madeL l x).set k (.sct [.str nm, .int sh, .int a, .int b, o, .int X, .int Y])
def setT (l : D) (x k : Nat) (nm : List UInt8) (sh a b : Int) (o : D) (X Y : Int) : D := .list (List.take x (setL l x k nm sh a b o X Y))
def wordN (i : Nat) : List UInt8 := (nthD [D.str [], D.str [65], D.str [97, 32, 98], D.str [97, 98, 99, 100, 101, 102, 103, 104, 105, 106, 107, 108, 109], D.str [97, 10]] i).asStr
/-- Loops that are never reached. -/
noncomputable def deadAnn : Ann := { hs := 0, τ := Unit, slots := fun _ _ _ => [], blks := fun _ _ _ => [], inv := fun _ _ _ => False, meas := fun _ _ _ => 0 }
noncomputable def refAnn (g : FuncId) (i : Nat) : Option Ann :=
  match g, i with
  | 58, 5 => some { τ := Unit, slots := fun _ _ _ => [(13, .int .i64 0)], blks := fun _ _ _ => [], inv := fun S _ _ => (slD S 0).len = 0, meas := fun _ _ _ => 0 }
  | g, i => match numAnn g i with | some a => some a | none => some deadAnn
noncomputable def ctxF (con : FuncId → Option Con) (ann : FuncId → Nat → Option Ann) (frz : FuncId → Nat → List (Tmp × Nat × TypeId)) (join : FuncId → Nat → Option Ann) : Ctx := { ctx con ann with frz := frz, join := join }
noncomputable def refFrz : FuncId → Nat → List (Tmp × Nat × TypeId)
  | 18, 20 => [(11, 4, 29)]
  | _, _ => []
/-- The block of a variable. -/
noncomputable def slB (S : SS) (t : Tmp) : Nat := match S.fr.get t with | some (.ptr b _) => b | _ => 0
/-- A table in its fields, an error's number, an index. -/
structure Row where
  nm : List UInt8
  sh : Int
  a : Int
  b : Int
  o : D
  X : Int
  Y : Int
  want : Int
  i : Int
/-- A table that makes the hall l wrong. -/
structure spoilt (l : D) (r : Row) : Prop where
  at_ : 0 ≤ r.i ∧ r.i < l.len
  small : r.o.len ≤ 100
  bad : (r.want = 5 ∧ 1 ≤ r.i ∧ r.nm = tName (el l 0) ∧ errZ r.nm r.sh r.a r.b r.o r.X r.Y = 0) ∨ (r.want ≠ 5 ∧ r.want ≠ 0 ∧ errZ r.nm r.sh r.a r.b r.o r.X r.Y = r.want)
noncomputable def refJoin : FuncId → Nat → Option Ann
  | 18, 23 => some { τ := Row, slots := fun _ _ r => [(12, .int .i64 r.want), (10, .int .i64 r.i)],
                     blks := fun S _ r => [(slB S 11, .box 31 [.str r.nm, .int .u8 r.sh, .int .i64 r.a, .int .i64 r.b, .dat 29 r.o, .int .i64 r.X, .int .i64 r.Y])],
                     inv := fun S _ r => spoilt (.list (bkL S 60)) r, meas := fun _ _ _ => 0 }
  | _, _ => none
end Go.Ev
