/-
  Part of the engine that the claim is proved with: it states nothing of the document by itself.
-/
import Derived.Test.YtdcamlgidccamaaGreatDoorCoreRfDefs
open Go.Proofs
namespace Go.Ev
/-! ### Blocks of a table, and the distance as a metric -/
structure sortedP (o : D) : Prop where
  out : ∀ i, 0 < i → i < o.len → ¬ ((el o i).asInt < (el o (i - 1)).asInt)
noncomputable def con37 : Con := fun | [.dat 29 o] => some (o.len ≤ 100, .prop (sortedP o)) | _ => none
noncomputable def con38 : Con := fun | [.dat 29 o, .int .i64 v] => some (o.len ≤ 100, .prop (isIn o v)) | _ => none
/-- The hall of one table that is made of a code. -/
def oneD (sh a b : Int) (o : D) : D := madeD (.list [.sct [.int sh, .int a, .int b, o]])
noncomputable def oneN (sh a b : Int) (o : D) : Int := sizeT' (el (oneD sh a b o) 0)
noncomputable def con31 : Con := fun | [.agg [.int .u8 sh, .int .u8 a, .int .u8 b, .dat 39 o]] => some (byteP sh ∧ byteP a ∧ byteP b ∧ bytesP o, .tup [.dat 22 (oneD sh a b o), .int .i64 (oneN sh a b o), .prop True]) | _ => none
/-- Seat m is reached from seat k. -/
structure reachP (sh a b : Int) (n k m : Nat) : Prop where
  out : 0 ≤ distZ n (nearN sh a b) k m
structure placedP (sh a b : Int) (n x m : Nat) : Prop where
  out : ∃ k, k < x ∧ reachP sh a b n k m
structure placed2 (sh a b : Int) (n x y m : Nat) : Prop where
  out : placedP sh a b n x m ∨ (m < y ∧ reachP sh a b n x m)
noncomputable def placedL (sh a b : Int) (n x y : Nat) : List D := (List.range n).map fun m => D.bool (placed2 sh a b n x y m)
open Classical in
noncomputable def blkMem (sh a b first : Int) (n k y : Nat) : List D := ((List.range y).filter fun m => decide (reachP sh a b n k m)).map fun (m : Nat) => D.int (first + m)
open Classical in
noncomputable def blkL (sh a b first : Int) (n x : Nat) : List D := ((List.range x).filter fun k => decide (¬ placedP sh a b n k k)).map fun k => D.list (blkMem sh a b first n k n)
/-- The same of a table as data. -/
noncomputable def dN (d : D) : Nat := (sizeT' d).toNat
noncomputable def placedX (d : D) (x y : Nat) : List D := placedL (tShape d) (tA d) (tB d) (dN d) x y
noncomputable def blkM (d : D) (first : Int) (k y : Nat) : List D := blkMem (tShape d) (tA d) (tB d) first (dN d) k y
noncomputable def blkX (d : D) (first : Int) (x : Nat) : List D := blkL (tShape d) (tA d) (tB d) first (dN d) x
structure hasT (l : D) (t : Int) : Prop where
  out : 0 ≤ t ∧ t < l.len ∧ okHall l
open Classical in
noncomputable def blocksD (l : D) (t : Int) : D := if hasT l t then .list (blkX (el l t.toNat) (sumZ l t.toNat) (dN (el l t.toNat))) else .nil
noncomputable def con36 : Con := fun | [.dat 22 l, .int .i64 t] => some (smallD l, .dat 48 (blocksD l t)) | _ => none
open Classical in
noncomputable def farF (l : D) (x y : Nat) : Int := if distP l x y then distH l x y else 99
def gridL (n : Nat) (f : Nat → Nat → Int) (x y : Nat) : List D := (List.range 576).map fun i => D.int (if (i / 24 < x ∧ i % 24 < n) ∨ (i / 24 = x ∧ i % 24 < y) then f (i / 24) (i % 24) else 0)
noncomputable def sumLen (bl : D) : Nat → Int
  | 0 => 0
  | x + 1 => sumLen bl x + (el bl x).len
noncomputable def con11 : Con := fun | [.agg [.int .u8 sh, .int .u8 a, .int .u8 b, .dat 39 o]] => some (byteP sh ∧ byteP a ∧ byteP b ∧ bytesP o, .prop True) | _ => none
noncomputable def met1 : FuncId → Option Con
  | 32 => some con32
  | 34 => some con34
  | 35 => some con35
  | 33 => some con33
  | 38 => some con38
  | 37 => some con37
  | 31 => some con31
  | g => seat3 g
noncomputable def met2 : FuncId → Option Con
  | 36 => some (extC con36)
  | g => met1 g
noncomputable def metAnn (g : FuncId) (i : Nat) : Option Ann :=
  match g, i with
  | 37, 2 => some { τ := Nat, slots := fun S _ x => [(3, .int .i64 ((slD S 0).len - 1 - x))], blks := fun _ _ _ => [], inv := fun S _ x => x ≤ (slD S 0).len ∧ ∀ j, 0 < j → j < (slD S 0).len → (slD S 0).len < j + 1 + x → ¬ ((el (slD S 0) j).asInt < (el (slD S 0) (j - 1)).asInt), meas := fun S _ x => (slD S 0).len - x }
  | 36, 7 => some { hs := 2, τ := Nat, slots := fun S i x => [(27, .int .i64 x), (7, match i with | 0 => .val (.slice none 0 0) | _ => .slc 75 (.lit 0) (.sym (blkX (el (slD S 0) (slI S 1).toNat) (slI S 5) x).length) none)],
                    blks := fun S i x => match i with | 0 => [(slR S 6, .arr 4 (placedX (el (slD S 0) (slI S 1).toNat) x 0))] | _ => [(slR S 6, .arr 4 (placedX (el (slD S 0) (slI S 1).toNat) x 0)), (75, .arr 29 (blkX (el (slD S 0) (slI S 1).toNat) (slI S 5) x))],
                    inv := fun S i x => x ≤ (slI S 26).toNat ∧ (match i with | 0 => blkX (el (slD S 0) (slI S 1).toNat) (slI S 5) x = [] | _ => blkX (el (slD S 0) (slI S 1).toNat) (slI S 5) x ≠ []), meas := fun S _ x => (slI S 26).toNat - x }
  | 36, 12 => some { hs := 2, τ := Nat, slots := fun S i x => [(41, .int .i64 x), (9, match i with | 0 => .val (.slice none 0 0) | _ => .slc 76 (.lit 0) (.sym (blkM (el (slD S 0) (slI S 1).toNat) (slI S 5) (slI S 8).toNat x).length) none)],
                     blks := fun S i x => match i with | 0 => [(slR S 6, .arr 4 (placedX (el (slD S 0) (slI S 1).toNat) (slI S 8).toNat x))] | _ => [(slR S 6, .arr 4 (placedX (el (slD S 0) (slI S 1).toNat) (slI S 8).toNat x)), (76, .arr 3 (blkM (el (slD S 0) (slI S 1).toNat) (slI S 5) (slI S 8).toNat x))],
                     inv := fun S i x => x ≤ (slI S 40).toNat ∧ (match i with | 0 => blkM (el (slD S 0) (slI S 1).toNat) (slI S 5) (slI S 8).toNat x = [] | _ => blkM (el (slD S 0) (slI S 1).toNat) (slI S 5) (slI S 8).toNat x ≠ []), meas := fun S _ x => (slI S 40).toNat - x }
  | 11, 6 => some { τ := Nat, slots := fun _ _ x => [(29, .int .i64 x)], blks := fun S _ x => [(slB S 6, .grd 45 3 (gridL (slI S 4).toNat (farF (slD S 3)) x 0))], inv := fun S _ x => x ≤ (slI S 4).toNat, meas := fun S _ x => (slI S 4).toNat - x }
  | 11, 9 => some { τ := Nat, slots := fun _ _ x => [(33, .int .i64 x)], blks := fun S _ x => [(slB S 6, .grd 45 3 (gridL (slI S 4).toNat (farF (slD S 3)) (slI S 29).toNat x))], inv := fun S _ x => x ≤ (slI S 4).toNat, meas := fun S _ x => (slI S 4).toNat - x }
  | 11, 20 => some { τ := Nat, slots := fun _ _ x => [(97, .int .i64 x)], blks := fun _ _ _ => [], inv := fun S _ x => x ≤ (slI S 4).toNat, meas := fun S _ x => (slI S 4).toNat - x }
  | 11, 23 => some { τ := Nat, slots := fun _ _ x => [(101, .int .i64 x)], blks := fun _ _ _ => [], inv := fun S _ x => x ≤ (slI S 4).toNat, meas := fun S _ x => (slI S 4).toNat - x }
  | 11, 26 => some { τ := Nat, slots := fun _ _ x => [(105, .int .i64 x)], blks := fun _ _ _ => [], inv := fun S _ x => x ≤ (slI S 4).toNat, meas := fun S _ x => (slI S 4).toNat - x }
  | 11, 35 => some { τ := Nat, slots := fun S _ x => [(160, .int .i64 x), (14, .int .i64 (sumLen (slD S 158) x))], blks := fun _ _ _ => [], inv := fun S _ x => x ≤ (slD S 158).len, meas := fun S _ x => (slD S 158).len - x }
  | 11, 40 => some { τ := Nat, slots := fun S _ x => [(169, .int .i64 x), (14, .int .i64 (slI S 14 + x))], blks := fun _ _ _ => [], inv := fun S _ x => x ≤ (slD S 167).len, meas := fun S _ x => (slD S 167).len - x }
  | 11, 43 => some { τ := Nat, slots := fun _ _ x => [(174, .int .i64 x)], blks := fun _ _ _ => [], inv := fun S _ x => x ≤ (slI S 4).toNat, meas := fun S _ x => (slI S 4).toNat - x }
  | g, i => l2Ann g i
end Go.Ev
