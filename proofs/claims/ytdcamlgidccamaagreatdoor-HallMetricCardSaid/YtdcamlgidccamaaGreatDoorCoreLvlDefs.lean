/-
  Part of the engine that the claim is proved with: it states nothing of the document by itself.
-/
import Derived.Test.YtdcamlgidccamaaGreatDoorCoreDistDefs
open Go.Proofs
namespace Go.Ev

/-! ### Seats of a hall -/
noncomputable def con86 : Con := fun | [.agg [.str _, .int .u8 sh, .int .i64 a, .int .i64 b, .dat 29 _, .int .i64 _, .int .i64 _], .int .i64 k] => some (inTab sh a b k, .dat 29 (.list (distRow (sizeZ sh a b).toNat sh a b k))) | _ => none
noncomputable def seat3 : FuncId → Option Con
  | 86 => some con86
  | g => seat2 g
/-- The table at which seat p of the hall is, and what holds of two of its seats. -/
noncomputable def tabAt (l : D) (p : Int) : D := el l (whereT l p).toNat
noncomputable def nearT (t : D) (k m : Int) : Prop := nearP (tShape t) (tA t) (tB t) k m
/-- Two numbers are seats of one table. -/
structure oneT (l : D) (p q : Int) : Prop where
  out : whereP l p ∧ whereP l q ∧ whereT l p = whereT l q
noncomputable def rowT (l : D) (p : Int) : List D := distRow (sizeT' (tabAt l p)).toNat (tShape (tabAt l p)) (tA (tabAt l p)) (tB (tabAt l p)) (whereK l p)
noncomputable def distD (l : D) (p q : Int) : Int := (nthD (rowT l p) (whereK l q).toNat).asInt
structure distP (l : D) (p q : Int) : Prop where
  out : oneT l p q ∧ 0 ≤ distD l p q
open Classical in
noncomputable def distH (l : D) (p q : Int) : Int := if distP l p q then distD l p q else 0
/-- Two seats of the hall are beside, across from, near each other. -/
structure besideH (l : D) (p q : Int) : Prop where
  out : oneT l p q ∧ besideP (tShape (tabAt l p)) (tA (tabAt l p)) (tB (tabAt l p)) (whereK l p) (whereK l q)
structure acrossH (l : D) (p q : Int) : Prop where
  out : oneT l p q ∧ acrossP (tShape (tabAt l p)) (tA (tabAt l p)) (tB (tabAt l p)) (whereK l p) (whereK l q)
structure nearH (l : D) (p q : Int) : Prop where
  out : oneT l p q ∧ nearP (tShape (tabAt l p)) (tA (tabAt l p)) (tB (tabAt l p)) (whereK l p) (whereK l q)
noncomputable def con32 : Con := fun | [.dat 22 l, .int .i64 p, .int .i64 q] => some (smallD l ∧ i64P p ∧ i64P q, .tup [.int .i64 (distH l p q), .prop (distP l p q)]) | _ => none
noncomputable def con34 : Con := fun | [.dat 22 l, .int .i64 p, .int .i64 q] => some (smallD l ∧ i64P p ∧ i64P q, .prop (besideH l p q)) | _ => none
noncomputable def con35 : Con := fun | [.dat 22 l, .int .i64 p, .int .i64 q] => some (smallD l ∧ i64P p ∧ i64P q, .prop (acrossH l p q)) | _ => none
noncomputable def con33 : Con := fun | [.dat 22 l, .int .i64 p, .int .i64 q] => some (smallD l ∧ i64P p ∧ i64P q, .prop (nearH l p q)) | _ => none
/-- The seat is listed as open; the seats near one, of its table, below x. -/
structure openH (l : D) (p : Int) : Prop where
  out : whereP l p ∧ ∃ j, j < (tOpen (tabAt l p)).len ∧ (el (tOpen (tabAt l p)) j).asInt = whereK l p
structure notIn (o : D) (v : Int) (x : Nat) : Prop where
  out : ∀ j, j < x → (el o j).asInt ≠ v
open Classical in
noncomputable def nbL (sh a b k base : Int) (x : Nat) : List D := ((List.range x).filter fun (m : Nat) => decide (nearP sh a b k m)).map fun (m : Nat) => D.int (base + m)
noncomputable def nbX (d : D) (k base : Int) (x : Nat) : List D := nbL (tShape d) (tA d) (tB d) k base x
noncomputable def lvlAnn (g : FuncId) (i : Nat) : Option Ann :=
  match g, i with
  | 95, 2 => some { τ := Nat, slots := fun _ _ x => [(8, .int .i64 x)], blks := fun _ _ _ => [], inv := fun S _ x => x ≤ (slD S 0).len ∧ notIn (slD S 0) (slI S 1) x, meas := fun S _ x => (slD S 0).len - x }
  | 54, 6 => some { hs := 2, τ := Nat, slots := fun S i x => [(24, .int .i64 x), (8, match i with | 0 => .val (.slice none 0 0) | _ => .slc 70 (.lit 0) (.sym (nbX (el (slD S 0) (slI S 5).toNat) (slI S 6) (slI S 1 - slI S 6) x).length) none)],
                    blks := fun S i x => match i with | 0 => [] | _ => [(70, .arr 3 (nbX (el (slD S 0) (slI S 5).toNat) (slI S 6) (slI S 1 - slI S 6) x))], inv := fun S i x => x ≤ (slI S 23).toNat ∧ (match i with | 0 => nbX (el (slD S 0) (slI S 5).toNat) (slI S 6) (slI S 1 - slI S 6) x = [] | _ => nbX (el (slD S 0) (slI S 5).toNat) (slI S 6) (slI S 1 - slI S 6) x ≠ []), meas := fun S _ x => (slI S 23).toNat - x }
  | g, i => distAnn g i
noncomputable def nearL (l : D) (p : Int) : D := listD (nbX (tabAt l p) (whereK l p) (p - whereK l p) (sizeT' (tabAt l p)).toNat)
open Classical in
noncomputable def nbD (l : D) (p : Int) : D := if whereP l p then nearL l p else .nil
noncomputable def con45 : Con := fun | [.dat 22 l, .int .i64 p] => some (smallD l ∧ i64P p, .prop (openH l p)) | _ => none
noncomputable def con54 : Con := fun | [.dat 22 l, .int .i64 p] => some (smallD l ∧ i64P p, .dat 29 (nbD l p)) | _ => none
/-- The seat of honour of a table; its levels. -/
noncomputable def honZ (sh a b : Int) : Int := if sh = 1 then 0 else if sh = 2 then (if b = 0 then a.tdiv 2 else a) else if sh = 3 then b + a.tdiv 2 else a.tdiv 2
noncomputable def con149 : Con := fun | [.agg [.str _, .int .u8 sh, .int .i64 a, .int .i64 b, .dat 29 _, .int .i64 _, .int .i64 _]] => some (sizeZ sh a b ≠ 0, .int .i64 (honZ sh a b)) | _ => none
noncomputable def seat4 : FuncId → Option Con
  | 149 => some con149
  | g => seat2 g
noncomputable def fixR (row : List D) (x : Nat) : List D := (row.take x).map (fun d => if d.asInt < 0 then .int row.length else d) ++ row.drop x
noncomputable def l2Ann (g : FuncId) (i : Nat) : Option Ann :=
  match g, i with
  | 109, 3 => some { τ := Nat, slots := fun _ _ x => [(12, .int .i64 x)], blks := fun S _ x => [(slR S 10, .arr 3 (fixR (bkL S (slR S 10)) x))], inv := fun S _ x => x ≤ (bkL S (slR S 10)).length, meas := fun S _ x => (bkL S (slR S 10)).length - x }
  | g, i => lvlAnn g i
noncomputable def levelRow (sh a b : Int) : List D := fixR (distRow (sizeZ sh a b).toNat sh a b (honZ sh a b)) (sizeZ sh a b).toNat
noncomputable def con109 : Con := fun | [.agg [.str _, .int .u8 sh, .int .i64 a, .int .i64 b, .dat 29 _, .int .i64 _, .int .i64 _]] => some (sizeZ sh a b ≠ 0, .dat 29 (.list (levelRow sh a b))) | _ => none
noncomputable def seat5 : FuncId → Option Con
  | 109 => some con109
  | 149 => some con149
  | g => seat3 g
open Classical in
noncomputable def levelH (l : D) (p : Int) : Int := if whereP l p then (nthD (levelRow (tShape (tabAt l p)) (tA (tabAt l p)) (tB (tabAt l p))) (whereK l p).toNat).asInt else 0
noncomputable def con53 : Con := fun | [.dat 22 l, .int .i64 p] => some (smallD l ∧ i64P p, .int .i64 (levelH l p)) | _ => none
end Go.Ev
