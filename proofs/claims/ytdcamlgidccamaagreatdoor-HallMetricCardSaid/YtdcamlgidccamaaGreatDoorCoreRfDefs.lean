/-
  Part of the engine that the claim is proved with: it states nothing of the document by itself.
-/
import Derived.Test.YtdcamlgidccamaaGreatDoorCoreLvlDefs
import Derived.Test.YtdcamlgidccamaaGreatDoorCoreScan
open Go.Proofs
namespace Go.Ev

/-! ### Seats of a table, as the reference sees them -/
noncomputable def nextZ (a k : Int) : Int := if k + 1 = a then 0 else k + 1
structure aisleP (b k : Int) : Prop where
  out : b ≠ 0 ∧ 0 < k ∧ k.tmod b = 0
noncomputable def spX (a b k : Int) : Int := if k < a then k else if 0 < b then (if k = a then a else if k - a - 1 < a then a - 1 - (k - a - 1) else -1) else if k - a < a then a - 1 - (k - a) else -1
noncomputable def spY (a b k : Int) : Int := if k < a then 0 else if 0 < b then (if k = a then 1 else if k - a - 1 < a then 2 else 1) else if k - a < a then 2 else 1
open Classical in
/-- The first number below n with a property; -1 if there is none. -/
noncomputable def firstW (n : Nat) (P : Nat → Prop) : Int := if h : ∃ k, k < n ∧ P k ∧ ∀ j, j < k → ¬ P j then ((Classical.choose h : Nat) : Int) else -1
structure atSpot (a b x y : Int) (k : Nat) : Prop where
  out : spX a b k = x ∧ spY a b k = y
noncomputable def seatZ (sh a b x y : Int) : Int := firstW (sizeZ sh a b).toNat (atSpot a b x y)
structure isIn (o : D) (v : Int) : Prop where
  out : ∃ j, j < o.len ∧ (el o j).asInt = v
/-- The data field of the table that is the first argument; a field of a pair that is the second one. -/
noncomputable def tbD (S : SS) (i : Nat) : D := match S.fr.get 0 with | some (.agg l) => (match l[i]? with | some (.dat _ o) => o | _ => .nil) | _ => .nil
noncomputable def spI (S : SS) (i : Nat) : Int := match S.fr.get 1 with | some (.agg l) => (match l[i]? with | some v => (match intOf v with | some (_, n) => n | none => 0) | none => 0) | _ => 0
/-- Seat k of a round table, x steps on. -/
noncomputable def wrapZ (a k : Int) (x : Nat) : Int := if k + x < a then k + x else k + x - a
structure facing (a b k m : Int) (j : Nat) : Prop where
  out : (k = j ∧ m = a + 2 * b - 1 - j) ∨ (m = j ∧ k = a + 2 * b - 1 - j)
noncomputable def con226 : Con := fun | [.agg [.str _, .int .u8 sh, .int .i64 a, .int .i64 b, .dat 29 _, .int .i64 _, .int .i64 _], .int .i64 k] => some (inTab sh a b k ∧ sh = 1, .int .i64 (nextZ a k)) | _ => none
noncomputable def con227 : Con := fun | [.agg [.str _, .int .u8 sh, .int .i64 a, .int .i64 b, .dat 29 _, .int .i64 _, .int .i64 _], .int .i64 k] => some (inTab sh a b k ∧ sh = 4, .prop (aisleP b k)) | _ => none
noncomputable def con166 : Con := fun | [.agg [.str _, .int .u8 sh, .int .i64 a, .int .i64 b, .dat 29 _, .int .i64 _, .int .i64 _], .int .i64 k] => some (inTab sh a b k ∧ sh = 2, .agg [.int .i64 (spX a b k), .int .i64 (spY a b k)]) | _ => none
noncomputable def con167 : Con := fun | [.agg [.str _, .int .u8 sh, .int .i64 a, .int .i64 b, .dat 29 _, .int .i64 _, .int .i64 _], .agg [.int .i64 x, .int .i64 y]] => some (sh = 2 ∧ sizeZ sh a b ≠ 0 ∧ -100 ≤ x ∧ x ≤ 100 ∧ -100 ≤ y ∧ y ≤ 100, .int .i64 (seatZ sh a b x y)) | _ => none
noncomputable def con133 : Con := fun | [.agg [.str _, .int .u8 _, .int .i64 _, .int .i64 _, .dat 29 o, .int .i64 _, .int .i64 _], .int .i64 k] => some (o.len ≤ 100, .prop (isIn o k)) | _ => none
noncomputable def rf1 : FuncId → Option Con
  | 226 => some con226
  | 227 => some con227
  | 166 => some con166
  | g => num2 g
noncomputable def con164s : Con := fun | [.agg [.str _, .int .u8 sh, .int .i64 a, .int .i64 b, .dat 29 _, .int .i64 _, .int .i64 _], .int .i64 k, .int .i64 m] => some (inTab sh a b k ∧ inTab sh a b m ∧ k ≤ m, .prop (besideP sh a b k m)) | _ => none
/-- A call that is never made. -/
noncomputable def con164n : Con := fun | [.agg [.str _, .int .u8 _, .int .i64 _, .int .i64 _, .dat 29 _, .int .i64 _, .int .i64 _], .int .i64 _, .int .i64 _] => some (False, .prop False) | _ => none
noncomputable def rf1n : FuncId → Option Con
  | 164 => some con164n
  | g => rf1 g
noncomputable def rf1s : FuncId → Option Con
  | 164 => some con164s
  | g => rf1 g
noncomputable def rf1b : FuncId → Option Con
  | 167 => some (extC con167)
  | 164 => some con89
  | 133 => some con133
  | g => rf1 g
noncomputable def rf1c : FuncId → Option Con
  | 165 => some con90
  | 163 => some con149
  | g => rf1b g
noncomputable def rf2 : FuncId → Option Con
  | 135 => some con88
  | g => rf1c g
noncomputable def rfAnn (g : FuncId) (i : Nat) : Option Ann :=
  match g, i with
  | 227, 4 => some { τ := Nat, slots := fun S _ x => [(5, .int .i64 (tbI S 3 * (x + 1)))], blks := fun _ _ _ => [], inv := fun S _ x => x ≤ (tbI S 2).toNat ∧ ∀ i : Nat, i < x → tbI S 3 * (i + 1) ≠ slI S 1, meas := fun S _ x => (tbI S 2).toNat + 1 - x }
  | 167, 2 => some { τ := Nat, slots := fun _ _ x => [(5, .int .i64 x)], blks := fun _ _ _ => [], inv := fun S _ x => x ≤ (sizeZ (tbI S 1) (tbI S 2) (tbI S 3)).toNat ∧ ∀ j, j < x → ¬ atSpot (tbI S 2) (tbI S 3) (spI S 0) (spI S 1) j, meas := fun S _ x => (sizeZ (tbI S 1) (tbI S 2) (tbI S 3)).toNat - x }
  | 133, 2 => some { τ := Nat, slots := fun _ _ x => [(5, .int .i64 x)], blks := fun _ _ _ => [], inv := fun S _ x => x ≤ (tbD S 4).len ∧ notIn (tbD S 4) (slI S 1) x, meas := fun S _ x => (tbD S 4).len - x }
  | 165, 8 => some { τ := Nat, slots := fun S _ x => [(7, .int .i64 x), (1, .int .i64 (wrapZ (tbI S 2) (slI S 1) x))], blks := fun _ _ _ => [], inv := fun S _ x => x ≤ ((tbI S 2).tdiv 2).toNat, meas := fun S _ x => ((tbI S 2).tdiv 2).toNat - x }
  | 165, 17 => some { τ := Nat, slots := fun _ _ x => [(10, .int .i64 x)], blks := fun _ _ _ => [], inv := fun S _ x => x ≤ (tbI S 3).toNat ∧ ∀ j, j < x → ¬ facing (tbI S 2) (tbI S 3) (slI S 1) (slI S 2) j, meas := fun S _ x => (tbI S 3).toNat - x }
  | 134, 4 => some { hs := 2, τ := Nat, slots := fun _ i x => match i with | 0 => [(7, .int .i64 0), (6, .val (.slice none 0 0))] | _ => [(7, .int .i64 x), (6, .slc 71 (.lit 0) (.sym x) none)],
                     blks := fun _ i x => match i with | 0 => [] | _ => [(71, .arr 3 (rowN x fun _ => -1))], inv := fun S i x => match i with | 0 => x = 0 | _ => 0 < x ∧ x ≤ (slI S 5).toNat, meas := fun S _ x => (slI S 5).toNat - x }
  | 134, 9 => some { τ := Nat, slots := fun _ _ x => [(8, .int .i64 x)], blks := fun S _ x => [(slR S 6, .arr 3 (rowN (slN S 6) (midL (slN S 6) (nearN (tbI S 1) (tbI S 2) (tbI S 3)) (slI S 1).toNat x 0 0)))], inv := fun S _ x => x ≤ slN S 6, meas := fun S _ x => slN S 6 - x }
  | 134, 12 => some { τ := Nat, slots := fun _ _ x => [(9, .int .i64 x)], blks := fun S _ x => [(slR S 6, .arr 3 (rowN (slN S 6) (midL (slN S 6) (nearN (tbI S 1) (tbI S 2) (tbI S 3)) (slI S 1).toNat (slI S 8).toNat x 0)))], inv := fun S _ x => x ≤ slN S 6, meas := fun S _ x => slN S 6 - x }
  | 134, 15 => some { τ := Nat, slots := fun _ _ x => [(10, .int .i64 x)], blks := fun S _ x => [(slR S 6, .arr 3 (rowN (slN S 6) (midL (slN S 6) (nearN (tbI S 1) (tbI S 2) (tbI S 3)) (slI S 1).toNat (slI S 8).toNat (slI S 9).toNat x)))], inv := fun S _ x => x ≤ slN S 6, meas := fun S _ x => slN S 6 - x }
  | 132, 3 => some { τ := Nat, slots := fun _ _ x => [(4, .int .i64 x)], blks := fun S _ x => [(slR S 3, .arr 3 (fixR (bkL S (slR S 3)) x))], inv := fun S _ x => x ≤ (bkL S (slR S 3)).length, meas := fun S _ x => (bkL S (slR S 3)).length - x }
  | g, i => l2Ann g i
noncomputable def con134 : Con := fun | [.agg [.str _, .int .u8 sh, .int .i64 a, .int .i64 b, .dat 29 _, .int .i64 _, .int .i64 _], .int .i64 k] => some (inTab sh a b k, .dat 29 (.list (distRow (sizeZ sh a b).toNat sh a b k))) | _ => none
noncomputable def con132 : Con := fun | [.agg [.str _, .int .u8 sh, .int .i64 a, .int .i64 b, .dat 29 _, .int .i64 _, .int .i64 _]] => some (sizeZ sh a b ≠ 0, .dat 29 (.list (levelRow sh a b))) | _ => none
end Go.Ev
