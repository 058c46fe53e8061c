/-
  Part of the engine that the claim is proved with: it states nothing of the document by itself.
-/
import Derived.Test.YtdcamlgidccamaaGreatDoorCoreSeatDefs
open Go.Proofs
namespace Go.Ev

/-! ### How far seats are apart -/
noncomputable def con170 : Con := fun | [.int .u64 a, .int .u64 n] => some (a = 1 ∧ 0 ≤ n ∧ n ≤ 24, .tup [.int .u64 0, .int .u64 n]) | _ => none
noncomputable def seat2 : FuncId → Option Con
  | 88 => some con88
  | 170 => some (extC con170)
  | g => seat1 g
/-- The row that a slot names; the fields of the table that is the first argument. -/
noncomputable def slR (S : SS) (t : Tmp) : Nat := match S.fr.get t with | some (.slc b _ _ _) => b | _ => 0
noncomputable def slN (S : SS) (t : Tmp) : Nat := match S.fr.get t with | some (.slc _ _ n _) => n.v | _ => 0
noncomputable def slC (S : SS) (t : Tmp) : Option NL := match S.fr.get t with | some (.slc _ _ _ c) => c | _ => none
noncomputable def tbI (S : SS) (i : Nat) : Int := match S.fr.get 0 with | some (.agg l) => (match l[i]? with | some v => (match intOf v with | some (_, n) => n | none => 0) | none => 0) | _ => 0
/-- Numbers as a row; a row that is filled up to k. -/
noncomputable def rowN (n : Nat) (L : Nat → Int) : List D := (List.range n).map fun m => .int (L m)
noncomputable def rowQ (Q : List Nat) : List D := Q.map fun (m : Nat) => D.int (m : Int)
noncomputable def rowF (k n : Nat) : List D := List.replicate k (.int (-1)) ++ List.replicate (n - k) (.int 0)
noncomputable def nearN (sh a b : Int) : Nat → Nat → Prop := fun k m => nearP sh a b k m
/-- How many numbers of a row are below 0. -/
noncomputable def negsR (l : List D) : Nat := (l.filter fun d => decide (d.asInt < 0)).length
structure bfsS (n : Nat) (sh a b from_ : Int) (L : Nat → Int) (Q : List Nat) : Prop where
  out : Bfs n (nearN sh a b) from_.toNat L Q
  low : ∀ m, m < n → L m + negs n L < n
  len : negs n L + Q.length ≤ n
structure bfsI (n : Nat) (sh a b from_ k i : Int) (L : Nat → Int) (Q : List Nat) : Prop where
  out : ∃ d : Nat, BfsIn n (nearN sh a b) from_.toNat k.toNat d i.toNat L Q
  low : ∀ m, m < n → L m + negs n L < n
noncomputable def distRow (n : Nat) (sh a b from_ : Int) : List D := rowN n fun m => distZ n (nearN sh a b) from_.toNat m
noncomputable def distAnn (g : FuncId) (i : Nat) : Option Ann :=
  match g, i with
  | 143, 8 => some { τ := Nat, slots := fun _ _ x => [(8, .int .i64 x)], blks := fun S _ x => [(slR S 7, .arr 3 (rowF x (slN S 7)))], inv := fun S _ x => 0 < x ∧ x ≤ slN S 7, meas := fun S _ x => slN S 7 - x }
  | 86, 4 => some { hs := 2, τ := (Nat → Int) × List D × List Nat,
                    slots := fun S i x => [(6, match i with | 0 => .slc (slR S 6) (.sym x.2.1.length) (.sym x.2.2.length) (some (.sym x.2.2.length)) | _ => .slc 190 (.sym x.2.1.length) (.sym x.2.2.length) none)],
                    blks := fun S i x => [((match i with | 0 => slR S 6 | _ => 190), .arr 3 (x.2.1 ++ rowQ x.2.2)), (slR S 5, .arr 3 (rowN (slN S 5) x.1))],
                    inv := fun S _ x => bfsS (slN S 5) (tbI S 1) (tbI S 2) (tbI S 3) (slI S 1) x.1 x.2.2,
                    meas := fun S _ x => negs (slN S 5) x.1 + x.2.2.length, dead := fun S => [slR S 6] }
  | 86, 8 => some { hs := 2, τ := (Nat → Int) × List D × List Nat × Nat,
                    slots := fun S i x => [(28, .int .i64 x.2.2.2), (6, match i with | 0 => .slc (slR S 6) (.sym x.2.1.length) (.sym x.2.2.1.length) (match slC S 6 with | none => none | some _ => some (.sym x.2.2.1.length)) | _ => .slc 191 (.sym x.2.1.length) (.sym x.2.2.1.length) none)],
                    blks := fun S i x => [((match i with | 0 => slR S 6 | _ => 191), .arr 3 (x.2.1 ++ rowQ x.2.2.1)), (slR S 5, .arr 3 (rowN (slN S 5) x.1))],
                    inv := fun S _ x => bfsI (slN S 5) (tbI S 1) (tbI S 2) (tbI S 3) (slI S 1) (slI S 7) x.2.2.2 x.1 x.2.2.1 ∧ x.2.2.2 ≤ slN S 5 ∧ negs (slN S 5) x.1 + x.2.2.1.length = negsR (bkL S (slR S 5)) + slN S 6,
                    meas := fun S _ x => slN S 5 - x.2.2.2, dead := fun S => [slR S 6] }
  | g, i => refAnn g i
end Go.Ev
