/-
  Part of the engine that the claim is proved with: it states nothing of the document by itself.
-/
import Derived.Test.YtpopdemanadllaaGreatDoorCoreNtDefs
import Derived.Test.YtpopdemanadllaaGreatDoorCoreNtM
import Derived.Test.YtpopdemanadllaaGreatDoorCoreRnD
open Go.Proofs
namespace Go.Ev
def hfR (q : List D) (x y : Nat) : List D := (List.range y).map fun y => .int (nAt (nthD q x) y)
def hfL (q : List D) : Nat → List D
 | 0 => []
 | x + 1 => hfL q x ++ hfR q x x
noncomputable def yB (S : SS) (t : Tmp) (sl : Tmp) : Nat := match S.fr.get t with | some (.yld b) => (match S.hp.get b with | some (.lp _ _ fr _ _ _ _) => (match fr.get sl with | some (.ptr c _) => c | _ => 0) | _ => 0) | _ => 0
noncomputable def rowB (S : SS) (b : Nat) : Nat := match S.hp.get b with | some (.box _ [.slc r _ _ _]) => r | _ => Nat.add S.nx 300
def sqSum (l : D) : Nat → Int
 | 0 => 0
 | x + 1 => sqSum l x + nAt l x * nAt l x
def mxZ (l : D) : Nat → Int
 | 0 => 0
 | x + 1 => max (mxZ l x) (nAt l x)
def mnZ (l : D) : Nat → Int
 | 0 => nAt l 0
 | x + 1 => min (mnZ l x) (nAt l (x + 1))
noncomputable def mtAnn : FuncId → Nat → Option Ann
 | 40, 3 => some { τ := Nat, slots := fun _ _ x => [(8, .int .i64 x)], blks := fun S _ x => [(slSB S 3, .own S.nx 25 3 (zrL (slI S 0).toNat x))], inv := fun S _ x => x ≤ (slI S 0).toNat, meas := fun S _ x => (slI S 0).toNat - x }
 | 38, 3 => some { τ := Nat, slots := fun _ _ x => [(16, .int .i64 x)], blks := fun S _ x => [(slSB S 7, .own S.nx 25 3 (pqS (slRow S 7) (slD S 14) x))], inv := fun S _ x => x ≤ (slD S 14).len, meas := fun S _ x => (slD S 14).len - x }
 | 38, 6 => some { τ := Nat, slots := fun _ _ y => [(22, .int .i64 y)], blks := fun S _ y => [(slSB S 7, .own S.nx 25 3 (pqE (slRow S 7) (slD S 20) y))], inv := fun S _ y => y ≤ (slD S 20).len, meas := fun S _ y => (slD S 20).len - y }
 | 68, 1 => some { τ := Nat, slots := fun _ _ z => [(9, .int .i64 z)], blks := fun S _ z => [(0, .own S.nx 25 3 (pqN (bkL S 0) (slD S 7) z))], inv := fun S _ z => z ≤ (slD S 7).len, meas := fun S _ z => (slD S 7).len - z }
 | 68, 4 => some { τ := Nat, slots := fun _ _ z => [(18, .int .i64 z)], blks := fun S _ z => [(0, .own S.nx 25 3 (pqI (bkL S 0) (slD S 7) (slI S 3).toNat z))], inv := fun S _ z => z ≤ (slI S 3).toNat, meas := fun S _ z => (slI S 3).toNat - z }
 | 89, 1 => some { hs := 2, τ := Nat, slots := fun _ _ x => [(7, .int .i64 x)], blks := fun S i x => match i with | 0 => [(yB S 0 2, .box 25 [.val (.slice none 0 0)])] | _ => [(yB S 0 2, .box 25 [.slc (rowB S (yB S 0 2)) (.lit 0) (.sym (hfL (bkL S 0) x).length) none]), (rowB S (yB S 0 2), .arr 3 (hfL (bkL S 0) x))], inv := fun S i x => match i with | 0 => x ≤ 1 ∧ x ≤ (bkL S 0).length | _ => 1 < x ∧ x ≤ (bkL S 0).length, meas := fun S _ x => (bkL S 0).length - x }
 | 89, 4 => some { hs := 2, τ := Nat, slots := fun _ _ y => [(11, .int .i64 y)], blks := fun S i y => match i with | 0 => [(yB S 0 2, .box 25 [.val (.slice none 0 0)])] | _ => [(yB S 0 2, .box 25 [.slc (rowB S (yB S 0 2)) (.lit 0) (.sym (hfL (bkL S 0) (slI S 3).toNat ++ hfR (bkL S 0) (slI S 3).toNat y).length) none]), (rowB S (yB S 0 2), .arr 3 (hfL (bkL S 0) (slI S 3).toNat ++ hfR (bkL S 0) (slI S 3).toNat y))], inv := fun S i y => match i with | 0 => y = 0 ∧ (slI S 3).toNat ≤ 1 | _ => (1 < (slI S 3).toNat ∨ 0 < y) ∧ y ≤ (slI S 3).toNat, meas := fun S _ y => (slI S 3).toNat - y }
 | 16, 3 => some { τ := Nat, slots := fun S _ x => [(12, .int .i64 x), (5, .int .i64 (mxZ (slD S 10) x))], blks := fun _ _ _ => [], inv := fun S _ x => x ≤ (slD S 10).len, meas := fun S _ x => (slD S 10).len - x }
 | 18, 3 => some { τ := Nat, slots := fun S _ x => [(12, .int .i64 x), (5, .int .i64 (sqSum (slD S 10) x))], blks := fun _ _ _ => [], inv := fun S _ x => x ≤ (slD S 10).len, meas := fun S _ x => (slD S 10).len - x }
 | 44, 5 => some { τ := Nat, slots := fun S _ x => [(4, .int .i64 ((x + 1 : Nat) : Int)), (3, .int .i64 (mnZ (slD S 0) x))], blks := fun _ _ _ => [], inv := fun S _ x => x + 1 ≤ (slD S 0).len, meas := fun S _ x => (slD S 0).len - x }
 | _, _ => none
structure okS (n : Int) (l : D) : Prop where
 n1 : 1 ≤ n
 n2 : n ≤ 64
 fit : fitP n l
noncomputable def ctxs (con : FuncId → Option Con) (ann : FuncId → Nat → Option Ann) : Ctx := { ctx con ann with sm := fun t => Nat.beq t 70 || Nat.beq t 71 }
instance (con : FuncId → Option Con) (ann : FuncId → Nat → Option Ann) : Nonempty (NoF (ctxs con ann)) := ⟨⟨fun _ _ h => by cases h⟩⟩
end Go.Ev
