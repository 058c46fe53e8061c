/-
  Part of the engine that the claim is proved with: it states nothing of the document by itself.
-/
import Derived.Test.YtenmglepjkflhaaGreatDoorCoreOqDefs
open Go.Proofs
namespace Go.Ev
structure hasT (t : D) (a : Int) : Prop where
 out : ∃ k, k < t.len ∧ nAt t k = a
structure bothT (t : D) (a b : Int) : Prop where
 l : hasT t a
 r : hasT t b
structure bothE (ev : D) (a b : Int) : Prop where
 out : ∃ j, j < ev.len ∧ bothT (el ev j) a b
open Classical in
noncomputable def togL (s : D) (a b : Int) : Nat → List D
 | 0 => []
 | x + 1 => if bothE (el s x) a b then togL s a b x ++ [.int (x : Nat)] else togL s a b x
open Classical in
noncomputable def togD (s : D) (a b : Int) : D := if a = b then .nil else listD (togL s a b s.len)
noncomputable def con34 : Con := fun | [.dat 27 t, .int .i64 x] => some (t.len ≤ 1000, .prop (hasT t x)) | _ => none
noncomputable def con13t : Con := fun | [.int .i64 n, .dat 22 s, .int .i64 a, .int .i64 b] => some (goodS n s, .dat 27 (togD s a b)) | _ => none
noncomputable def hasAnn : FuncId → Nat → Option Ann
 | 61, 2 => some { τ := Nat, slots := fun _ _ x => [(8, .int .i64 x)], blks := fun _ _ _ => [], inv := fun S _ x => x ≤ (slD S 0).len ∧ ∀ k, k < x → nAt (slD S 0) k ≠ slI S 1, meas := fun S _ x => (slD S 0).len - x }
 | _, _ => none
noncomputable def togAnn (a b : Int) : FuncId → Nat → Option Ann
 | 60, 2 => some { τ := Nat, slots := fun _ _ x => [(8, .int .i64 x)], blks := fun _ _ _ => [], inv := fun S _ x => x ≤ (slD S 0).len ∧ ∀ j, j < x → ¬ bothT (el (slD S 0) j) a b, meas := fun S _ x => (slD S 0).len - x }
 | 10, 5 => some { hs := 2, τ := Nat × List D, slots := fun S i x => match i with | 0 => [(23, .int .i64 x.1), (9, .val (.slice none 0 0))] | _ => [(23, .int .i64 x.1), (9, .slc (Nat.add S.nx 300) (.lit 0) (.sym x.2.length) none)], blks := fun S i x => match i with | 0 => [] | _ => [(Nat.add S.nx 300, .arr 3 x.2)], inv := fun S i x => match i with | 0 => x.1 ≤ (slD S 21).len ∧ x.2 = togL (slD S 21) a b x.1 ∧ x.2 = [] | _ => x.1 ≤ (slD S 21).len ∧ x.2 = togL (slD S 21) a b x.1 ∧ x.2 ≠ [], meas := fun S _ x => (slD S 21).len - x.1 }
 | _, _ => none
noncomputable def tg1 : FuncId → Option Con
 | 31 => some con16
 | 37 => some con34
 | _ => none
end Go.Ev
