/-
  Part of the engine that the claim is proved with: it states nothing of the document by itself.
-/
import Derived.Test.YtdcamlgidccamaaGreatDoorProg
import Derived.Test.YtdcamlgidccamaaGreatDoorCoreSort
import Derived.Test.YtdcamlgidccamaaGreatDoorCoreSeC
open Go.Proofs
namespace Go.Ev

def atI (d : D) (k : Nat) : Int := (nthD d.asList k).asInt
def isPermD (d : D) : Prop := ∀ w : Nat, w < d.len → ∃ k, k < d.len ∧ atI d k = w
def goodD (d : D) : Prop := (∀ i, i < d.len → 0 ≤ atI d i ∧ atI d i < d.len) ∧ ∀ i j, i < j → j < d.len → atI d i ≠ atI d j
/-- The marks after k elements. -/
def seenL (d : D) (k : Nat) : List D := (List.range d.len).map fun (x : Nat) => D.bool (∃ i, i < k ∧ atI d i = x)
/-- Where a number was seen last among the first k. -/
def lastAt (d : D) (x : Nat) : Nat → Int
  | 0 => 0
  | k + 1 => if atI d k = x then k else lastAt d x k
def backL (d : D) (k : Nat) : List D := (List.range d.len).map fun (x : Nat) => D.int (lastAt d x k)
open Classical in
noncomputable def invD (d : D) : D := if goodD d then .list (backL d d.len) else .nil
def compL (p q : D) (n k : Nat) : List D := (List.range n).map fun (x : Nat) => D.int (if x < k then atI p (atI q x).toNat else 0)
def compA (p q : D) (k : Nat) : List D := (List.range k).map fun (x : Nat) => D.int (atI p (atI q x).toNat)
open Classical in
noncomputable def compD (p q : D) : D := if p.len = q.len ∧ goodD p ∧ goodD q then .list (compA p q q.len) else .nil
def eqD (a b : D) : Prop := a.len = b.len ∧ ∀ i, i < a.len → atI a i = atI b i

noncomputable def con80 : Con := fun | [.dat 29 d] => some (d.len ≤ 100, .prop (isPermD d)) | _ => none
noncomputable def con103 : Con := fun | [.dat 29 d] => some (d.len ≤ 100, .prop (goodD d)) | _ => none
noncomputable def con46 : Con := fun | [.dat 29 d] => some (d.len ≤ 100, .dat 29 d) | _ => none
noncomputable def con43 : Con := fun | [.dat 29 a, .dat 29 b] => some (a.len ≤ 100, .prop (eqD a b)) | _ => none
noncomputable def con42 : Con := fun | [.dat 29 d] => some (d.len ≤ 100, .dat 29 (invD d)) | _ => none
noncomputable def con44 : Con := fun | [.dat 29 p, .dat 29 q] => some (p.len ≤ 100 ∧ q.len ≤ 100, .dat 29 (compD p q)) | _ => none
noncomputable def con25 : Con := fun | [.dat 29 p, .dat 29 q] => some (p.len ≤ 60 ∧ q.len ≤ 60, .prop True) | _ => none
noncomputable def con7 : Con := fun | [.dat 29 _, .dat 29 _] => some (True, .prop True) | _ => none

noncomputable def permAnn : FuncId → Nat → Option Ann
  | 80, 2 => some { τ := Nat, slots := fun _ _ i => [(3, .int .i64 i)], blks := fun _ _ _ => [], inv := fun S _ i => i ≤ (slD S 0).len ∧ ∀ w : Nat, w < i → ∃ k, k < (slD S 0).len ∧ atI (slD S 0) k = w, meas := fun S _ i => (slD S 0).len - i }
  | 80, 6 => some { τ := Nat × Prop, slots := fun _ _ x => [(5, .int .i64 x.1), (4, .prop x.2)], blks := fun _ _ _ => [], inv := fun S _ x => x.1 ≤ (slD S 0).len ∧ (x.2 ↔ ∃ k, k < x.1 ∧ atI (slD S 0) k = slI S 3), meas := fun S _ x => (slD S 0).len - x.1 }
  | 103, 3 => some { τ := Nat, slots := fun _ _ x => [(11, .int .i64 x)], blks := fun S _ x => [(0, .arr 4 (seenL (slD S 0) x))], inv := fun S _ x => x ≤ (slD S 0).len ∧ (∀ i, i < x → 0 ≤ atI (slD S 0) i ∧ atI (slD S 0) i < (slD S 0).len) ∧ ∀ i j, i < j → j < x → atI (slD S 0) i ≠ atI (slD S 0) j, meas := fun S _ x => (slD S 0).len - x }
  | 43, 4 => some { τ := Nat, slots := fun _ _ x => [(13, .int .i64 x)], blks := fun _ _ _ => [], inv := fun S _ x => x ≤ (slD S 0).len ∧ ∀ i, i < x → atI (slD S 0) i = atI (slD S 1) i, meas := fun S _ x => (slD S 0).len - x }
  | 42, 5 => some { τ := Nat, slots := fun _ _ x => [(14, .int .i64 x)], blks := fun S _ x => [(0, .arr 3 (backL (slD S 0) x))], inv := fun S _ x => x ≤ (slD S 0).len, meas := fun S _ x => (slD S 0).len - x }
  | _, _ => none
noncomputable def annComp (p q : D) : FuncId → Nat → Option Ann
  | 104, 3 => some { τ := Nat, slots := fun _ _ x => [(11, .int .i64 x)], blks := fun _ _ x => [(2, .arr 3 (compL p q q.len x))], inv := fun _ _ x => x ≤ q.len, meas := fun _ _ x => q.len - x }
  | _, _ => none
noncomputable def annLaw (p q : D) : FuncId → Nat → Option Ann
  | 25, 6 => some { τ := Nat, slots := fun _ _ x => [(24, .int .i64 x)], blks := fun _ _ x => [(0, .arr 3 (backL p x))], inv := fun _ _ x => x ≤ p.len, meas := fun _ _ x => p.len - x }
  | 25, 12 => some { hs := 2, τ := Nat, slots := fun _ i x => match i with | 0 => [(45, .int .i64 0), (7, .val (.slice none 0 0))] | _ => [(45, .int .i64 x), (7, .slc 40 (.lit 0) (.sym x) none)],
                     blks := fun _ i x => match i with | 0 => [] | _ => [(40, .arr 3 (compA p q x))], inv := fun _ i x => match i with | 0 => x = 0 | _ => 0 < x ∧ x ≤ q.len, meas := fun _ _ x => q.len - x }
  | _, _ => none
noncomputable def ctx (con : FuncId → Option Con) (ann : FuncId → Nat → Option Ann) : Ctx := { P := Tryz.prog, con := con, ora := fun g => cond (Nat.beq g 21) (some (.bool true)) none, bits := 8148143480379123944539124198372026339899032286168269601245373172583125750031685756655763455, ann := ann, srt := rowsF }
noncomputable def conA : FuncId → Option Con
  | 80 => some con80
  | 103 => some con103
  | 46 => some con46
  | 43 => some con43
  | _ => none
noncomputable def conB : FuncId → Option Con
  | 42 => some con42
  | 44 => some con44
  | g => conA g
noncomputable def conC : FuncId → Option Con
  | 25 => some con25
  | _ => none
end Go.Ev
