/-
  Part of the engine that the claim is proved with: it states nothing of the document by itself.
-/
import Derived.Test.YtlihfnfigclbmaaDoorProg
import Derived.Test.YtlihfnfigclbmaaDoorCoreEv
import Derived.Test.YtlihfnfigclbmaaDoorCoreFd
import Derived.Test.YtlihfnfigclbmaaDoorCoreSeF
import Derived.Test.YtlihfnfigclbmaaDoorCoreKit
open Go.Proofs
namespace Go.Ev
def el (l : D) (i : Nat) : D := nthD l.asList i
def nAt (l : D) (i : Nat) : Int := (nthD l.asList i).asInt
structure okF (q a b : Int) : Prop where
 f : fldP q
 a : eltP q a
 b : eltP q b
open Classical in
noncomputable def addA (q a b : Int) : Int := if okF q a b then addZ q a b else 0
open Classical in
noncomputable def mulA (q a b : Int) : Int := if okF q a b then mulZ q a b else 0
def fpZ (q : Int) : Int := (prN q.toNat : Nat)
def frZ (q : Int) : Int := (rsN q.toNat : Nat)
def fieldV (q p r : Int) : V := .agg [.val (.int .i64 q), .val (.int .i64 p), .val (.int .i64 r)]
noncomputable def con36 (q p r : Int) : Con := fun
 | [.agg [.val (.int .i64 q'), .val (.int .i64 p'), .val (.int .i64 r')], .int .i64 a, .int .i64 d, .int .i64 b] => some ((q' = q ∧ p' = p ∧ r' = r) ∧ eltP q a ∧ eltP p d ∧ eltP q b, .int .i64 (plusZ q p a d b))
 | _ => none
noncomputable def con58 (q p r : Int) : Con := fun
 | [.agg [.val (.int .i64 q'), .val (.int .i64 p'), .val (.int .i64 r')], .int .i64 a] => some ((q' = q ∧ p' = p ∧ r' = r) ∧ eltP q a, .int .i64 (raisedZ q p r a))
 | _ => none
noncomputable def con11c (q : Int) : Con := fun | [.val (.int .i64 q'), .int .i64 a, .int .i64 b] => some (q' = q ∧ eltP q a ∧ eltP q b, .tup [.int .i64 (addZ q a b), .prop True]) | _ => none
noncomputable def con13c (q : Int) : Con := fun | [.val (.int .i64 q'), .int .i64 a, .int .i64 b] => some (q' = q ∧ eltP q a ∧ eltP q b, .tup [.int .i64 (mulZ q a b), .prop True]) | _ => none
noncomputable def extP (c : Con) : Con := fun us => c (us.map normV0)
def polyD (q : Int) : D := if q = 4 then .list [.int 1, .int 1, .int 1] else if q = 8 then .list [.int 1, .int 1, .int 0, .int 1] else if q = 9 then .list [.int 1, .int 0, .int 1] else if q = 16 then .list [.int 1, .int 1, .int 0, .int 0, .int 1] else .nil
def divI (a p : Int) : Nat → Int
 | 0 => a
 | n + 1 => (divI a p n).tdiv p
def digL (a p : Int) : Nat → List D
 | 0 => []
 | n + 1 => digL a p n ++ [.int ((divI a p n).tmod p)]
def powI (p : Int) : Nat → Int
 | 0 => 1
 | n + 1 => powI p n * p
def numL (d : List D) (p : Int) : Nat → Int
 | 0 => 0
 | n + 1 => numL d p n + (nthD d n).asInt * powI p n
noncomputable def forceDs {β : Type} (l : List D) : (List D → β) → β := List.rec (motive := fun _ => (List D → β) → β) (fun k => k []) (fun d _ ih k => forceInt d.asInt fun n => ih fun l => k (.int n :: l)) l
theorem forceDs_eq {β : Type} (l : List D) (k : List D → β) : forceDs l k = k (l.map fun d => .int d.asInt) := by
 induction l generalizing k with
 | nil => rfl
 | cons d l ih => show forceInt d.asInt (fun n => forceDs l fun l => k (.int n :: l)) = _; rw [forceInt_eq, ih]; rfl
noncomputable def upd (l : List D) (j : Nat) (z : Int → Int) : List D := forceDs l fun l => l.set j (.int (z (nthD l j).asInt))
noncomputable def addL (p : Int) (xs ys : List D) : Nat → List D
 | 0 => xs
 | k + 1 => upd (addL p xs ys k) k fun v => (v + (nthD ys k).asInt).tmod p
noncomputable def mulI (p : Int) (xs ys : List D) (i : Nat) (d : List D) : Nat → List D
 | 0 => d
 | k + 1 => upd (mulI p xs ys i d k) (i + k) fun v => (v + (nthD xs i).asInt * (nthD ys k).asInt).tmod p
noncomputable def mulO (p : Int) (xs ys : List D) (m : Nat) (d : List D) : Nat → List D
 | 0 => d
 | i + 1 => mulI p xs ys i (mulO p xs ys m d i) m
noncomputable def redI (p : Int) (poly : D) (base : Nat) (k : Int) (d : List D) : Nat → List D
 | 0 => d
 | i + 1 => upd (redI p poly base k d i) (base + i) fun v => (v + (p - k) * nAt poly i).tmod p
noncomputable def redO (p : Int) (poly : D) (m : Nat) (d : List D) : Nat → List D
 | 0 => d
 | x + 1 => forceDs (redO p poly m d x) fun d => redI p poly (m - 1 - x) (nthD d (2 * m - 1 - x)).asInt d (m + 1)
structure pmP (p m : Int) : Prop where
 out : (p = 2 ∧ m = 2) ∨ (p = 2 ∧ m = 3) ∨ (p = 3 ∧ m = 2) ∨ (p = 2 ∧ m = 4)
structure digP (p : Int) (d : List D) : Prop where
 out : ∀ x, x ∈ d → ∃ n : Int, x = .int n ∧ 0 ≤ n ∧ n < p
open Classical in
noncomputable def fqZ (q : Int) : Int := if fldP q then q else 0
noncomputable def con34 : Con := fun | [.int .i64 q] => some (True, .tup [.agg [.int .i64 (fqZ q), .int .i64 (fpZ q), .int .i64 (frZ q)], .prop (fldP q)]) | _ => none
noncomputable def con28 : Con := fun | [.int .i64 q] => some (True, .tup [.int .i64 (fpZ q), .dat 24 (polyD q)]) | _ => none
noncomputable def con54 : Con := fun | [.dat 24 d, .int .i64 p, .int .i64 m] => some (pmP p m ∧ m ≤ d.len ∧ digP p d.asList, .int .i64 (numL d.asList p m.toNat)) | _ => none
noncomputable def con29 : Con := fun | [.int .i64 q, .int .i64 a, .int .i64 b] => some (okF q a b, .int .i64 (addZ q a b)) | _ => none
noncomputable def con30 : Con := fun | [.int .i64 q, .int .i64 a, .int .i64 b] => some (okF q a b, .int .i64 (mulZ q a b)) | _ => none
noncomputable def con11n : Con := fun | [.int .i64 q, .int .i64 a, .int .i64 b] => some (¬ okF q a b, .tup [.int .i64 0, .prop False]) | _ => none
noncomputable def con11 : Con := fun | [.int .i64 q, .int .i64 a, .int .i64 b] => some (True, .tup [.int .i64 (addA q a b), .prop (okF q a b)]) | _ => none
noncomputable def con13 : Con := fun | [.int .i64 q, .int .i64 a, .int .i64 b] => some (True, .tup [.int .i64 (mulA q a b), .prop (okF q a b)]) | _ => none
noncomputable def conN3 : Con := fun | [_, _, _] => some (False, .val (.int .i64 0)) | _ => none
noncomputable def conN4 : Con := fun | [_, _, _, _] => some (False, .val (.int .i64 0)) | _ => none
noncomputable def con8 : Con := fun | [.int .i64 _, .int .i64 _, .int .i64 _] => some (True, .prop True) | _ => none
noncomputable def slB (S : SS) (t : Tmp) : Nat := match S.fr.get t with | some (.ptr b _) => b | _ => 0
noncomputable def slRow (S : SS) (t : Tmp) : List D := match S.fr.get t with | some (.slc b _ _ _) => bkL S b | _ => []
noncomputable def slSB (S : SS) (t : Tmp) : Nat := match S.fr.get t with | some (.slc b _ _ _) => b | _ => 0
noncomputable def noAnn : FuncId → Nat → Option Ann := fun _ _ => none
noncomputable def rfAnn : FuncId → Nat → Option Ann
 | 53, 3 => some { hs := 2, τ := Nat, slots := fun S i x => match i with | 0 => [(8, .int .i64 0), (7, .val (.slice none 0 0)), (0, .int .i64 (slI S 0))] | _ => [(8, .int .i64 x), (7, .slc (Nat.add S.fl 50) (.lit 0) (.sym x) none), (0, .int .i64 (divI (slI S 0) (slI S 1) x))],
                   blks := fun S i x => match i with | 0 => [] | _ => [(Nat.add S.fl 50, .arr 3 (digL (slI S 0) (slI S 1) x))], inv := fun S i x => match i with | 0 => x = 0 | _ => 0 < x ∧ x ≤ (slI S 2).toNat, meas := fun S _ x => (slI S 2).toNat - x }
 | 54, 3 => some { τ := Nat, slots := fun S _ x => [(9, .int .i64 x), (7, .int .i64 (numL (slD S 0).asList (slI S 1) x)), (8, .int .i64 (powI (slI S 1) x))], blks := fun _ _ _ => [], inv := fun S _ x => x ≤ (slI S 2).toNat, meas := fun S _ x => (slI S 2).toNat - x }
 | 29, 7 => some { τ := Nat × List D, slots := fun _ _ x => [(12, .int .i64 x.1)], blks := fun S _ x => [(slSB S 10, .arr 3 x.2)], inv := fun S _ x => x.1 ≤ (slI S 9).toNat ∧ x.2 = addL (slI S 7) (slRow S 10) (slRow S 11) x.1, meas := fun S _ x => (slI S 9).toNat - x.1 }
 | 30, 8 => some { τ := Nat × List D, slots := fun _ _ x => [(13, .int .i64 x.1)], blks := fun S _ x => [(slSB S 12, .arr 3 x.2)], inv := fun S _ x => x.1 ≤ (slI S 9).toNat ∧ x.2 = mulO (slI S 7) (slRow S 10) (slRow S 11) (slI S 9).toNat (slRow S 12) x.1, meas := fun S _ x => (slI S 9).toNat - x.1 }
 | 30, 11 => some { τ := Nat × List D, slots := fun _ _ x => [(14, .int .i64 x.1)], blks := fun S _ x => [(slSB S 12, .arr 3 x.2)], inv := fun S _ x => x.1 ≤ (slI S 9).toNat ∧ x.2 = mulI (slI S 7) (slRow S 10) (slRow S 11) (slI S 13).toNat (slRow S 12) x.1, meas := fun S _ x => (slI S 9).toNat - x.1 }
 | 30, 15 => some { τ := Nat × List D, slots := fun S _ x => [(15, .int .i64 (2 * slI S 9 - 1 - x.1))], blks := fun S _ x => [(slSB S 12, .arr 3 x.2)], inv := fun S _ x => x.1 ≤ (slI S 9).toNat ∧ x.2 = redO (slI S 7) (slD S 8) (slI S 9).toNat (slRow S 12) x.1, meas := fun S _ x => (slI S 9).toNat - x.1 }
 | 30, 19 => some { τ := Nat × List D, slots := fun _ _ x => [(17, .int .i64 x.1)], blks := fun S _ x => [(slSB S 12, .arr 3 x.2)], inv := fun S _ x => x.1 ≤ (slI S 9).toNat + 1 ∧ x.2 = redI (slI S 7) (slD S 8) (slI S 15 - slI S 9).toNat (slI S 16) (slRow S 12) x.1, meas := fun S _ x => (slI S 9).toNat + 1 - x.1 }
 | _, _ => none
noncomputable def rfJoin : FuncId → Nat → Option Ann
 | 29, 6 => some { τ := List D × List D, slots := fun S _ _ => [(10, .slc (Nat.add S.nx 200) (.lit 0) (.sym (slI S 9).toNat) none), (11, .slc (Nat.add S.nx 201) (.lit 0) (.sym (slI S 9).toNat) none)], blks := fun S _ x => [(Nat.add S.nx 200, .arr 3 x.1), (Nat.add S.nx 201, .arr 3 x.2)], inv := fun S _ x => x.1 = digL (slI S 1) (slI S 7) (slI S 9).toNat ∧ x.2 = digL (slI S 2) (slI S 7) (slI S 9).toNat, meas := fun _ _ _ => 0 }
 | 30, 6 => some { τ := List D × List D, slots := fun S _ _ => [(10, .slc (Nat.add S.nx 200) (.lit 0) (.sym (slI S 9).toNat) none), (11, .slc (Nat.add S.nx 201) (.lit 0) (.sym (slI S 9).toNat) none)], blks := fun S _ x => [(Nat.add S.nx 200, .arr 3 x.1), (Nat.add S.nx 201, .arr 3 x.2)], inv := fun S _ x => x.1 = digL (slI S 1) (slI S 7) (slI S 9).toNat ∧ x.2 = digL (slI S 2) (slI S 7) (slI S 9).toNat, meas := fun _ _ _ => 0 }
 | 30, 7 => some { τ := List D, slots := fun S _ _ => [(12, .slc (Nat.add S.nx 200) (.lit 0) (.sym (2 * slI S 9).toNat) none)], blks := fun S _ x => [(Nat.add S.nx 200, .arr 3 x)], inv := fun S _ x => x = digL 0 (slI S 7) (2 * slI S 9).toNat, meas := fun _ _ _ => 0 }
 | _, _ => none
noncomputable def ctx (con : FuncId → Option Con) (ann : FuncId → Nat → Option Ann) : Ctx := { P := Tryd.prog, con := con, ora := fun g => cond (Nat.beq g 9) (some (.bool true)) none, bits := 42535295865117307932921825928971026431, ann := ann }
instance (con : FuncId → Option Con) (ann : FuncId → Nat → Option Ann) : Nonempty (NoF (ctx con ann)) := ⟨⟨fun _ _ h => by cases h⟩⟩
noncomputable def ctxj (con : FuncId → Option Con) (ann : FuncId → Nat → Option Ann) (join : FuncId → Nat → Option Ann) : Ctx := { ctx con ann with join := join }
instance (con : FuncId → Option Con) (ann join : FuncId → Nat → Option Ann) : Nonempty (NoF (ctxj con ann join)) := ⟨⟨fun _ _ h => by cases h⟩⟩
noncomputable def cc0 : FuncId → Option Con := fun _ => none
noncomputable def cq1 (q p r : Int) : FuncId → Option Con
 | 36 => some (extP (con36 q p r))
 | _ => none
noncomputable def cq2 (q p r : Int) : FuncId → Option Con
 | 58 => some (extP (con58 q p r))
 | 36 => some (extP (con36 q p r))
 | _ => none
noncomputable def cn1 : FuncId → Option Con
 | 34 => some con34
 | 36 => some conN4
 | 37 => some conN3
 | _ => none
noncomputable def cr1 : FuncId → Option Con
 | 28 => some con28
 | 54 => some con54
 | _ => none
noncomputable def cf1 : FuncId → Option Con
 | 28 => some con28
 | 29 => some con29
 | 30 => some con30
 | 11 => some (extP con11)
 | 13 => some (extP con13)
 | _ => none
noncomputable def cf2 : FuncId → Option Con
 | 8 => some con8
 | _ => none
def qL (n : Nat) : Int := (nthD [D.int 2, D.int 3, D.int 4, D.int 5, D.int 7, D.int 8, D.int 9, D.int 11, D.int 13, D.int 16] n).asInt
def nL (n : Nat) : Int := (nthD [D.int 0, D.int 1, D.int 6, D.int 10, D.int 12, D.int 14, D.int 15, D.int 17] n).asInt
def eZ (x : Int) (n : Nat) : Int := (IntKind.i64.wrap x).tmod (qL n)
noncomputable def axAnn : FuncId → Nat → Option Ann
 | 4, 9 => some { τ := Nat, slots := fun S _ x => [(138, .int .i64 x), (17, .int .i64 (cntZ (fun u => addA (bkI S (slB S 9) 0) (slI S 10) u = 0) x)), (18, .int .i64 (cntZ (fun u => mulA (bkI S (slB S 9) 0) (slI S 10) u = 1) x)), (16, .prop True)], blks := fun S _ _ => [(slB S 13, .box 4 [.prop True])], inv := fun S _ x => x ≤ (bkI S (slB S 9) 0).toNat, meas := fun S _ x => (bkI S (slB S 9) 0).toNat - x }
 | _, _ => none
noncomputable def axJoin : FuncId → Nat → Option Ann
 | 10, 3 => some { τ := Unit, slots := fun _ _ _ => [], blks := fun S _ _ => [(slB S 3, .box 4 [.prop True])], inv := fun _ _ _ => True, meas := fun _ _ _ => 0 }
 | 12, 3 => some { τ := Unit, slots := fun _ _ _ => [], blks := fun S _ _ => [(slB S 3, .box 4 [.prop True])], inv := fun _ _ _ => True, meas := fun _ _ _ => 0 }
 | 4, 7 => some { τ := Unit, slots := fun _ _ _ => [(16, .prop True)], blks := fun S _ _ => [(slB S 13, .box 4 [.prop True])], inv := fun _ _ _ => True, meas := fun _ _ _ => 0 }
 | _, _ => none
end Go.Ev
