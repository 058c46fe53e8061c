/-
  Part of the engine that the claim is proved with: it states nothing of the document by itself.
-/
import Derived.Test.YtlihfnfigclbmaaDoorProg
import Derived.Test.YtlihfnfigclbmaaDoorCoreEv
import Derived.Test.YtlihfnfigclbmaaDoorCoreFd
import Derived.Test.YtlihfnfigclbmaaDoorCoreSeF
import Derived.Test.YtlihfnfigclbmaaDoorCoreKit

section
open Go.Proofs
namespace Go.Ev
def el (l : D) (i : Nat) : D := nthD l.asList i
def nAt (l : D) (i : Nat) : Int := (nthD l.asList i).asInt
def listD (l : List D) : D := match l with | [] => .nil | l => .list l
noncomputable def extP (c : Con) : Con := fun us => c (us.map normV0)
structure digP (p : Int) (d : List D) : Prop where
 out : ∀ x, x ∈ d → ∃ n : Int, x = .int n ∧ 0 ≤ n ∧ n < p
noncomputable def slSB (S : SS) (t : Tmp) : Nat := match S.fr.get t with | some (.slc b _ _ _) => b | _ => 0
noncomputable def ctx (con : FuncId → Option Con) (ann : FuncId → Nat → Option Ann) : Ctx := { P := Tryd.prog, con := con, ora := fun g => cond (Nat.beq g 9) (some (.bool true)) none, bits := 42535295865117307932921825928971026431, ann := ann }
instance (con : FuncId → Option Con) (ann : FuncId → Nat → Option Ann) : Nonempty (NoF (ctx con ann)) := ⟨⟨fun _ _ h => by cases h⟩⟩
noncomputable def ctxj (con : FuncId → Option Con) (ann : FuncId → Nat → Option Ann) (join : FuncId → Nat → Option Ann) : Ctx := { ctx con ann with join := join }
instance (con : FuncId → Option Con) (ann join : FuncId → Nat → Option Ann) : Nonempty (NoF (ctxj con ann join)) := ⟨⟨fun _ _ h => by cases h⟩⟩
noncomputable def cc0 : FuncId → Option Con := fun _ => none
end Go.Ev

end

section
open Go.Proofs
namespace Go.Ev
def sumZ (l : D) : Nat → Int
 | 0 => 0
 | n + 1 => sumZ l n + nAt l n
structure fitP (n : Int) (l : D) : Prop where
 out : (∀ i, i < l.len → 1 ≤ nAt l i) ∧ sumZ l l.len = n
structure okS (n : Int) (l : D) : Prop where
 n1 : 1 ≤ n
 n2 : n ≤ 64
 fit : fitP n l
def triZ (k : Int) : Int := (k * (k - 1)).tdiv 2
def triS (l : D) : Nat → Int
 | 0 => 0
 | n + 1 => triS l n + triZ (nAt l n)
structure eqN (a b : D) : Prop where
 out : a.len = b.len ∧ ∀ i, i < a.len → nAt a i = nAt b i
noncomputable def con42 : Con := fun | [.int .i64 n, .dat 24 l] => some ((1 ≤ n ∧ n ≤ 64) ∧ l.len ≤ 16777216, .prop (fitP n l)) | _ => none
noncomputable def con39 : Con := fun | [.int .i64 n, .dat 24 l] => some (l.len ≤ 16777216, .prop (okS n l)) | _ => none
noncomputable def ebAnn : FuncId → Nat → Option Ann
 | 19, 4 => some { τ := Nat, slots := fun _ _ x => [(13, .int .i64 x)], blks := fun _ _ _ => [], inv := fun S _ x => x ≤ (slD S 0).len ∧ ∀ i, i < x → nAt (slD S 0) i = nAt (slD S 1) i, meas := fun S _ x => (slD S 0).len - x }
 | 42, 3 => some { τ := Nat, slots := fun S _ x => [(11, .int .i64 x), (5, .int .i64 (slI S 0 - sumZ (slD S 1) x))], blks := fun _ _ _ => [], inv := fun S _ x => x ≤ (slD S 1).len ∧ (∀ i, i < x → 1 ≤ nAt (slD S 1) i) ∧ 0 ≤ sumZ (slD S 1) x ∧ sumZ (slD S 1) x ≤ slI S 0, meas := fun S _ x => (slD S 1).len - x }
 | 38, 4 => some { τ := Nat, slots := fun S _ x => [(20, .int .i64 x), (4, .int .i64 (triS (slD S 1) x))], blks := fun _ _ _ => [], inv := fun S _ x => x ≤ (slD S 1).len, meas := fun S _ x => (slD S 1).len - x }
 | 39, 3 => some { τ := Nat, slots := fun S _ x => [(6, .int .i64 x), (5, .int .i64 (sumZ (slD S 1) x))], blks := fun _ _ _ => [], inv := fun S _ x => x ≤ (slD S 1).len ∧ (∀ i, i < x → 1 ≤ nAt (slD S 1) i) ∧ 0 ≤ sumZ (slD S 1) x ∧ sumZ (slD S 1) x ≤ 128, meas := fun S _ x => (slD S 1).len - x }
 | 40, 3 => some { τ := Nat, slots := fun S _ x => [(4, .int .i64 x), (3, .int .i64 (triS (slD S 0) x))], blks := fun _ _ _ => [], inv := fun S _ x => x ≤ (slD S 0).len, meas := fun S _ x => (slD S 0).len - x }
 | 40, 6 => some { τ := Nat, slots := fun S _ x => [(5, .int .i64 x), (3, .int .i64 (slI S 3 + triZ x))], blks := fun _ _ _ => [], inv := fun S _ x => 1 ≤ x ∧ x ≤ (nAt (slD S 0) (slI S 4).toNat).toNat, meas := fun S _ x => (nAt (slD S 0) (slI S 4).toNat).toNat - x }
 | 16, 5 => some { τ := Nat, slots := fun _ _ x => [(8, .int .i64 x)], blks := fun _ _ _ => [], inv := fun S _ x => x = 0 ∨ ((x : Int) - 1) * triZ (slI S 0) < slI S 7, meas := fun S _ x => (slI S 7).toNat + 1 - x }
 | 18, 4 => some { τ := Nat, slots := fun _ _ x => [(7, .int .i64 x)], blks := fun _ _ _ => [], inv := fun S _ x => x ≤ 64 ∧ (x = 0 ∨ (x : Int) * triS (slD S 1) (slD S 1).len ≤ min (slI S 2) 64 * triZ (slI S 0)), meas := fun _ _ x => 64 - x }
 | _, _ => none
end Go.Ev

end

section
open Go.Proofs
namespace Go.Ev
structure eqNN (a b : D) : Prop where
 out : a.len = b.len ∧ ∀ i, i < a.len → eqN (el a i) (el b i)
structure eqS3 (a b : D) : Prop where
 out : a.len = b.len ∧ ∀ i, i < a.len → eqNN (el a i) (el b i)
structure smE (ev : D) : Prop where
 out : ev.len ≤ 100 ∧ ∀ i, i < ev.len → (el ev i).len ≤ 1000
structure bigP (s : D) : Prop where
 out : s.len ≤ 100 ∧ ∀ i, i < s.len → smE (el s i)
def totE (ev : D) : Nat → Nat
 | 0 => 0
 | n + 1 => totE ev n + (el ev n).len
def totS (s : D) : Nat → Nat
 | 0 => 0
 | n + 1 => totS s n + totE (el s n) (el s n).len
structure fewP (s : D) (m : Int) : Prop where
 out : s.len ≤ 70 ∧ (∀ i, i < s.len → (el s i).len ≤ 12) ∧ (totS s s.len : Int) ≤ m
structure lensP (s : D) : Prop where
 out : ∀ i j, i < s.len → j < (el s i).len → (el (el s i) j).len ≤ 1152921504606846976
def cpT (t : D) : D := .list t.asList
def cpEL (ev : D) (n : Nat) : List D := (List.range n).map fun i => cpT (el ev i)
def cpE (ev : D) : D := listD (cpEL ev ev.len)
def cpSL (s : D) (n : Nat) : List D := (List.range n).map fun i => cpE (el s i)
def cpS (s : D) : D := listD (cpSL s s.len)
def flatL (ev : D) : Nat → List D
 | 0 => []
 | n + 1 => flatL ev n ++ (el ev n).asList
def cntF (l : List D) (x : Int) : Int := match l with
 | [] => 0
 | a :: l => cntF l x + (if a.asInt = x then 1 else 0)
structure outP (n : Int) (l : List D) : Prop where
 out : ∃ a, a ∈ l ∧ ¬ (0 ≤ a.asInt ∧ a.asInt < n)
open Classical in
noncomputable def errG (n : Int) (l : List D) : Int :=
 if outP n l then 6 else if ∃ x : Int, (0 ≤ x ∧ x < n) ∧ 1 < cntF l x then 5 else if ∃ x : Int, (0 ≤ x ∧ x < n) ∧ cntF l x = 0 then 2 else 0
structure sameSz (ev sz : D) : Prop where
 out : ev.len = sz.len ∧ ∀ i, i < ev.len → ((el ev i).len : Int) = nAt sz i
structure emptyP (ev : D) : Prop where
 out : ∃ i, i < ev.len ∧ (el ev i).len = 0
open Classical in
noncomputable def errE (n : Int) (sz ev : D) : Int := if emptyP ev ∨ (0 < sz.len ∧ ¬ sameSz ev sz) then 2 else errG n (flatL ev ev.len)
open Classical in
noncomputable def scanK (n : Int) (sz s : D) : Nat → Nat → Int × Int
 | 0, _ => (0, 0)
 | f + 1, i => if errE n sz (el s i) ≠ 0 then ((i : Nat), errE n sz (el s i)) else scanK n sz s f (i + 1)
open Classical in
noncomputable def chk (n : Int) (sz s : D) : Int × Int := if ¬ (1 ≤ n ∧ n ≤ 64) ∨ (0 < sz.len ∧ ¬ fitP n sz) then (0, 90) else if 64 < s.len then (0, 7) else scanK n sz s s.len 0
noncomputable def con67 : Con := fun | [.dat 24 a, .dat 24 b] => some (a.len ≤ 16777216, .prop (eqN a b)) | _ => none
noncomputable def con47 : Con := fun | [.dat 51 a, .dat 51 b] => some (smE a, .prop (eqNN a b)) | _ => none
noncomputable def con24 : Con := fun | [.dat 33 a, .dat 33 b] => some (bigP a, .prop (eqS3 a b)) | _ => none
noncomputable def con20 : Con := fun | [.dat 33 s, .int .i64 m] => some ((0 ≤ m ∧ m ≤ 100000) ∧ lensP s, .prop (fewP s m)) | _ => none
noncomputable def con21 : Con := fun | [.dat 33 s] => some (bigP s, .dat 33 (cpS s)) | _ => none
noncomputable def con65 : Con := fun | [.dat 51 ev] => some (smE ev, .dat 24 (listD (flatL ev ev.len))) | _ => none
noncomputable def con64 : Con := fun | [.int .i64 n, .dat 24 d] => some ((1 ≤ n ∧ n ≤ 64) ∧ d.len ≤ 1000000, .int .i64 (errG n d.asList)) | _ => none
noncomputable def con43 : Con := fun | [.int .i64 n, .dat 24 sz, .dat 51 ev] => some ((1 ≤ n ∧ n ≤ 64) ∧ smE ev ∧ sz.len ≤ 1000, .int .i64 (errE n sz ev)) | _ => none
noncomputable def con66 : Con := fun | [.dat 51 ev, .int .i64 x] => some (smE ev, .int .i64 (cntF (flatL ev ev.len) x)) | _ => none
noncomputable def con22 : Con := fun | [.int .i64 n, .dat 24 sz, .dat 33 s] => some (sz.len ≤ 1000 ∧ bigP s, .tup [.int .i64 (chk n sz s).1, .int .i64 (chk n sz s).2]) | _ => none
noncomputable def rowId (S : SS) (t : Tmp) : Nat := match S.fr.get t with | some (.slc b _ _ _) => b | _ => 60
noncomputable def ekAnn : FuncId → Nat → Option Ann
 | 67, 4 => some { τ := Nat, slots := fun _ _ x => [(5, .int .i64 x)], blks := fun _ _ _ => [], inv := fun S _ x => x ≤ (slD S 0).len ∧ ∀ i, i < x → nAt (slD S 0) i = nAt (slD S 1) i, meas := fun S _ x => (slD S 0).len - x }
 | 47, 4 => some { τ := Nat, slots := fun _ _ x => [(5, .int .i64 x)], blks := fun _ _ _ => [], inv := fun S _ x => x ≤ (slD S 0).len ∧ ∀ i, i < x → eqN (el (slD S 0) i) (el (slD S 1) i), meas := fun S _ x => (slD S 0).len - x }
 | 45, 4 => some { τ := Nat, slots := fun _ _ x => [(17, .int .i64 x)], blks := fun _ _ _ => [], inv := fun S _ x => x ≤ (slD S 0).len ∧ ∀ i, i < x → eqNN (el (slD S 0) i) (el (slD S 1) i), meas := fun S _ x => (slD S 0).len - x }
 | 20, 5 => some { τ := Nat, slots := fun S _ x => [(15, .int .i64 x), (5, .int .i64 (totS (slD S 0) x))], blks := fun _ _ _ => [], inv := fun S _ x => x ≤ (slD S 0).len ∧ (∀ i, i < x → (el (slD S 0) i).len ≤ 12) ∧ (totS (slD S 0) x : Int) ≤ slI S 1, meas := fun S _ x => (slD S 0).len - x }
 | 20, 10 => some { τ := Nat, slots := fun S _ x => [(24, .int .i64 x), (5, .int .i64 (slI S 5 + (totE (slD S 22) x : Nat)))], blks := fun _ _ _ => [], inv := fun S _ x => x ≤ (slD S 22).len ∧ slI S 5 + (totE (slD S 22) x : Nat) ≤ slI S 1, meas := fun S _ x => (slD S 22).len - x }
 | 21, 3 => some { hs := 2, τ := Nat, slots := fun _ i x => match i with | 0 => [(11, .int .i64 0), (3, .val (.slice none 0 0))] | _ => [(11, .int .i64 x), (3, .slc 60 (.lit 0) (.sym x) none)],
                   blks := fun S i x => match i with | 0 => [] | _ => [(60, .arr 51 (cpSL (slD S 0) x))], inv := fun S i x => match i with | 0 => x = 0 | _ => 0 < x ∧ x ≤ (slD S 0).len, meas := fun S _ x => (slD S 0).len - x }
 | 21, 7 => some { hs := 2, τ := Nat, slots := fun _ i x => match i with | 0 => [(17, .int .i64 0), (6, .val (.slice none 0 0))] | _ => [(17, .int .i64 x), (6, .slc 90 (.lit 0) (.sym x) none)],
                   blks := fun S i x => match i with | 0 => [] | _ => [(90, .arr 24 (cpEL (slD S 15) x))], inv := fun S i x => match i with | 0 => x = 0 | _ => 0 < x ∧ x ≤ (slD S 15).len, meas := fun S _ x => (slD S 15).len - x }
 | 22, 6 => some { τ := Nat, slots := fun _ _ x => [(32, .int .i64 x)], blks := fun _ _ _ => [], inv := fun S _ x => x ≤ (slD S 2).len ∧ scanK (slI S 0) (slD S 1) (slD S 2) ((slD S 2).len - x) x = scanK (slI S 0) (slD S 1) (slD S 2) (slD S 2).len 0, meas := fun S _ x => (slD S 2).len - x }
 | 23, 6 => some { τ := Nat, slots := fun _ _ x => [(8, .int .i64 x)], blks := fun _ _ _ => [], inv := fun S _ x => x ≤ (slD S 2).len ∧ scanK (slI S 0) (slD S 1) (slD S 2) ((slD S 2).len - x) x = scanK (slI S 0) (slD S 1) (slD S 2) (slD S 2).len 0, meas := fun S _ x => (slD S 2).len - x }
 | 44, 4 => some { τ := Nat, slots := fun _ _ x => [(7, .int .i64 x)], blks := fun _ _ _ => [], inv := fun S _ x => x ≤ (slD S 2).len ∧ ∀ i, i < x → (el (slD S 2) i).len ≠ 0 ∧ (0 < (slD S 1).len → ((el (slD S 2) i).len : Int) = nAt (slD S 1) i), meas := fun S _ x => (slD S 2).len - x }
 | 44, 9 => some { τ := Nat, slots := fun _ _ x => [(8, .int .i64 x)], blks := fun _ _ _ => [], inv := fun S _ x => x ≤ (slD S 2).len ∧ ¬ outP (slI S 0) (flatL (slD S 2) x), meas := fun S _ x => (slD S 2).len - x }
 | 44, 12 => some { τ := Nat, slots := fun _ _ x => [(9, .int .i64 x)], blks := fun _ _ _ => [], inv := fun S _ x => x ≤ (el (slD S 2) (slI S 8).toNat).len ∧ ∀ i, i < x → 0 ≤ nAt (el (slD S 2) (slI S 8).toNat) i ∧ nAt (el (slD S 2) (slI S 8).toNat) i < slI S 0, meas := fun S _ x => (el (slD S 2) (slI S 8).toNat).len - x }
 | 44, 17 => some { τ := Nat, slots := fun _ _ x => [(10, .int .i64 x)], blks := fun _ _ _ => [], inv := fun S _ x => x ≤ (slI S 0).toNat ∧ ∀ v : Nat, v < x → cntF (flatL (slD S 2) (slD S 2).len) v ≤ 1, meas := fun S _ x => (slI S 0).toNat - x }
 | 44, 22 => some { τ := Nat, slots := fun _ _ x => [(11, .int .i64 x)], blks := fun _ _ _ => [], inv := fun S _ x => x ≤ (slI S 0).toNat ∧ ∀ v : Nat, v < x → cntF (flatL (slD S 2) (slD S 2).len) v ≠ 0, meas := fun S _ x => (slI S 0).toNat - x }
 | 66, 3 => some { τ := Nat, slots := fun S _ x => [(6, .int .i64 x), (5, .int .i64 (cntF (flatL (slD S 0) x) (slI S 1)))], blks := fun _ _ _ => [], inv := fun S _ x => x ≤ (slD S 0).len, meas := fun S _ x => (slD S 0).len - x }
 | 66, 6 => some { τ := Nat, slots := fun S _ x => [(7, .int .i64 x), (5, .int .i64 (slI S 5 + cntF ((el (slD S 0) (slI S 6).toNat).asList.take x) (slI S 1)))], blks := fun _ _ _ => [], inv := fun S _ x => x ≤ (el (slD S 0) (slI S 6).toNat).len, meas := fun S _ x => (el (slD S 0) (slI S 6).toNat).len - x }
 | 75, 2 => some { τ := Nat, slots := fun _ _ x => [(8, .int .i64 x)], blks := fun _ _ _ => [], inv := fun S _ x => x ≤ (slD S 0).len ∧ ∀ i, i < x → (el (slD S 0) i).len ≠ 0, meas := fun S _ x => (slD S 0).len - x }
 | 62, 4 => some { τ := Nat, slots := fun _ _ x => [(17, .int .i64 x)], blks := fun _ _ _ => [], inv := fun S _ x => x ≤ (slD S 0).len ∧ ∀ i, i < x → ((el (slD S 0) i).len : Int) = nAt (slD S 1) i, meas := fun S _ x => (slD S 0).len - x }
 | 65, 3 => some { τ := Nat, slots := fun S _ x => [(11, .int .i64 x), (3, .int .i64 (totE (slD S 0) x : Nat))], blks := fun _ _ _ => [], inv := fun S _ x => x ≤ (slD S 0).len, meas := fun S _ x => (slD S 0).len - x }
 | 65, 11 => some { hs := 2, τ := Nat × List D, slots := fun S i x => match i with | 0 => [(27, .int .i64 x.1), (6, .val (.slice none 0 0))] | _ => [(27, .int .i64 x.1), (6, .slc (rowId S 6) (.lit 0) (.sym (totE (slD S 0) x.1)) none)],
                    blks := fun S i x => match i with | 0 => [] | _ => [(rowId S 6, .arr 3 x.2)], inv := fun S i x => match i with | 0 => x.1 ≤ (slD S 0).len ∧ totE (slD S 0) (slD S 0).len = 0 | _ => x.1 ≤ (slD S 0).len ∧ 0 < totE (slD S 0) (slD S 0).len ∧ totE (slD S 0) x.1 ≤ x.2.length ∧ x.2.take (totE (slD S 0) x.1) = flatL (slD S 0) x.1, meas := fun S _ x => (slD S 0).len - x.1 }
 | _, _ => none
noncomputable def ekJoin : FuncId → Nat → Option Ann
 | 65, 10 => some { hs := 2, τ := List D, slots := fun S i _ => match i with | 0 => [(6, .val (.slice none 0 0))] | _ => [(6, .slc (Nat.add S.nx 200) (.lit 0) (.lit 0) none)], blks := fun S i x => match i with | 0 => [] | _ => [(Nat.add S.nx 200, .arr 3 x)], inv := fun S i _ => match i with | 0 => slI S 3 ≤ 0 | _ => 0 < slI S 3, meas := fun _ _ _ => 0 }
 | _, _ => none
noncomputable def gAnn (n : Int) : FuncId → Nat → Option Ann
 | 87, 2 => some { τ := Nat, slots := fun _ _ x => [(8, .int .i64 x)], blks := fun _ _ _ => [], inv := fun S _ x => x ≤ (slD S 0).len ∧ ∀ i, i < x → 0 ≤ nAt (slD S 0) i ∧ nAt (slD S 0) i < n, meas := fun S _ x => (slD S 0).len - x }
 | 64, 5 => some { τ := Nat × List D, slots := fun _ _ x => [(15, .int .i64 x.1)], blks := fun S _ x => [(slSB S 5, .arr 4 x.2)], inv := fun S _ x => x.1 ≤ (slD S 1).len ∧ x.2.length = n.toNat ∧ (∀ v : Nat, v < n → ((nthD x.2 v).asProp ↔ 0 < cntF ((slD S 1).asList.take x.1) v)) ∧ ∀ v : Nat, v < n → cntF ((slD S 1).asList.take x.1) v ≤ 1, meas := fun S _ x => (slD S 1).len - x.1 }
 | _, _ => none
noncomputable def ck1 : FuncId → Option Con
 | 67 => some con67
 | _ => none
noncomputable def ck2 : FuncId → Option Con
 | 47 => some con47
 | _ => none
noncomputable def ck3 : FuncId → Option Con
 | 64 => some con64
 | 65 => some con65
 | 66 => some con66
 | _ => none
noncomputable def ck4 : FuncId → Option Con
 | 42 => some con42
 | 39 => some con39
 | 43 => some con43
 | 44 => some con43
 | _ => none
end Go.Ev

end

section
open Go.Proofs
namespace Go.Ev
def sAt (l : D) (i : Nat) : List UInt8 := (nthD l.asList i).asStr
def digB (n : Int) : UInt8 := UInt8.ofNat (48 + n.toNat)
def decB (n : Int) : List UInt8 := if n < 10 then [digB n] else [digB (n / 10), digB (n % 10)]
def catB (l : D) (s : List UInt8) : Nat → List UInt8
 | 0 => []
 | n + 1 => catB l s n ++ (s ++ sAt l (n + 1))
def joinB (l : D) (s : List UInt8) : List UInt8 := if l.len = 0 then [] else sAt l 0 ++ catB l s (l.len - 1)
structure joinP (l : D) (s : List UInt8) : Prop where
 out : l.len ≤ 100 ∧ (1 ≤ s.length ∧ s.length ≤ 100) ∧ ∀ i, i < l.len → 1 ≤ (sAt l i).length ∧ (sAt l i).length ≤ 100
def spcB (n : Nat) : List UInt8 := if n = 0 then [] else [32]
def sepB (n : Nat) : List UInt8 := if n = 0 then [] else [32, 47, 32]
def wrB (t : D) : Nat → List UInt8
 | 0 => []
 | n + 1 => wrB t n ++ (spcB n ++ decB (nAt t n))
def eveB (ev : D) : Nat → List UInt8
 | 0 => []
 | n + 1 => eveB ev n ++ (sepB n ++ wrB (el ev n) (el ev n).len)
def fmtS (s : D) : Nat → List UInt8
 | 0 => []
 | n + 1 => fmtS s n ++ (eveB (el s n) (el s n).len ++ [10])
structure tabP (t : D) : Prop where
 out : t.len ≤ 64 ∧ ∀ i, i < t.len → 0 ≤ nAt t i ∧ nAt t i ≤ 63
structure wrP (s : D) : Prop where
 out : s.len ≤ 100 ∧ ∀ i, i < s.len → (el s i).len ≤ 100 ∧ ∀ j, j < (el s i).len → 1 ≤ (el (el s i) j).len ∧ tabP (el (el s i) j)
open Classical in
noncomputable def textS (n : Int) (s : D) : List UInt8 := if (chk n .nil s).2 = 0 then fmtS s s.len else []
def wordsT (t : D) (n : Nat) : List D := (List.range n).map fun i => .str (decB (nAt t i))
noncomputable def conF : Con := fun | [_] => some (False, .val (.int .i64 0)) | _ => none
noncomputable def con48 : Con := fun | [.int .i64 n] => some (0 ≤ n ∧ n ≤ 99, .str (decB n)) | _ => none
noncomputable def con70 : Con := fun | [.dat 90 l, .str s] => some (joinP l s, .str (joinB l s)) | _ => none
noncomputable def con51 : Con := fun | [.dat 24 t] => some (tabP t, .str (wrB t t.len)) | _ => none
noncomputable def con25 : Con := fun | [.int .i64 n, .dat 33 s] => some (bigP s, .prop ((chk n .nil s).2 = 0)) | _ => none
noncomputable def con26 : Con := fun | [.dat 33 s] => some (wrP s, .str (fmtS s s.len)) | _ => none
noncomputable def con27 : Con := fun | [.int .i64 n, .dat 33 s] => some (bigP s, .str (textS n s)) | _ => none
noncomputable def con22n : Con := fun | [.int .i64 n, .val (.slice none 0 0), .dat 33 s] => con22 [.int .i64 n, .dat 24 .nil, .dat 33 s] | us => con22 us
noncomputable def extC0 (c : Con) : Con := fun us => c (us.map fun v => match v with | .val (.string b) => .str b.data.toList | v => v)
noncomputable def ef0 : FuncId → Option Con
 | 91 => some conF
 | _ => none
noncomputable def ef1 : FuncId → Option Con
 | 69 => some con48
 | 48 => some con48
 | 70 => some (extC0 con70)
 | 22 => some con22n
 | 23 => some con22n
 | _ => none
noncomputable def ef2 : FuncId → Option Con
 | 49 => some con25
 | 51 => some con51
 | g => ef1 g
noncomputable def ef3 : FuncId → Option Con
 | 25 => some con25
 | 26 => some con26
 | 27 => some con27
 | 20 => some (extP con20)
 | 21 => some con21
 | 24 => some con24
 | _ => none
noncomputable def bkRow (S : SS) (b o r : Nat) : Nat := match bkV S b o with | .slc b _ _ _ => b | _ => r
noncomputable def bldBox (r n : Nat) : SB := .box 70 [.ptr 0 0, .slc r (.lit 0) (.sym n) none]
noncomputable def bldNil : SB := .box 70 [.val (.pointer none), .val (.slice none 0 0)]
noncomputable def bldRow (s : List UInt8) : SB := .arr 5 (strD s)
noncomputable def efAnn : FuncId → Nat → Option Ann
 | 70, 12 => some { τ := Nat × Int, slots := fun _ _ x => [(41, .int .i64 x.1), (5, .int .i64 x.2)], blks := fun _ _ _ => [],
                    inv := fun S _ x => x.1 ≤ (slD S 0).len ∧ 0 ≤ x.2 ∧ x.2 ≤ 10000 + 100 * x.1 ∧ (0 < x.1 → 1 ≤ x.2), meas := fun S _ x => (slD S 0).len - x.1 }
 | 70, 22 => some { τ := Nat, slots := fun _ _ x => [(65, .int .i64 x)],
                    blks := fun S _ x => [(0, bldBox (bkRow S 0 1 70) (sAt (slD S 0) 0 ++ catB (slD S 0) (slS S 1) x).length), (bkRow S 0 1 70, bldRow (sAt (slD S 0) 0 ++ catB (slD S 0) (slS S 1) x))],
                    inv := fun S _ x => x ≤ (slD S 0).len - 1, meas := fun S _ x => (slD S 0).len - x }
 | 51, 3 => some { τ := Nat × List D, slots := fun _ _ x => [(11, .int .i64 x.1)], blks := fun S _ x => [(rowId S 3, .arr 9 x.2)],
                   inv := fun S _ x => x.1 ≤ (slD S 0).len ∧ x.2.length = (slD S 0).len ∧ x.2.take x.1 = wordsT (slD S 0) x.1, meas := fun S _ x => (slD S 0).len - x.1 }
 | 27, 5 => some { hs := 2, τ := Nat, slots := fun _ i x => match i with | 0 => [(16, .int .i64 0)] | _ => [(16, .int .i64 x)],
                   blks := fun S i x => match i with | 0 => [(0, bldNil)] | _ => [(0, bldBox 60 (fmtS (slD S 1) x).length), (60, bldRow (fmtS (slD S 1) x))],
                   inv := fun S i x => match i with | 0 => x = 0 | _ => 0 < x ∧ x ≤ (slD S 1).len, meas := fun S _ x => (slD S 1).len - x }
 | 27, 8 => some { hs := 2, τ := Nat, slots := fun _ i x => match i with | 0 => [(22, .int .i64 0)] | _ => [(22, .int .i64 x)],
                   blks := fun S i x => match i with | 0 => [(0, bldNil)] | _ => [(0, bldBox (bkRow S 0 1 90) (fmtS (slD S 1) (slI S 16).toNat ++ eveB (slD S 7) x).length), (bkRow S 0 1 90, bldRow (fmtS (slD S 1) (slI S 16).toNat ++ eveB (slD S 7) x))],
                   inv := fun S i x => match i with | 0 => x = 0 ∧ slI S 16 = 0 | _ => (0 < x ∨ 0 < slI S 16) ∧ x ≤ (slD S 7).len, meas := fun S _ x => (slD S 7).len - x }
 | 26, 3 => some { τ := Nat, slots := fun S _ x => [(4, .int .i64 x), (3, .str (fmtS (slD S 0) x))], blks := fun _ _ _ => [], inv := fun S _ x => x ≤ (slD S 0).len, meas := fun S _ x => (slD S 0).len - x }
 | 26, 6 => some { τ := Nat, slots := fun S _ x => [(5, .int .i64 x), (3, .str (fmtS (slD S 0) (slI S 4).toNat ++ eveB (el (slD S 0) (slI S 4).toNat) x))], blks := fun _ _ _ => [], inv := fun S _ x => x ≤ (el (slD S 0) (slI S 4).toNat).len, meas := fun S _ x => (el (slD S 0) (slI S 4).toNat).len - x }
 | 26, 11 => some { τ := Nat, slots := fun S _ x => [(6, .int .i64 x), (3, .str ((fmtS (slD S 0) (slI S 4).toNat ++ eveB (el (slD S 0) (slI S 4).toNat) (slI S 5).toNat) ++ (sepB (slI S 5).toNat ++ wrB (el (el (slD S 0) (slI S 4).toNat) (slI S 5).toNat) x)))], blks := fun _ _ _ => [], inv := fun S _ x => x ≤ (el (el (slD S 0) (slI S 4).toNat) (slI S 5).toNat).len, meas := fun S _ x => (el (el (slD S 0) (slI S 4).toNat) (slI S 5).toNat).len - x }
 | _, _ => none
noncomputable def efJoin : FuncId → Nat → Option Ann
 | 26, 10 => some { τ := Unit, slots := fun S _ _ => [(3, .str (fmtS (slD S 0) (slI S 4).toNat ++ eveB (el (slD S 0) (slI S 4).toNat) (slI S 5).toNat ++ sepB (slI S 5).toNat))], blks := fun _ _ _ => [], inv := fun _ _ _ => True, meas := fun _ _ _ => 0 }
 | 26, 15 => some { τ := Unit, slots := fun S _ _ => [(3, .str ((fmtS (slD S 0) (slI S 4).toNat ++ eveB (el (slD S 0) (slI S 4).toNat) (slI S 5).toNat) ++ (sepB (slI S 5).toNat ++ (wrB (el (el (slD S 0) (slI S 4).toNat) (slI S 5).toNat) (slI S 6).toNat ++ spcB (slI S 6).toNat))))], blks := fun _ _ _ => [], inv := fun _ _ _ => True, meas := fun _ _ _ => 0 }
 | _, _ => none
end Go.Ev

end

section
open Go.Proofs
namespace Go.Ev
theorem digP.at {p : Int} {l : List D} (h : digP p l) {i : Nat} (hi : i < l.length) : 0 ≤ (nthD l i).asInt ∧ (nthD l i).asInt < p := by
 unfold nthD
 rw [List.getElem?_eq_getElem hi]
 obtain ⟨n, e, h1, h2⟩ := h.out _ (List.getElem_mem hi)
 rw [Option.getD_some, e]; exact ⟨h1, h2⟩
theorem not_of {p : Prop} (h : p → False) : ¬ p := h
theorem lim_of {n : Nat} (h : n ≤ 100000) : n < LIM := by unfold LIM; omega
end Go.Ev

end

section
open Go.Proofs
namespace Go.Ev
set_option maxRecDepth 100000
set_option maxHeartbeats 4000000
theorem vc42 : ∀ (n : Int) (l : D), symFun (ctx cc0 ebAnn) (3 : Nat) (42 : FuncId) [V.int IntKind.i64 n, V.dat (24 : TypeId) l] (V.prop (fitP n l)) = ((∃ (x : Nat), (x ≤ l.len ∧ (∀ (i : Nat), i < x →
 (1 : Int) ≤ nAt l i) ∧ (0 : Int) ≤ sumZ l x ∧ sumZ l x ≤ n) ∧ ((0 : Int) = (↑x : Int) ∧ n = n - sumZ l x ∧ True) ∧ True) ∧ ∀ (x : Nat), x ≤ l.len ∧ (∀ (i : Nat), i < x → (1 : Int) ≤ nAt l i) ∧ (0 :
 Int) ≤ sumZ l x ∧ sumZ l x ≤ n → l.len - x < LIM ∧ ((↑x : Int) < (↑l.len : Int) → (0 : Int) ≤ (↑x : Int) ∧ (↑x : Int) < (↑l.len : Int) ∧ ((nAt l x < (1 : Int) → False) → (n - sumZ l x < nAt l x →
 (false = true ↔ fitP n l)) ∧ ((n - sumZ l x < nAt l x → False) → ((-9223372036854775808 : Int) ≤ n - sumZ l x - nAt l x ∧ n - sumZ l x - nAt l x < (9223372036854775808 : Int)) ∧ ((-9223372036854775808
 : Int) ≤ (↑x : Int) + (1 : Int) ∧ (↑x : Int) + (1 : Int) < (9223372036854775808 : Int)) ∧ ∃ (y : Nat), (y ≤ l.len ∧ (∀ (i : Nat), i < y → (1 : Int) ≤ nAt l i) ∧ (0 : Int) ≤ sumZ l y ∧ sumZ l y ≤ n) ∧
 l.len - y < l.len - x ∧ ((↑x : Int) + (1 : Int) = (↑y : Int) ∧ n - sumZ l x - nAt l x = n - sumZ l y ∧ True) ∧ True)) ∧ (nAt l x < (1 : Int) → (false = true ↔ fitP n l))) ∧ (((↑x : Int) < (↑l.len :
 Int) → False) → (n - sumZ l x = (0 : Int) ↔ fitP n l))) := by intros; kernel_rfl
theorem vc39 : ∀ (n : Int) (l : D), symFun (ctx cc0 ebAnn) (3 : Nat) (39 : FuncId) [V.int IntKind.i64 n, V.dat (24 : TypeId) l] (V.prop (okS n l)) = ((∃ (x : Nat), (x ≤ l.len ∧ (∀ (i : Nat), i < x →
 (1 : Int) ≤ nAt l i) ∧ (0 : Int) ≤ sumZ l x ∧ sumZ l x ≤ (128 : Int)) ∧ ((0 : Int) = (↑x : Int) ∧ (0 : Int) = sumZ l x ∧ True) ∧ True) ∧ ∀ (x : Nat), x ≤ l.len ∧ (∀ (i : Nat), i < x → (1 : Int) ≤ nAt
 l i) ∧ (0 : Int) ≤ sumZ l x ∧ sumZ l x ≤ (128 : Int) → l.len - x < LIM ∧ ((↑x : Int) < (↑l.len : Int) → (0 : Int) ≤ (↑x : Int) ∧ (↑x : Int) < (↑l.len : Int) ∧ ((nAt l x < (1 : Int) → False) → (0 :
 Int) ≤ (↑x : Int) ∧ (↑x : Int) < (↑l.len : Int) ∧ (((64 : Int) < nAt l x → False) → ((64 : Int) < sumZ l x → (false = true ↔ okS n l)) ∧ (((64 : Int) < sumZ l x → False) → (0 : Int) ≤ (↑x : Int) ∧ (↑x
 : Int) < (↑l.len : Int) ∧ ((-9223372036854775808 : Int) ≤ sumZ l x + nAt l x ∧ sumZ l x + nAt l x < (9223372036854775808 : Int)) ∧ ((-9223372036854775808 : Int) ≤ (↑x : Int) + (1 : Int) ∧ (↑x : Int) +
 (1 : Int) < (9223372036854775808 : Int)) ∧ ∃ (y : Nat), (y ≤ l.len ∧ (∀ (i : Nat), i < y → (1 : Int) ≤ nAt l i) ∧ (0 : Int) ≤ sumZ l y ∧ sumZ l y ≤ (128 : Int)) ∧ l.len - y < l.len - x ∧ ((↑x : Int) +
 (1 : Int) = (↑y : Int) ∧ sumZ l x + nAt l x = sumZ l y ∧ True) ∧ True)) ∧ ((64 : Int) < nAt l x → (false = true ↔ okS n l))) ∧ (nAt l x < (1 : Int) → (false = true ↔ okS n l))) ∧ (((↑x : Int) <
 (↑l.len : Int) → False) → ((1 : Int) ≤ n → (n ≤ (64 : Int) → (sumZ l x = n ↔ okS n l)) ∧ ((n ≤ (64 : Int) → False) → (false = true ↔ okS n l))) ∧ (((1 : Int) ≤ n → False) → (false = true ↔ okS n l)))) := by intros; kernel_rfl
theorem sum_mono {l : D} {m : Nat} (h : ∀ i, i < m → 1 ≤ nAt l i) : ∀ x, x ≤ m → (x : Int) ≤ sumZ l x
 | 0, _ => Int.le_refl _
 | x + 1, hx => by
  have := sum_mono h x (by omega)
  have := h x (by omega)
  show ((x + 1 : Nat) : Int) ≤ sumZ l x + nAt l x
  omega
theorem sum_rest {l : D} {m : Nat} (h : ∀ i, i < m → 1 ≤ nAt l i) (x : Nat) : ∀ k, x + k ≤ m → sumZ l x + k ≤ sumZ l (x + k)
 | 0, _ => Int.le_of_eq (by simp)
 | k + 1, hk => by
  have := sum_rest h x k (by omega)
  have := h (x + k) (by omega)
  show sumZ l x + ((k + 1 : Nat) : Int) ≤ sumZ l (x + k) + nAt l (x + k)
  omega
theorem fit_le {n : Int} {l : D} (h : fitP n l) {x : Nat} (hx : x < l.len) : sumZ l x + nAt l x ≤ n := by
 have h1 := sum_rest h.out.1 (x + 1) (l.len - (x + 1)) (by omega)
 rw [show x + 1 + (l.len - (x + 1)) = l.len by omega, h.out.2] at h1
 have h2 : sumZ l (x + 1) = sumZ l x + nAt l x := rfl
 omega
theorem fit_sum {n : Int} {l : D} (h : fitP n l) {x : Nat} (hx : x ≤ l.len) : (x : Int) ≤ sumZ l x ∧ sumZ l x ≤ n := by
 have h1 := sum_rest h.out.1 x (l.len - x) (by omega)
 rw [show x + (l.len - x) = l.len by omega, h.out.2] at h1
 exact ⟨sum_mono h.out.1 x hx, by omega⟩
theorem ok_siz {n : Int} {l : D} (h : okS n l) : l.len ≤ 64 ∧ ∀ i, i < l.len → 1 ≤ nAt l i ∧ nAt l i ≤ n := by
 have h1 := fit_sum h.fit (Nat.le_refl _)
 have h2 := h.n2
 refine ⟨by omega, fun i hi => ⟨h.fit.out.1 i hi, ?_⟩⟩
 have h3 := fit_le h.fit hi
 have h4 := fit_sum h.fit (Nat.le_of_lt hi)
 omega
theorem s42 (n : Int) (l : D) (h1 : 1 ≤ n) (h2 : n ≤ 64) (hl : l.len ≤ 16777216) : symFun (ctx cc0 ebAnn) 3 42 [.int .i64 n, .dat 24 l] (.prop (fitP n l)) := by
 rw [vc42]
 have no : ∀ {p : Prop}, ¬ p → (false = true ↔ p) := fun h => iff_of_false (fun h => (by cases h)) h
 refine And.intro ⟨0, ⟨Nat.zero_le _, fun i hi => absurd hi (Nat.not_lt_zero _), Int.le_refl _, by show (0 : Int) ≤ n; omega⟩, ⟨rfl, by show n = n - 0; omega, trivial⟩, trivial⟩ (fun x hx => ⟨by unfold LIM; omega, fun hlt => ⟨by omega, by omega, fun hs => ⟨fun hb => no fun hf => ?_, fun hb => ?_⟩, fun hs => no fun hf => ?_⟩, fun hge => ?_⟩)
 ·have := fit_le hf (x := x) (by omega); omega
 ·have hs := not_of hs; have hb := not_of hb
  have e : sumZ l (x + 1) = sumZ l x + nAt l x := rfl
  refine ⟨⟨by omega, by omega⟩, ⟨by omega, by omega⟩, x + 1, ⟨by omega, fun i hi => ?_, by omega, by omega⟩, by omega, ⟨by omega, by omega, trivial⟩, trivial⟩
  rcases Nat.lt_or_ge i x with h' | h'
  ·exact hx.2.1 i h'
  ·rw [show i = x by omega]; omega
 ·have := hf.out.1 x (by omega); omega
 ·have hge := not_of hge
  have e : x = l.len := by omega
  subst e
  exact ⟨fun h => ⟨hx.2.1, by omega⟩, fun h => by have := h.out.2; omega⟩
theorem s39 (n : Int) (l : D) (hl : l.len ≤ 16777216) : symFun (ctx cc0 ebAnn) 3 39 [.int .i64 n, .dat 24 l] (.prop (okS n l)) := by
 rw [vc39]
 have no : ∀ {p : Prop}, ¬ p → (false = true ↔ p) := fun h => iff_of_false (fun h => (by cases h)) h
 refine And.intro ⟨0, ⟨Nat.zero_le _, fun i hi => absurd hi (Nat.not_lt_zero _), Int.le_refl _, by show (0 : Int) ≤ 128; omega⟩, ⟨rfl, rfl, trivial⟩, trivial⟩ (fun x hx => ⟨by unfold LIM; omega, fun hlt => ⟨by omega, by omega, fun hs => ⟨by omega, by omega, fun hb => ⟨fun hc => no fun h => ?_, fun hc => ?_⟩, fun hb => no fun h => ?_⟩, fun hs => no fun h => ?_⟩, fun hge => ⟨fun h1 => ⟨fun h2 => ?_, fun h2 => no fun h => h2 h.n2⟩, fun h1 => no fun h => h1 h.n1⟩⟩)
 ·have := fit_sum h.fit (x := x) (by omega); have := h.n2; omega
 ·have hs := not_of hs; have hb := not_of hb; have hc := not_of hc
  have e : sumZ l (x + 1) = sumZ l x + nAt l x := rfl
  refine ⟨by omega, by omega, ⟨by omega, by omega⟩, ⟨by omega, by omega⟩, x + 1, ⟨by omega, fun i hi => ?_, by omega, by omega⟩, by omega, ⟨by omega, by omega, trivial⟩, trivial⟩
  rcases Nat.lt_or_ge i x with h' | h'
  ·exact hx.2.1 i h'
  ·rw [show i = x by omega]; omega
 ·have := (ok_siz h).2 x (by omega); have := h.n2; omega
 ·have := (ok_siz h).2 x (by omega); omega
 ·have hge := not_of hge
  have e : x = l.len := by omega
  subst e
  exact ⟨fun h => ⟨h1, h2, ⟨hx.2.1, h⟩⟩, fun h => h.fit.out.2⟩
section
variable {n e : Int} {l : D}
end
end Go.Ev

end
