/-
  Part of the engine that the claim is proved with: it states nothing of the document by itself.
-/
import Derived.Test.YtpopdemanadllaaGreatDoorProg
import Derived.Test.YtpopdemanadllaaGreatDoorCoreEv
import Derived.Test.YtpopdemanadllaaGreatDoorCoreNtM
import Derived.Test.YtpopdemanadllaaGreatDoorCoreKit
open Go.Proofs
namespace Go.Ev
def listD (l : List D) : D := match l with | [] => .nil | l => .list l
noncomputable def extP (c : Con) : Con := fun us => c (us.map normV0)
noncomputable def slRow (S : SS) (t : Tmp) : List D := match S.fr.get t with | some (.slc b _ _ _) => bkL S b | _ => []
noncomputable def slSB (S : SS) (t : Tmp) : Nat := match S.fr.get t with | some (.slc b _ _ _) => b | _ => 0
noncomputable def rowId (S : SS) (t : Tmp) : Nat := match S.fr.get t with | some (.slc b _ _ _) => b | _ => 60
noncomputable def ctx (con : FuncId → Option Con) (ann : FuncId → Nat → Option Ann) : Ctx := { P := Tryz.prog, con := con, ora := fun g => cond (Nat.beq g 6) (some (.bool true)) none, bits := 170141183460469231731687303715884105727, ann := ann }
instance (con : FuncId → Option Con) (ann : FuncId → Nat → Option Ann) : Nonempty (NoF (ctx con ann)) := ⟨⟨fun _ _ h => by cases h⟩⟩
noncomputable def ctxj (con : FuncId → Option Con) (ann : FuncId → Nat → Option Ann) (join : FuncId → Nat → Option Ann) : Ctx := { ctx con ann with join := join }
instance (con : FuncId → Option Con) (ann join : FuncId → Nat → Option Ann) : Nonempty (NoF (ctxj con ann join)) := ⟨⟨fun _ _ h => by cases h⟩⟩
noncomputable def cc0 : FuncId → Option Con := fun _ => none
noncomputable def noAnn : FuncId → Nat → Option Ann := fun _ _ => none
def sumZ (l : D) : Nat → Int
 | 0 => 0
 | n + 1 => sumZ l n + nAt l n
structure fitP (n : Int) (l : D) : Prop where
 out : (∀ i, i < l.len → 1 ≤ nAt l i) ∧ sumZ l l.len = n
noncomputable def con13 : Con := fun | [.int .i64 n, .dat 25 l] => some ((1 ≤ n ∧ n ≤ 64) ∧ l.len ≤ 16777216, .prop (fitP n l)) | _ => none
noncomputable def ebAnn : FuncId → Nat → Option Ann
 | 34, 3 => some { τ := Nat, slots := fun S _ x => [(11, .int .i64 x), (5, .int .i64 (slI S 0 - sumZ (slD S 1) x))], blks := fun _ _ _ => [], inv := fun S _ x => x ≤ (slD S 1).len ∧ (∀ i, i < x → 1 ≤ nAt (slD S 1) i) ∧ 0 ≤ sumZ (slD S 1) x ∧ sumZ (slD S 1) x ≤ slI S 0, meas := fun S _ x => (slD S 1).len - x }
 | _, _ => none
structure smE (ev : D) : Prop where
 out : ev.len ≤ 100 ∧ ∀ i, i < ev.len → (el ev i).len ≤ 1000
structure bigP (s : D) : Prop where
 out : s.len ≤ 100 ∧ ∀ i, i < s.len → smE (el s i)
def totE (ev : D) : Nat → Nat
 | 0 => 0
 | n + 1 => totE ev n + (el ev n).len
def flatL (ev : D) : Nat → List D
 | 0 => []
 | n + 1 => flatL ev n ++ (el ev n).asList
def cntF (l : List D) (x : Int) : Int := match l with
 | [] => 0
 | a :: l => cntF l x + (if a.asInt = x then 1 else 0)
structure outP (n : Int) (l : List D) : Prop where
 out : ∃ a, a ∈ l ∧ ¬ (0 ≤ a.asInt ∧ a.asInt < n)
open Classical in
noncomputable def errG (n : Int) (l : List D) : Int :=
 if outP n l then 6 else if ∃ x : Int, (0 ≤ x ∧ x < n) ∧ 1 < cntF l x then 5 else if ∃ x : Int, (0 ≤ x ∧ x < n) ∧ cntF l x = 0 then 2 else 0
structure sameSz (ev sz : D) : Prop where
 out : ev.len = sz.len ∧ ∀ i, i < ev.len → ((el ev i).len : Int) = nAt sz i
structure emptyP (ev : D) : Prop where
 out : ∃ i, i < ev.len ∧ (el ev i).len = 0
open Classical in
noncomputable def errE (n : Int) (sz ev : D) : Int := if emptyP ev ∨ (0 < sz.len ∧ ¬ sameSz ev sz) then 2 else errG n (flatL ev ev.len)
open Classical in
noncomputable def scanK (n : Int) (sz s : D) : Nat → Nat → Int × Int
 | 0, _ => (0, 0)
 | f + 1, i => if errE n sz (el s i) ≠ 0 then ((i : Nat), errE n sz (el s i)) else scanK n sz s f (i + 1)
open Classical in
noncomputable def chk (n : Int) (sz s : D) : Int × Int := if ¬ (1 ≤ n ∧ n ≤ 64) ∨ (0 < sz.len ∧ ¬ fitP n sz) then (0, 90) else if 64 < s.len then (0, 7) else scanK n sz s s.len 0
noncomputable def con33 : Con := fun | [.dat 32 ev] => some (smE ev, .dat 25 (listD (flatL ev ev.len))) | _ => none
noncomputable def con32 : Con := fun | [.int .i64 n, .dat 25 d] => some ((1 ≤ n ∧ n ≤ 64) ∧ d.len ≤ 1000000, .int .i64 (errG n d.asList)) | _ => none
noncomputable def con14 : Con := fun | [.int .i64 n, .dat 25 sz, .dat 32 ev] => some ((1 ≤ n ∧ n ≤ 64) ∧ smE ev ∧ sz.len ≤ 1000, .int .i64 (errE n sz ev)) | _ => none
noncomputable def con5 : Con := fun | [.int .i64 n, .dat 25 sz, .dat 24 s] => some (sz.len ≤ 1000 ∧ bigP s, .tup [.int .i64 (chk n sz s).1, .int .i64 (chk n sz s).2]) | _ => none
noncomputable def ekAnn : FuncId → Nat → Option Ann
 | 9, 6 => some { τ := Nat, slots := fun _ _ x => [(32, .int .i64 x)], blks := fun _ _ _ => [], inv := fun S _ x => x ≤ (slD S 2).len ∧ scanK (slI S 0) (slD S 1) (slD S 2) ((slD S 2).len - x) x = scanK (slI S 0) (slD S 1) (slD S 2) (slD S 2).len 0, meas := fun S _ x => (slD S 2).len - x }
 | 75, 2 => some { τ := Nat, slots := fun _ _ x => [(8, .int .i64 x)], blks := fun _ _ _ => [], inv := fun S _ x => x ≤ (slD S 0).len ∧ ∀ i, i < x → (el (slD S 0) i).len ≠ 0, meas := fun S _ x => (slD S 0).len - x }
 | 62, 4 => some { τ := Nat, slots := fun _ _ x => [(17, .int .i64 x)], blks := fun _ _ _ => [], inv := fun S _ x => x ≤ (slD S 0).len ∧ ∀ i, i < x → ((el (slD S 0) i).len : Int) = nAt (slD S 1) i, meas := fun S _ x => (slD S 0).len - x }
 | 64, 3 => some { τ := Nat, slots := fun S _ x => [(11, .int .i64 x), (3, .int .i64 (totE (slD S 0) x : Nat))], blks := fun _ _ _ => [], inv := fun S _ x => x ≤ (slD S 0).len, meas := fun S _ x => (slD S 0).len - x }
 | 64, 11 => some { hs := 2, τ := Nat × List D, slots := fun S i x => match i with | 0 => [(27, .int .i64 x.1), (6, .val (.slice none 0 0))] | _ => [(27, .int .i64 x.1), (6, .slc (rowId S 6) (.lit 0) (.sym (totE (slD S 0) x.1)) none)], blks := fun S i x => match i with | 0 => [] | _ => [(rowId S 6, .arr 3 x.2)], inv := fun S i x => match i with | 0 => x.1 ≤ (slD S 0).len ∧ totE (slD S 0) (slD S 0).len = 0 | _ => x.1 ≤ (slD S 0).len ∧ 0 < totE (slD S 0) (slD S 0).len ∧ totE (slD S 0) x.1 ≤ x.2.length ∧ x.2.take (totE (slD S 0) x.1) = flatL (slD S 0) x.1, meas := fun S _ x => (slD S 0).len - x.1 }
 | _, _ => none
noncomputable def ekJoin : FuncId → Nat → Option Ann
 | 64, 10 => some { hs := 2, τ := List D, slots := fun S i _ => match i with | 0 => [(6, .val (.slice none 0 0))] | _ => [(6, .slc (Nat.add S.nx 200) (.lit 0) (.lit 0) none)], blks := fun S i x => match i with | 0 => [] | _ => [(Nat.add S.nx 200, .arr 3 x)], inv := fun S i _ => match i with | 0 => slI S 3 ≤ 0 | _ => 0 < slI S 3, meas := fun _ _ _ => 0 }
 | _, _ => none
noncomputable def gAnn (n : Int) : FuncId → Nat → Option Ann
 | 86, 2 => some { τ := Nat, slots := fun _ _ x => [(8, .int .i64 x)], blks := fun _ _ _ => [], inv := fun S _ x => x ≤ (slD S 0).len ∧ ∀ i, i < x → 0 ≤ nAt (slD S 0) i ∧ nAt (slD S 0) i < n, meas := fun S _ x => (slD S 0).len - x }
 | 36, 5 => some { τ := Nat × List D, slots := fun _ _ x => [(15, .int .i64 x.1)], blks := fun S _ x => [(slSB S 5, .arr 4 x.2)], inv := fun S _ x => x.1 ≤ (slD S 1).len ∧ x.2.length = n.toNat ∧ (∀ v : Nat, v < n → ((nthD x.2 v).asProp ↔ 0 < cntF ((slD S 1).asList.take x.1) v)) ∧ ∀ v : Nat, v < n → cntF ((slD S 1).asList.take x.1) v ≤ 1, meas := fun S _ x => (slD S 1).len - x.1 }
 | _, _ => none
noncomputable def ck3 : FuncId → Option Con
 | 36 => some con32
 | 64 => some con33
 | _ => none
noncomputable def ck4 : FuncId → Option Con
 | 34 => some con13
 | 35 => some con14
 | _ => none
def incZ (q : List D) (x y : Int) : List D := q.set x.toNat (.list ((nthD q x.toNat).asList.set y.toNat (.int (nAt (nthD q x.toNat) y.toNat + 1))))
def updP (q : List D) (x y : Int) : List D := incZ (incZ q x y) y x
def pqI (q : List D) (t : D) (i : Nat) : Nat → List D
 | 0 => q
 | j + 1 => updP (pqI q t i j) (nAt t j) (nAt t i)
def pqN (q : List D) (t : D) : Nat → List D
 | 0 => q
 | i + 1 => pqI (pqN q t i) t i i
def pqE (q : List D) (ev : D) : Nat → List D
 | 0 => q
 | j + 1 => pqN (pqE q ev j) (el ev j) (el ev j).len
def pqS (q : List D) (s : D) : Nat → List D
 | 0 => q
 | i + 1 => pqE (pqS q s i) (el s i) (el s i).len
def zrL (n x : Nat) : List D := (List.range x).map (fun _ => .list (List.replicate n (.int 0))) ++ List.replicate (n - x) .nil
structure goodS (n : Int) (s : D) : Prop where
 n1 : 1 ≤ n ∧ n ≤ 64
 big : bigP s
 chk : chk n .nil s = (0, 0)
def netI (l : List D) (q k a : Nat) : Nat → List D
 | 0 => l
 | x + 1 => l.set a (.list (netE q k a (x + 1)))
noncomputable def con16 : Con := fun | [.int .i64 n, .dat 24 s] => some (bigP s, .prop ((chk n .nil s).2 = 0)) | _ => none
noncomputable def con15 : Con := fun | [.int .u64 x, .int .u64 y] => some ((0 ≤ x ∧ x < 65536) ∧ 0 ≤ y ∧ y < 65536, .tup [.int .u64 0, .int .u64 (x * y)]) | _ => none
noncomputable def ntAnn : FuncId → Nat → Option Ann
 | 40, 3 => some { τ := Nat, slots := fun _ _ x => [(8, .int .i64 x)], blks := fun S _ x => [(slSB S 3, .own S.nx 25 3 (zrL (slI S 0).toNat x))], inv := fun S _ x => x ≤ (slI S 0).toNat, meas := fun S _ x => (slI S 0).toNat - x }
 | 38, 3 => some { τ := Nat, slots := fun _ _ x => [(16, .int .i64 x)], blks := fun S _ x => [(slSB S 7, .own S.nx 25 3 (pqS (slRow S 7) (slD S 14) x))], inv := fun S _ x => x ≤ (slD S 14).len, meas := fun S _ x => (slD S 14).len - x }
 | 38, 6 => some { τ := Nat, slots := fun _ _ y => [(22, .int .i64 y)], blks := fun S _ y => [(slSB S 7, .own S.nx 25 3 (pqE (slRow S 7) (slD S 20) y))], inv := fun S _ y => y ≤ (slD S 20).len, meas := fun S _ y => (slD S 20).len - y }
 | 68, 1 => some { τ := Nat, slots := fun _ _ z => [(9, .int .i64 z)], blks := fun S _ z => [(0, .own S.nx 25 3 (pqN (bkL S 0) (slD S 7) z))], inv := fun S _ z => z ≤ (slD S 7).len, meas := fun S _ z => (slD S 7).len - z }
 | 68, 4 => some { τ := Nat, slots := fun _ _ z => [(18, .int .i64 z)], blks := fun S _ z => [(0, .own S.nx 25 3 (pqI (bkL S 0) (slD S 7) (slI S 3).toNat z))], inv := fun S _ z => z ≤ (slI S 3).toNat, meas := fun S _ z => (slI S 3).toNat - z }
 | 52, 6 => some { τ := Nat, slots := fun _ _ x => [(38, .int .i64 x)], blks := fun S _ x => [(slSB S 8, .own S.nx 32 25 (netS (slI S 1).toNat (slI S 0).toNat x ++ List.replicate ((slI S 1).toNat - x) .nil))], inv := fun S _ x => x ≤ (slI S 1).toNat, meas := fun S _ x => (slI S 1).toNat - x }
 | 52, 9 => some { τ := Nat, slots := fun _ _ x => [(42, .int .i64 x)], blks := fun S _ x => [(slSB S 8, .own S.nx 32 25 (netI (slRow S 8) (slI S 1).toNat (slI S 0).toNat (slI S 9).toNat x))], inv := fun S _ x => x ≤ (slI S 1).toNat, meas := fun S _ x => (slI S 1).toNat - x }
 | 52, 13 => some { hs := 2, τ := Nat, slots := fun S i x => match i with | 0 => [(46, .int .i64 x), (11, .val (.slice none 0 0))] | _ => [(46, .int .i64 x), (11, .slc (Nat.add S.nx 300) (.lit 0) (.sym x) none)], blks := fun S i x => match i with | 0 => [] | _ => [(Nat.add S.nx 300, .arr 3 (netT (slI S 1).toNat (slI S 9).toNat (slI S 10).toNat x))], inv := fun S i x => match i with | 0 => x = 0 | _ => 0 < x ∧ x ≤ (slI S 0).toNat, meas := fun S _ x => (slI S 0).toNat - x }
 | 20, 8 => some { τ := Nat, slots := fun _ _ x => [(8, .int .i64 x)], blks := fun S _ x => [(slSB S 7, .arr 3 (List.replicate x (nthD (slRow S 0) 0) ++ List.replicate ((slRow S 7).length - x) (.int 0)))], inv := fun S _ x => 1 ≤ x ∧ x ≤ (slRow S 7).length, meas := fun S _ x => (slRow S 7).length - x }
 | 108, 12 => some { τ := Nat, slots := fun _ _ x => [(77, .int .i64 x)], blks := fun _ _ _ => [], inv := fun S _ x => x ≤ (slD S 75).len, meas := fun S _ x => (slD S 75).len - x }
 | 108, 15 => some { τ := Nat, slots := fun _ _ y => [(84, .int .i64 y)], blks := fun _ _ _ => [], inv := fun S _ y => y ≤ (slD S 82).len, meas := fun S _ y => (slD S 82).len - y }
 | _, _ => none
noncomputable def nt1 : FuncId → Option Con
 | 9 => some con5
 | _ => none
end Go.Ev
