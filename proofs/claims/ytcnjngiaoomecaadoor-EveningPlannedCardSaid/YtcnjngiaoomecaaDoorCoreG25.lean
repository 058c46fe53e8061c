/-
  Part of the engine that the claim is proved with: it states nothing of the document by itself.
-/
import Derived.Test.YtcnjngiaoomecaaDoorProg
import Derived.Test.YtcnjngiaoomecaaDoorCoreEv
import Derived.Test.YtcnjngiaoomecaaDoorCoreNtM
import Derived.Test.YtcnjngiaoomecaaDoorCoreKit

section
open Go.Proofs
namespace Go.Ev
def listD (l : List D) : D := match l with | [] => .nil | l => .list l
noncomputable def slRow (S : SS) (t : Tmp) : List D := match S.fr.get t with | some (.slc b _ _ _) => bkL S b | _ => []
noncomputable def slSB (S : SS) (t : Tmp) : Nat := match S.fr.get t with | some (.slc b _ _ _) => b | _ => 0
noncomputable def rowId (S : SS) (t : Tmp) : Nat := match S.fr.get t with | some (.slc b _ _ _) => b | _ => 60
noncomputable def ctx (con : FuncId → Option Con) (ann : FuncId → Nat → Option Ann) : Ctx := { P := Tryd.prog, con := con, ora := fun g => cond (Nat.beq g 5) (some (.bool true)) none, bits := 1329227995784915872903807060280344575, ann := ann }
instance (con : FuncId → Option Con) (ann : FuncId → Nat → Option Ann) : Nonempty (NoF (ctx con ann)) := ⟨⟨fun _ _ h => by cases h⟩⟩
noncomputable def ctxj (con : FuncId → Option Con) (ann : FuncId → Nat → Option Ann) (join : FuncId → Nat → Option Ann) : Ctx := { ctx con ann with join := join }
instance (con : FuncId → Option Con) (ann join : FuncId → Nat → Option Ann) : Nonempty (NoF (ctxj con ann join)) := ⟨⟨fun _ _ h => by cases h⟩⟩
noncomputable def cc0 : FuncId → Option Con := fun _ => none
noncomputable def noAnn : FuncId → Nat → Option Ann := fun _ _ => none
def sumZ (l : D) : Nat → Int
 | 0 => 0
 | n + 1 => sumZ l n + nAt l n
structure fitP (n : Int) (l : D) : Prop where
 out : (∀ i, i < l.len → 1 ≤ nAt l i) ∧ sumZ l l.len = n
noncomputable def con13 : Con := fun | [.int .i64 n, .dat 22 l] => some ((1 ≤ n ∧ n ≤ 64) ∧ l.len ≤ 16777216, .prop (fitP n l)) | _ => none
noncomputable def ebAnn : FuncId → Nat → Option Ann
 | 24, 3 => some { τ := Nat, slots := fun S _ x => [(11, .int .i64 x), (5, .int .i64 (slI S 0 - sumZ (slD S 1) x))], blks := fun _ _ _ => [], inv := fun S _ x => x ≤ (slD S 1).len ∧ (∀ i, i < x → 1 ≤ nAt (slD S 1) i) ∧ 0 ≤ sumZ (slD S 1) x ∧ sumZ (slD S 1) x ≤ slI S 0, meas := fun S _ x => (slD S 1).len - x }
 | _, _ => none
structure smE (ev : D) : Prop where
 out : ev.len ≤ 100 ∧ ∀ i, i < ev.len → (el ev i).len ≤ 1000
structure bigP (s : D) : Prop where
 out : s.len ≤ 100 ∧ ∀ i, i < s.len → smE (el s i)
def totE (ev : D) : Nat → Nat
 | 0 => 0
 | n + 1 => totE ev n + (el ev n).len
def flatL (ev : D) : Nat → List D
 | 0 => []
 | n + 1 => flatL ev n ++ (el ev n).asList
def cntF (l : List D) (x : Int) : Int := match l with
 | [] => 0
 | a :: l => cntF l x + (if a.asInt = x then 1 else 0)
structure outP (n : Int) (l : List D) : Prop where
 out : ∃ a, a ∈ l ∧ ¬ (0 ≤ a.asInt ∧ a.asInt < n)
open Classical in
noncomputable def errG (n : Int) (l : List D) : Int :=
 if outP n l then 6 else if ∃ x : Int, (0 ≤ x ∧ x < n) ∧ 1 < cntF l x then 5 else if ∃ x : Int, (0 ≤ x ∧ x < n) ∧ cntF l x = 0 then 2 else 0
structure sameSz (ev sz : D) : Prop where
 out : ev.len = sz.len ∧ ∀ i, i < ev.len → ((el ev i).len : Int) = nAt sz i
structure emptyP (ev : D) : Prop where
 out : ∃ i, i < ev.len ∧ (el ev i).len = 0
open Classical in
noncomputable def errE (n : Int) (sz ev : D) : Int := if emptyP ev ∨ (0 < sz.len ∧ ¬ sameSz ev sz) then 2 else errG n (flatL ev ev.len)
open Classical in
noncomputable def scanK (n : Int) (sz s : D) : Nat → Nat → Int × Int
 | 0, _ => (0, 0)
 | f + 1, i => if errE n sz (el s i) ≠ 0 then ((i : Nat), errE n sz (el s i)) else scanK n sz s f (i + 1)
open Classical in
noncomputable def chk (n : Int) (sz s : D) : Int × Int := if ¬ (1 ≤ n ∧ n ≤ 64) ∨ (0 < sz.len ∧ ¬ fitP n sz) then (0, 90) else if 64 < s.len then (0, 7) else scanK n sz s s.len 0
noncomputable def con33 : Con := fun | [.dat 41 ev] => some (smE ev, .dat 22 (listD (flatL ev ev.len))) | _ => none
noncomputable def con32 : Con := fun | [.int .i64 n, .dat 22 d] => some ((1 ≤ n ∧ n ≤ 64) ∧ d.len ≤ 1000000, .int .i64 (errG n d.asList)) | _ => none
noncomputable def con14 : Con := fun | [.int .i64 n, .dat 22 sz, .dat 41 ev] => some ((1 ≤ n ∧ n ≤ 64) ∧ smE ev ∧ sz.len ≤ 1000, .int .i64 (errE n sz ev)) | _ => none
noncomputable def con5 : Con := fun | [.int .i64 n, .dat 22 sz, .dat 25 s] => some (sz.len ≤ 1000 ∧ bigP s, .tup [.int .i64 (chk n sz s).1, .int .i64 (chk n sz s).2]) | _ => none
noncomputable def ekAnn : FuncId → Nat → Option Ann
 | 12, 6 => some { τ := Nat, slots := fun _ _ x => [(32, .int .i64 x)], blks := fun _ _ _ => [], inv := fun S _ x => x ≤ (slD S 2).len ∧ scanK (slI S 0) (slD S 1) (slD S 2) ((slD S 2).len - x) x = scanK (slI S 0) (slD S 1) (slD S 2) (slD S 2).len 0, meas := fun S _ x => (slD S 2).len - x }
 | 74, 2 => some { τ := Nat, slots := fun _ _ x => [(8, .int .i64 x)], blks := fun _ _ _ => [], inv := fun S _ x => x ≤ (slD S 0).len ∧ ∀ i, i < x → (el (slD S 0) i).len ≠ 0, meas := fun S _ x => (slD S 0).len - x }
 | 57, 4 => some { τ := Nat, slots := fun _ _ x => [(17, .int .i64 x)], blks := fun _ _ _ => [], inv := fun S _ x => x ≤ (slD S 0).len ∧ ∀ i, i < x → ((el (slD S 0) i).len : Int) = nAt (slD S 1) i, meas := fun S _ x => (slD S 0).len - x }
 | 14, 3 => some { τ := Nat, slots := fun S _ x => [(11, .int .i64 x), (3, .int .i64 (totE (slD S 0) x : Nat))], blks := fun _ _ _ => [], inv := fun S _ x => x ≤ (slD S 0).len, meas := fun S _ x => (slD S 0).len - x }
 | 14, 11 => some { hs := 2, τ := Nat × List D, slots := fun S i x => match i with | 0 => [(27, .int .i64 x.1), (6, .val (.slice none 0 0))] | _ => [(27, .int .i64 x.1), (6, .slc (rowId S 6) (.lit 0) (.sym (totE (slD S 0) x.1)) none)], blks := fun S i x => match i with | 0 => [] | _ => [(rowId S 6, .arr 3 x.2)], inv := fun S i x => match i with | 0 => x.1 ≤ (slD S 0).len ∧ totE (slD S 0) (slD S 0).len = 0 | _ => x.1 ≤ (slD S 0).len ∧ 0 < totE (slD S 0) (slD S 0).len ∧ totE (slD S 0) x.1 ≤ x.2.length ∧ x.2.take (totE (slD S 0) x.1) = flatL (slD S 0) x.1, meas := fun S _ x => (slD S 0).len - x.1 }
 | _, _ => none
noncomputable def ekJoin : FuncId → Nat → Option Ann
 | 14, 10 => some { hs := 2, τ := List D, slots := fun S i _ => match i with | 0 => [(6, .val (.slice none 0 0))] | _ => [(6, .slc (Nat.add S.nx 200) (.lit 0) (.lit 0) none)], blks := fun S i x => match i with | 0 => [] | _ => [(Nat.add S.nx 200, .arr 3 x)], inv := fun S i _ => match i with | 0 => slI S 3 ≤ 0 | _ => 0 < slI S 3, meas := fun _ _ _ => 0 }
 | _, _ => none
noncomputable def gAnn (n : Int) : FuncId → Nat → Option Ann
 | 82, 2 => some { τ := Nat, slots := fun _ _ x => [(8, .int .i64 x)], blks := fun _ _ _ => [], inv := fun S _ x => x ≤ (slD S 0).len ∧ ∀ i, i < x → 0 ≤ nAt (slD S 0) i ∧ nAt (slD S 0) i < n, meas := fun S _ x => (slD S 0).len - x }
 | 59, 5 => some { τ := Nat × List D, slots := fun _ _ x => [(15, .int .i64 x.1)], blks := fun S _ x => [(slSB S 5, .arr 4 x.2)], inv := fun S _ x => x.1 ≤ (slD S 1).len ∧ x.2.length = n.toNat ∧ (∀ v : Nat, v < n → ((nthD x.2 v).asProp ↔ 0 < cntF ((slD S 1).asList.take x.1) v)) ∧ ∀ v : Nat, v < n → cntF ((slD S 1).asList.take x.1) v ≤ 1, meas := fun S _ x => (slD S 1).len - x.1 }
 | _, _ => none
noncomputable def ck3 : FuncId → Option Con
 | 59 => some con32
 | 14 => some con33
 | _ => none
noncomputable def ck4 : FuncId → Option Con
 | 24 => some con13
 | 37 => some con14
 | _ => none
def incZ (q : List D) (x y : Int) : List D := q.set x.toNat (.list ((nthD q x.toNat).asList.set y.toNat (.int (nAt (nthD q x.toNat) y.toNat + 1))))
def updP (q : List D) (x y : Int) : List D := incZ (incZ q x y) y x
def pqI (q : List D) (t : D) (i : Nat) : Nat → List D
 | 0 => q
 | j + 1 => updP (pqI q t i j) (nAt t j) (nAt t i)
def pqN (q : List D) (t : D) : Nat → List D
 | 0 => q
 | i + 1 => pqI (pqN q t i) t i i
def pqE (q : List D) (ev : D) : Nat → List D
 | 0 => q
 | j + 1 => pqN (pqE q ev j) (el ev j) (el ev j).len
def pqS (q : List D) (s : D) : Nat → List D
 | 0 => q
 | i + 1 => pqE (pqS q s i) (el s i) (el s i).len
def zrL (n x : Nat) : List D := (List.range x).map (fun _ => .list (List.replicate n (.int 0))) ++ List.replicate (n - x) .nil
structure goodS (n : Int) (s : D) : Prop where
 n1 : 1 ≤ n ∧ n ≤ 64
 big : bigP s
 chk : chk n .nil s = (0, 0)
def wrC (m : Nat) (q : List D) (x y : Int) (k : Prop) : Prop := (0 : Int) ≤ x ∧ x < (↑m : Int) ∧ x.toNat < q.length ∧ (nthD q x.toNat = D.nil → False) ∧ (∀ (r : List D), nthD q x.toNat = D.list r → (0 : Int) ≤ y ∧ y < (↑r.length : Int) ∧ x.toNat < q.length ∧ y < (↑(nthD q x.toNat).len : Int) ∧ x.toNat < q.length ∧ y.toNat < (nthD q x.toNat).len ∧ ((-9223372036854775808 : Int) ≤ nAt (nthD q x.toNat) y.toNat + (1 : Int) ∧ nAt (nthD q x.toNat) y.toNat + (1 : Int) < (9223372036854775808 : Int)) ∧ (0 : Int) ≤ y ∧ y < (↑r.length : Int) ∧ x.toNat < q.length ∧ y < (↑(nthD q x.toNat).len : Int) ∧ x.toNat < q.length ∧ y.toNat < (nthD q x.toNat).len ∧ k) ∧ ∀ (n_1 : Int), nthD q x.toNat = D.int n_1 → False
def netI (l : List D) (q k a : Nat) : Nat → List D
 | 0 => l
 | x + 1 => l.set a (.list (netE q k a (x + 1)))
noncomputable def con16 : Con := fun | [.int .i64 n, .dat 25 s] => some (bigP s, .prop ((chk n .nil s).2 = 0)) | _ => none
noncomputable def ntAnn : FuncId → Nat → Option Ann
 | 26, 3 => some { τ := Nat, slots := fun _ _ x => [(8, .int .i64 x)], blks := fun S _ x => [(slSB S 3, .own S.nx 22 3 (zrL (slI S 0).toNat x))], inv := fun S _ x => x ≤ (slI S 0).toNat, meas := fun S _ x => (slI S 0).toNat - x }
 | 62, 3 => some { τ := Nat, slots := fun _ _ x => [(16, .int .i64 x)], blks := fun S _ x => [(slSB S 7, .own S.nx 22 3 (pqS (slRow S 7) (slD S 14) x))], inv := fun S _ x => x ≤ (slD S 14).len, meas := fun S _ x => (slD S 14).len - x }
 | 62, 6 => some { τ := Nat, slots := fun _ _ y => [(22, .int .i64 y)], blks := fun S _ y => [(slSB S 7, .own S.nx 22 3 (pqE (slRow S 7) (slD S 20) y))], inv := fun S _ y => y ≤ (slD S 20).len, meas := fun S _ y => (slD S 20).len - y }
 | 52, 1 => some { τ := Nat, slots := fun _ _ z => [(9, .int .i64 z)], blks := fun S _ z => [(0, .own S.nx 22 3 (pqN (bkL S 0) (slD S 7) z))], inv := fun S _ z => z ≤ (slD S 7).len, meas := fun S _ z => (slD S 7).len - z }
 | 52, 4 => some { τ := Nat, slots := fun _ _ z => [(18, .int .i64 z)], blks := fun S _ z => [(0, .own S.nx 22 3 (pqI (bkL S 0) (slD S 7) (slI S 3).toNat z))], inv := fun S _ z => z ≤ (slI S 3).toNat, meas := fun S _ z => (slI S 3).toNat - z }
 | 42, 6 => some { τ := Nat, slots := fun _ _ x => [(38, .int .i64 x)], blks := fun S _ x => [(slSB S 8, .own S.nx 41 22 (netS (slI S 1).toNat (slI S 0).toNat x ++ List.replicate ((slI S 1).toNat - x) .nil))], inv := fun S _ x => x ≤ (slI S 1).toNat, meas := fun S _ x => (slI S 1).toNat - x }
 | 42, 9 => some { τ := Nat, slots := fun _ _ x => [(42, .int .i64 x)], blks := fun S _ x => [(slSB S 8, .own S.nx 41 22 (netI (slRow S 8) (slI S 1).toNat (slI S 0).toNat (slI S 9).toNat x))], inv := fun S _ x => x ≤ (slI S 1).toNat, meas := fun S _ x => (slI S 1).toNat - x }
 | 42, 13 => some { hs := 2, τ := Nat, slots := fun S i x => match i with | 0 => [(46, .int .i64 x), (11, .val (.slice none 0 0))] | _ => [(46, .int .i64 x), (11, .slc (Nat.add S.nx 300) (.lit 0) (.sym x) none)], blks := fun S i x => match i with | 0 => [] | _ => [(Nat.add S.nx 300, .arr 3 (netT (slI S 1).toNat (slI S 9).toNat (slI S 10).toNat x))], inv := fun S i x => match i with | 0 => x = 0 | _ => 0 < x ∧ x ≤ (slI S 0).toNat, meas := fun S _ x => (slI S 0).toNat - x }
 | 101, 12 => some { τ := Nat, slots := fun _ _ x => [(77, .int .i64 x)], blks := fun _ _ _ => [], inv := fun S _ x => x ≤ (slD S 75).len, meas := fun S _ x => (slD S 75).len - x }
 | 101, 15 => some { τ := Nat, slots := fun _ _ y => [(84, .int .i64 y)], blks := fun _ _ _ => [], inv := fun S _ y => y ≤ (slD S 82).len, meas := fun S _ y => (slD S 82).len - y }
 | _, _ => none
noncomputable def nt1 : FuncId → Option Con
 | 12 => some con5
 | _ => none
end Go.Ev

end

section
open Go.Proofs
namespace Go.Ev
def moP (r T : List D) : Nat → Int
 | 0 => 0
 | k + 1 => max (moP r T k) (nAt (.list r) (nthD T k).asInt.toNat)
def suP (r T : List D) : Nat → Int
 | 0 => 0
 | k + 1 => suP r T k + nAt (.list r) (nthD T k).asInt.toNat
structure lessP (b mo le su ls : Int) : Prop where
 out : b < 0 ∨ mo < le ∨ (mo = le ∧ su < ls)
open Classical in
noncomputable def nxF (q st T : List D) : Nat → Int × Int × Int
 | 0 => (-1, 0, 0)
 | g + 1 => if (nthD st g).asProp then nxF q st T g else if lessP (nxF q st T g).1 (moP (nthD q g).asList T T.length) (nxF q st T g).2.1 (suP (nthD q g).asList T T.length) (nxF q st T g).2.2 then ((g : Nat), moP (nthD q g).asList T T.length, suP (nthD q g).asList T T.length) else nxF q st T g
noncomputable def nxB (q st T : List D) (g : Nat) : Int := (nxF q st T g).1
noncomputable def nxL (q st T : List D) (g : Nat) : Int := (nxF q st T g).2.1
noncomputable def nxS (q st T : List D) (g : Nat) : Int := (nxF q st T g).2.2
noncomputable def flR (q st : List D) : Nat → List D × List D
 | 0 => (st, [])
 | x + 1 => ((flR q st x).1.set (nxB q (flR q st x).1 (flR q st x).2 q.length).toNat (.bool (true = true)), (flR q st x).2 ++ [.int (nxB q (flR q st x).1 (flR q st x).2 q.length)])
noncomputable def flS (q st : List D) (x : Nat) : List D := (flR q st x).1
noncomputable def flG (q st : List D) (x : Nat) : List D := (flR q st x).2
noncomputable def flT (q : List D) (sz : D) : Nat → List D × List D
 | 0 => (List.replicate q.length (.bool (false = true)), [])
 | j + 1 => (flS q (flT q sz j).1 (nAt sz j).toNat, (flT q sz j).2 ++ [.list (flG q (flT q sz j).1 (nAt sz j).toNat)])
noncomputable def ftS (q : List D) (sz : D) (j : Nat) : List D := (flT q sz j).1
noncomputable def ftT (q : List D) (sz : D) (j : Nat) : List D := (flT q sz j).2
noncomputable def pnL (n : Nat) (sz : D) : Nat → List D
 | 0 => []
 | e + 1 => pnL n sz e ++ [.list (ftT (pqS (zrL n n) (.list (pnL n sz e)) e) sz sz.len)]
noncomputable def pmQ (n : Nat) (sz : D) (e : Nat) : List D := pqS (zrL n n) (.list (pnL n sz e)) e
noncomputable def pwAnn : FuncId → Nat → Option Ann
 | 26, 3 => some { τ := Nat, slots := fun _ _ x => [(8, .int .i64 x)], blks := fun S _ x => [(slSB S 3, .own S.nx 22 3 (zrL (slI S 0).toNat x))], inv := fun S _ x => x ≤ (slI S 0).toNat, meas := fun S _ x => (slI S 0).toNat - x }
 | 52, 1 => some { τ := Nat, slots := fun _ _ z => [(9, .int .i64 z)], blks := fun S _ z => [(0, .own S.nx 22 3 (pqN (bkL S 0) (slD S 7) z))], inv := fun S _ z => z ≤ (slD S 7).len, meas := fun S _ z => (slD S 7).len - z }
 | 52, 4 => some { τ := Nat, slots := fun _ _ z => [(18, .int .i64 z)], blks := fun S _ z => [(0, .own S.nx 22 3 (pqI (bkL S 0) (slD S 7) (slI S 3).toNat z))], inv := fun S _ z => z ≤ (slI S 3).toNat, meas := fun S _ z => (slI S 3).toNat - z }
 | 70, 3 => some { τ := Nat, slots := fun S _ k => [(18, .int .i64 k), (8, .int .i64 (moP (slD S 7).asList (slD S 16).asList k))], blks := fun _ _ _ => [], inv := fun S _ k => k ≤ (slD S 16).len, meas := fun S _ k => (slD S 16).len - k }
 | 71, 3 => some { τ := Nat, slots := fun S _ k => [(18, .int .i64 k), (8, .int .i64 (suP (slD S 7).asList (slD S 16).asList k))], blks := fun _ _ _ => [], inv := fun S _ k => k ≤ (slD S 16).len, meas := fun S _ k => (slD S 16).len - k }
 | 51, 3 => some { τ := Nat, slots := fun S _ g => [(15, .int .i64 g), (7, .int .i64 (nxB (slD S 0).asList (slD S 1).asList (slD S 2).asList g)), (8, .int .i64 (nxL (slD S 0).asList (slD S 1).asList (slD S 2).asList g)), (9, .int .i64 (nxS (slD S 0).asList (slD S 1).asList (slD S 2).asList g))], blks := fun _ _ _ => [], inv := fun S _ g => g ≤ (slD S 0).len, meas := fun S _ g => (slD S 0).len - g }
 | 27, 4 => some { hs := 2, τ := Nat, slots := fun S i j => match i with | 0 => [(16, .int .i64 j), (6, .val (.slice none 0 0))] | _ => [(16, .int .i64 j), (6, .slc (Nat.add S.nx 300) (.lit 0) (.sym j) none)], blks := fun S i j => match i with | 0 => [(slSB S 5, .arr 4 (ftS (slRow S 0) (slD S 14) j))] | _ => [(slSB S 5, .arr 4 (ftS (slRow S 0) (slD S 14) j)), (Nat.add S.nx 300, .arr 22 (ftT (slRow S 0) (slD S 14) j))], inv := fun S i j => match i with | 0 => j = 0 | _ => 0 < j ∧ j ≤ (slD S 14).len, meas := fun S _ j => (slD S 14).len - j }
 | 27, 8 => some { hs := 2, τ := Nat, slots := fun S i x => match i with | 0 => [(21, .int .i64 x), (9, .val (.slice none 0 0))] | _ => [(21, .int .i64 x), (9, .slc (Nat.add S.nx 600) (.lit 0) (.sym x) none)], blks := fun S i x => match i with | 0 => [(slSB S 5, .arr 4 (flS (slRow S 0) (slRow S 5) x))] | _ => [(slSB S 5, .arr 4 (flS (slRow S 0) (slRow S 5) x)), (Nat.add S.nx 600, .arr 3 (flG (slRow S 0) (slRow S 5) x))], inv := fun S i x => match i with | 0 => x = 0 | _ => 0 < x ∧ x ≤ (slI S 20).toNat, meas := fun S _ x => (slI S 20).toNat - x }
 | 7, 8 => some { τ := Nat, slots := fun _ _ e => [(33, .int .i64 e)], blks := fun S _ e => [(slSB S 9, .own S.nx 41 22 (pnL (slI S 0).toNat (slD S 1) e ++ List.replicate ((slI S 2).toNat - e) .nil)), (slSB S 8, .own (Nat.add S.nx 1) 22 3 (pmQ (slI S 0).toNat (slD S 1) e))], inv := fun S _ e => e ≤ (slI S 2).toNat, meas := fun S _ e => (slI S 2).toNat - e }
 | 7, 12 => some { τ := Nat, slots := fun _ _ y => [(47, .int .i64 y)], blks := fun S _ y => [(slSB S 8, .own S.nx 22 3 (pqE (slRow S 8) (.list (ftT (slRow S 8) (slD S 1) (slD S 1).len)) y))], inv := fun S _ y => y ≤ (slD S 1).len, meas := fun S _ y => (slD S 1).len - y }
 | _, _ => none
def cmpZ (a b : Int) : Int := if a < b then -1 else if b < a then 1 else 0
def orZ (a b : Int) : Int := if a ≠ 0 then a else b
noncomputable def con73 : Con := fun | [.int .i64 a, .int .i64 b] => some (True, .int .i64 (cmpZ a b)) | _ => none
noncomputable def con72 : Con := fun | [.dat 22 d] => some (d.len = 2, .int .i64 (orZ (nAt d 0) (nAt d 1))) | _ => none
noncomputable def orAnn : FuncId → Nat → Option Ann
 | 72, 3 => some { τ := Nat, slots := fun _ _ k => [(8, .int .i64 k)], blks := fun _ _ _ => [], inv := fun S _ k => k ≤ 2 ∧ (slD S 0).len = 2 ∧ ∀ i, i < k → nAt (slD S 0) i = 0, meas := fun _ _ k => 2 - k }
 | _, _ => none
structure nxO (Q st T : D) : Prop where
 q64 : Q.len ≤ 64
 stl : st.len = Q.len
 tl : T.len ≤ 64
 tr : ∀ k, k < T.len → 0 ≤ nAt T k ∧ nAt T k < Q.len
 row : ∀ x, x < Q.len → (el Q x).len = Q.len
 rng : ∀ x y, x < Q.len → y < Q.len → 0 ≤ nAt (el Q x) y ∧ nAt (el Q x) y ≤ 1000000000000
noncomputable def con70 : Con := fun | [.dat 51 Q, .int .i64 x, .dat 22 T] => some ((∃ st, nxO Q st T) ∧ 0 ≤ x ∧ x < Q.len, .int .i64 (moP (nthD Q.asList x.toNat).asList T.asList T.len)) | _ => none
noncomputable def con71 : Con := fun | [.dat 51 Q, .int .i64 x, .dat 22 T] => some ((∃ st, nxO Q st T) ∧ 0 ≤ x ∧ x < Q.len, .int .i64 (suP (nthD Q.asList x.toNat).asList T.asList T.len)) | _ => none
noncomputable def con51 : Con := fun | [.dat 51 Q, .dat 86 st, .dat 22 T] => some (nxO Q st T, .int .i64 (nxB Q.asList st.asList T.asList Q.len)) | _ => none
noncomputable def pn1 : FuncId → Option Con
 | 70 => some con70
 | 71 => some con71
 | 72 => some con72
 | 73 => some con73
 | _ => none
noncomputable def pw1 : FuncId → Option Con
 | 24 => some con13
 | 51 => some con51
 | _ => none
noncomputable def pwJoin : FuncId → Nat → Option Ann
 | 27, 13 => some { τ := Unit, slots := fun S _ _ => [(9, .slc (Nat.add S.nx 400) (.lit 0) (.sym (nAt (slD S 14) (slI S 16).toNat).toNat) none)], blks := fun S _ _ => [(slSB S 5, .arr 4 (ftS (slRow S 0) (slD S 14) ((slI S 16).toNat + 1))), (Nat.add S.nx 400, .arr 3 (flG (slRow S 0) (slRow S 5) (nAt (slD S 14) (slI S 16).toNat).toNat))], inv := fun _ _ _ => True, meas := fun _ _ _ => 0 }
 | 27, 15 => some { τ := Unit, slots := fun S _ _ => [(6, .slc (Nat.add S.nx 500) (.lit 0) (.sym (slD S 1).len) none)], blks := fun S _ _ => [(slSB S 5, .arr 4 (ftS (slRow S 0) (slD S 1) (slD S 1).len)), (Nat.add S.nx 500, .arr 22 (ftT (slRow S 0) (slD S 1) (slD S 1).len))], inv := fun _ _ _ => True, meas := fun _ _ _ => 0 }
 | 7, 14 => some { τ := D, slots := fun _ _ x => [(12, .dat 22 x)], blks := fun _ _ _ => [], inv := fun S _ x => x = nthD (ftT (pmQ (slI S 0).toNat (slD S 1) (slI S 33).toNat) (slD S 1) (slD S 1).len) (slI S 47).toNat, meas := fun _ _ _ => 0 }
 | _, _ => none
open Classical in
noncomputable def planD (n : Int) (sz : D) (e : Int) : D := if ((1 ≤ n ∧ n ≤ 64) ∧ fitP n sz) ∧ 0 ≤ e ∧ e ≤ 64 then .list (pnL n.toNat sz e.toNat) else .nil
open Classical in
noncomputable def planX (n : Int) (sz : D) (e : Int) : Int := if ¬ ((1 ≤ n ∧ n ≤ 64) ∧ fitP n sz) then 90 else if ¬ (0 ≤ e ∧ e ≤ 64) then 2 else 0
noncomputable def conPl : Con := fun | [.int .i64 n, .dat 22 sz, .int .i64 e] => some (sz.len ≤ 16777216, .tup [.dat 25 (planD n sz e), .int .i64 (planX n sz e)]) | _ => none
end Go.Ev

end

section
open Go.Proofs
namespace Go.Ev
set_option maxRecDepth 100000
set_option maxHeartbeats 4000000
theorem not_of {p : Prop} (h : p → False) : ¬ p := h
theorem lim_of {n : Nat} (h : n ≤ 100000) : n < LIM := by unfold LIM; omega
theorem vc13 : ∀ (n : Int) (l : D), symFun (ctx cc0 ebAnn) 3 (24 : FuncId) [V.int IntKind.i64 n, V.dat (22 : TypeId) l] (V.prop (fitP n l)) = ((∃ (x : Nat), (x ≤ l.len ∧ (∀ (i : Nat), i < x → 1 ≤ nAt l i) ∧ 0 ≤ sumZ l x
∧ sumZ l x ≤ n) ∧ (0 = (x : Int) ∧ n = n - sumZ l x ∧ True) ∧ True) ∧ ∀ (x : Nat), x ≤ l.len ∧ (∀ (i : Nat), i < x → 1 ≤ nAt l i) ∧ 0 ≤ sumZ l x ∧ sumZ l x ≤ n → l.len - x < LIM ∧ ((x : Int) < (l.len : Int) → 0 ≤ (x :
Int) ∧ (x : Int) < (l.len : Int) ∧ ((nAt l x < 1 → False) → (n - sumZ l x < nAt l x → (false = true ↔ fitP n l)) ∧ ((n - sumZ l x < nAt l x → False) → fits64 (n - sumZ l x - nAt l x) ∧ fits64 ((x : Int) + 1) ∧ ∃ (y :
Nat), (y ≤ l.len ∧ (∀ (i : Nat), i < y → 1 ≤ nAt l i) ∧ 0 ≤ sumZ l y ∧ sumZ l y ≤ n) ∧ l.len - y < l.len - x ∧ ((x : Int) + 1 = (y : Int) ∧ n - sumZ l x - nAt l x = n - sumZ l y ∧ True) ∧ True)) ∧ (nAt l x < 1 → (false =
true ↔ fitP n l))) ∧ (((x : Int) < (l.len : Int) → False) → (n - sumZ l x = 0 ↔ fitP n l))) := by intros; kernel_rfl
theorem sum_mono {l : D} {m : Nat} (h : ∀ i, i < m → 1 ≤ nAt l i) : ∀ x, x ≤ m → (x : Int) ≤ sumZ l x
 | 0, _ => Int.le_refl _
 | x + 1, hx => by
  have := sum_mono h x (by omega)
  have := h x (by omega)
  show ((x + 1 : Nat) : Int) ≤ sumZ l x + nAt l x
  omega
theorem sum_rest {l : D} {m : Nat} (h : ∀ i, i < m → 1 ≤ nAt l i) (x : Nat) : ∀ k, x + k ≤ m → sumZ l x + k ≤ sumZ l (x + k)
 | 0, _ => Int.le_of_eq (by simp)
 | k + 1, hk => by
  have := sum_rest h x k (by omega)
  have := h (x + k) (by omega)
  show sumZ l x + ((k + 1 : Nat) : Int) ≤ sumZ l (x + k) + nAt l (x + k)
  omega
theorem fit_le {n : Int} {l : D} (h : fitP n l) {x : Nat} (hx : x < l.len) : sumZ l x + nAt l x ≤ n := by
 have h1 := sum_rest h.out.1 (x + 1) (l.len - (x + 1)) (by omega)
 rw [show x + 1 + (l.len - (x + 1)) = l.len by omega, h.out.2] at h1
 have h2 : sumZ l (x + 1) = sumZ l x + nAt l x := rfl
 omega
theorem fit_sum {n : Int} {l : D} (h : fitP n l) {x : Nat} (hx : x ≤ l.len) : (x : Int) ≤ sumZ l x ∧ sumZ l x ≤ n := by
 have h1 := sum_rest h.out.1 x (l.len - x) (by omega)
 rw [show x + (l.len - x) = l.len by omega, h.out.2] at h1
 exact ⟨sum_mono h.out.1 x hx, by omega⟩
theorem s13 (n : Int) (l : D) (h1 : 1 ≤ n) (h2 : n ≤ 64) (hl : l.len ≤ 16777216) : symFun (ctx cc0 ebAnn) 3 24 [.int .i64 n, .dat 22 l] (.prop (fitP n l)) := by
 rw [vc13]
 have no : ∀ {p : Prop}, ¬ p → (false = true ↔ p) := fun h => iff_of_false (fun h => (by cases h)) h
 refine And.intro ⟨0, ⟨Nat.zero_le _, fun i hi => absurd hi (Nat.not_lt_zero _), Int.le_refl _, by show (0 : Int) ≤ n; omega⟩, ⟨rfl, by show n = n - 0; omega, trivial⟩, trivial⟩ (fun x hx => ⟨by unfold LIM; omega, fun hlt => ⟨by omega, by omega, fun hs => ⟨fun hb => no fun hf => ?_, fun hb => ?_⟩, fun hs => no fun hf => ?_⟩, fun hge => ?_⟩)
 ·have := fit_le hf (x := x) (by omega); omega
 ·have hs := not_of hs; have hb := not_of hb
  have e : sumZ l (x + 1) = sumZ l x + nAt l x := rfl
  refine ⟨⟨by omega, by omega⟩, ⟨by omega, by omega⟩, x + 1, ⟨by omega, fun i hi => ?_, by omega, by omega⟩, by omega, ⟨by omega, by omega, trivial⟩, trivial⟩
  rcases Nat.lt_or_ge i x with h' | h'
  ·exact hx.2.1 i h'
  ·rw [show i = x by omega]; omega
 ·have := hf.out.1 x (by omega); omega
 ·have hge := not_of hge
  have e : x = l.len := by omega
  subst e
  exact ⟨fun h => ⟨hx.2.1, by omega⟩, fun h => by have := h.out.2; omega⟩
section
variable {n e : Int} {l : D}
end
theorem vc32 : ∀ (n : Int) (d : D), symFun (ctx cc0 (gAnn n)) 5 (59 : FuncId) [V.int IntKind.i64 n, V.dat (22 : TypeId) d] (V.int IntKind.i64 (errG n d.asList)) = ((∃ (x : Nat), (x ≤ d.len ∧ ∀ (i : Nat), i < x → 0 ≤ nAt
d i ∧ nAt d i < n) ∧ (0 = (x : Int) ∧ True) ∧ True) ∧ ∀ (x : Nat), (x ≤ d.len ∧ ∀ (i : Nat), i < x → 0 ≤ nAt d i ∧ nAt d i < n) → d.len - x < LIM ∧ ((x : Int) < (d.len : Int) → 0 ≤ (x : Int) ∧ (x : Int) < (d.len : Int) ∧
((nAt d x < 0 → False) → (n ≤ nAt d x → (0 ≤ (x : Int) → 6 = errG n d.asList) ∧ ((0 ≤ (x : Int) → False) → 0 ≤ n ∧ n ≤ n ∧ n ≤ 16777216 ∧ 1 * n.toNat ≤ 281474976710656 ∧ (∃ (x : Nat × List D), (x.fst ≤ d.len ∧
x.snd.length = n.toNat ∧ (∀ (v : Nat), (v : Int) < n → ((nthD x.snd v).asProp ↔ 0 < cntF (List.take x.fst d.asList) (v : Int))) ∧ ∀ (v : Nat), (v : Int) < n → cntF (List.take x.fst d.asList) (v : Int) ≤ 1) ∧ (0 = (x.fst
: Int) ∧ True) ∧ List.replicate n.toNat (D.bool (false = true)) = x.snd ∧ True) ∧ ∀ (x : Nat × List D), (x.fst ≤ d.len ∧ x.snd.length = n.toNat ∧ (∀ (v : Nat), (v : Int) < n → ((nthD x.snd v).asProp ↔ 0 < cntF (List.take
x.fst d.asList) (v : Int))) ∧ ∀ (v : Nat), (v : Int) < n → cntF (List.take x.fst d.asList) (v : Int) ≤ 1) → d.len - x.fst < LIM ∧ ((x.fst : Int) < (d.len : Int) → 0 ≤ (x.fst : Int) ∧ (x.fst : Int) < (d.len : Int) ∧ 0 ≤
nAt d x.fst ∧ nAt d x.fst < (n.toNat : Int) ∧ (nAt d x.fst).toNat < x.snd.length ∧ ((nthD x.snd (nAt d x.fst).toNat).asProp → 5 = errG n d.asList) ∧ (((nthD x.snd (nAt d x.fst).toNat).asProp → False) → 0 ≤ nAt d x.fst ∧
nAt d x.fst < (n.toNat : Int) ∧ (nAt d x.fst).toNat < x.snd.length ∧ fits64 ((x.fst : Int) + 1) ∧ ∃ (y : Nat × List D), (y.fst ≤ d.len ∧ y.snd.length = n.toNat ∧ (∀ (v : Nat), (v : Int) < n → ((nthD y.snd v).asProp ↔ 0 <
cntF (List.take y.fst d.asList) (v : Int))) ∧ ∀ (v : Nat), (v : Int) < n → cntF (List.take y.fst d.asList) (v : Int) ≤ 1) ∧ d.len - y.fst < d.len - x.fst ∧ ((x.fst : Int) + 1 = (y.fst : Int) ∧ True) ∧ x.snd.set (nAt d
x.fst).toNat (D.bool (true = true)) = y.snd ∧ True)) ∧ (((x.fst : Int) < (d.len : Int) → False) → ((d.len : Int) < n → 2 = errG n d.asList) ∧ (((d.len : Int) < n → False) → 0 = errG n d.asList)))) ∧ ((n ≤ nAt d x →
False) → fits64 ((x : Int) + 1) ∧ ∃ (y : Nat), (y ≤ d.len ∧ ∀ (i : Nat), i < y → 0 ≤ nAt d i ∧ nAt d i < n) ∧ d.len - y < d.len - x ∧ ((x : Int) + 1 = (y : Int) ∧ True) ∧ True)) ∧ (nAt d x < 0 → (0 ≤ (x : Int) → 6 = errG
n d.asList) ∧ ((0 ≤ (x : Int) → False) → 0 ≤ n ∧ n ≤ n ∧ n ≤ 16777216 ∧ 1 * n.toNat ≤ 281474976710656 ∧ (∃ (x : Nat × List D), (x.fst ≤ d.len ∧ x.snd.length = n.toNat ∧ (∀ (v : Nat), (v : Int) < n → ((nthD x.snd
v).asProp ↔ 0 < cntF (List.take x.fst d.asList) (v : Int))) ∧ ∀ (v : Nat), (v : Int) < n → cntF (List.take x.fst d.asList) (v : Int) ≤ 1) ∧ (0 = (x.fst : Int) ∧ True) ∧ List.replicate n.toNat (D.bool (false = true)) =
x.snd ∧ True) ∧ ∀ (x : Nat × List D), (x.fst ≤ d.len ∧ x.snd.length = n.toNat ∧ (∀ (v : Nat), (v : Int) < n → ((nthD x.snd v).asProp ↔ 0 < cntF (List.take x.fst d.asList) (v : Int))) ∧ ∀ (v : Nat), (v : Int) < n → cntF
(List.take x.fst d.asList) (v : Int) ≤ 1) → d.len - x.fst < LIM ∧ ((x.fst : Int) < (d.len : Int) → 0 ≤ (x.fst : Int) ∧ (x.fst : Int) < (d.len : Int) ∧ 0 ≤ nAt d x.fst ∧ nAt d x.fst < (n.toNat : Int) ∧ (nAt d x.fst).toNat
< x.snd.length ∧ ((nthD x.snd (nAt d x.fst).toNat).asProp → 5 = errG n d.asList) ∧ (((nthD x.snd (nAt d x.fst).toNat).asProp → False) → 0 ≤ nAt d x.fst ∧ nAt d x.fst < (n.toNat : Int) ∧ (nAt d x.fst).toNat < x.snd.length
∧ fits64 ((x.fst : Int) + 1) ∧ ∃ (y : Nat × List D), (y.fst ≤ d.len ∧ y.snd.length = n.toNat ∧ (∀ (v : Nat), (v : Int) < n → ((nthD y.snd v).asProp ↔ 0 < cntF (List.take y.fst d.asList) (v : Int))) ∧ ∀ (v : Nat), (v :
Int) < n → cntF (List.take y.fst d.asList) (v : Int) ≤ 1) ∧ d.len - y.fst < d.len - x.fst ∧ ((x.fst : Int) + 1 = (y.fst : Int) ∧ True) ∧ x.snd.set (nAt d x.fst).toNat (D.bool (true = true)) = y.snd ∧ True)) ∧ (((x.fst :
Int) < (d.len : Int) → False) → ((d.len : Int) < n → 2 = errG n d.asList) ∧ (((d.len : Int) < n → False) → 0 = errG n d.asList))))) ∧ (((x : Int) < (d.len : Int) → False) → 0 ≤ n ∧ n ≤ n ∧ n ≤ 16777216 ∧ 1 * n.toNat ≤
281474976710656 ∧ (∃ (x : Nat × List D), (x.fst ≤ d.len ∧ x.snd.length = n.toNat ∧ (∀ (v : Nat), (v : Int) < n → ((nthD x.snd v).asProp ↔ 0 < cntF (List.take x.fst d.asList) (v : Int))) ∧ ∀ (v : Nat), (v : Int) < n →
cntF (List.take x.fst d.asList) (v : Int) ≤ 1) ∧ (0 = (x.fst : Int) ∧ True) ∧ List.replicate n.toNat (D.bool (false = true)) = x.snd ∧ True) ∧ ∀ (x : Nat × List D), (x.fst ≤ d.len ∧ x.snd.length = n.toNat ∧ (∀ (v : Nat),
(v : Int) < n → ((nthD x.snd v).asProp ↔ 0 < cntF (List.take x.fst d.asList) (v : Int))) ∧ ∀ (v : Nat), (v : Int) < n → cntF (List.take x.fst d.asList) (v : Int) ≤ 1) → d.len - x.fst < LIM ∧ ((x.fst : Int) < (d.len :
Int) → 0 ≤ (x.fst : Int) ∧ (x.fst : Int) < (d.len : Int) ∧ 0 ≤ nAt d x.fst ∧ nAt d x.fst < (n.toNat : Int) ∧ (nAt d x.fst).toNat < x.snd.length ∧ ((nthD x.snd (nAt d x.fst).toNat).asProp → 5 = errG n d.asList) ∧ (((nthD
x.snd (nAt d x.fst).toNat).asProp → False) → 0 ≤ nAt d x.fst ∧ nAt d x.fst < (n.toNat : Int) ∧ (nAt d x.fst).toNat < x.snd.length ∧ fits64 ((x.fst : Int) + 1) ∧ ∃ (y : Nat × List D), (y.fst ≤ d.len ∧ y.snd.length =
n.toNat ∧ (∀ (v : Nat), (v : Int) < n → ((nthD y.snd v).asProp ↔ 0 < cntF (List.take y.fst d.asList) (v : Int))) ∧ ∀ (v : Nat), (v : Int) < n → cntF (List.take y.fst d.asList) (v : Int) ≤ 1) ∧ d.len - y.fst < d.len -
x.fst ∧ ((x.fst : Int) + 1 = (y.fst : Int) ∧ True) ∧ x.snd.set (nAt d x.fst).toNat (D.bool (true = true)) = y.snd ∧ True)) ∧ (((x.fst : Int) < (d.len : Int) → False) → ((d.len : Int) < n → 2 = errG n d.asList) ∧ (((d.len
: Int) < n → False) → 0 = errG n d.asList)))) := by intros; kernel_rfl
theorem vc14 : ∀ (n : Int) (sz ev : D), symFun (ctx ck3 ekAnn) 5 (37 : FuncId) [V.int IntKind.i64 n, V.dat (22 : TypeId) sz, V.dat (41 : TypeId) ev] (V.int IntKind.i64 (errE n sz ev)) = ((∃ (x : Nat), (x ≤ ev.len ∧ ∀ (i
: Nat), i < x → (el ev i).len = 0 → False) ∧ (0 = (x : Int) ∧ True) ∧ True) ∧ ∀ (x : Nat), (x ≤ ev.len ∧ ∀ (i : Nat), i < x → (el ev i).len = 0 → False) → ev.len - x < LIM ∧ ((x : Int) < (ev.len : Int) → 0 ≤ (x : Int) ∧
(x : Int) < (ev.len : Int) ∧ ((↑(el ev x).len : Int) = 0 → (((ev.len : Int) = (sz.len : Int) → False) → ((((0 ≤ (x : Int) → False) → False) → False) → (0 < (sz.len : Int) → 2 = errE n sz ev) ∧ ((0 < (sz.len : Int) →
False) → smE ev ∧ ((1 ≤ n ∧ n ≤ 64) ∧ (listD (flatL ev ev.len)).len ≤ 1000000) ∧ errG n (listD (flatL ev ev.len)).asList = errE n sz ev)) ∧ (((0 ≤ (x : Int) → False) → False) → 2 = errE n sz ev)) ∧ ((((ev.len : Int) =
(sz.len : Int) → False) → False) → (∃ (x : Nat), (x ≤ ev.len ∧ ∀ (i : Nat), i < x → (↑(el ev i).len : Int) = nAt sz i) ∧ (0 = (x : Int) ∧ True) ∧ True) ∧ ∀ (x_1 : Nat), (x_1 ≤ ev.len ∧ ∀ (i : Nat), i < x_1 → (↑(el ev
i).len : Int) = nAt sz i) → ev.len - x_1 < LIM ∧ ((x_1 : Int) < (ev.len : Int) → 0 ≤ (x_1 : Int) ∧ (x_1 : Int) < (ev.len : Int) ∧ 0 ≤ (x_1 : Int) ∧ (x_1 : Int) < (sz.len : Int) ∧ (((↑(el ev x_1).len : Int) = nAt sz x_1 →
False) → ((((0 ≤ (x : Int) → False) → False) → False) → (0 < (sz.len : Int) → 2 = errE n sz ev) ∧ ((0 < (sz.len : Int) → False) → smE ev ∧ ((1 ≤ n ∧ n ≤ 64) ∧ (listD (flatL ev ev.len)).len ≤ 1000000) ∧ errG n (listD
(flatL ev ev.len)).asList = errE n sz ev)) ∧ (((0 ≤ (x : Int) → False) → False) → 2 = errE n sz ev)) ∧ ((((↑(el ev x_1).len : Int) = nAt sz x_1 → False) → False) → fits64 ((x_1 : Int) + 1) ∧ ∃ (y : Nat), (y ≤ ev.len ∧ ∀
(i : Nat), i < y → (↑(el ev i).len : Int) = nAt sz i) ∧ ev.len - y < ev.len - x_1 ∧ ((x_1 : Int) + 1 = (y : Int) ∧ True) ∧ True)) ∧ (((x_1 : Int) < (ev.len : Int) → False) → ((((0 ≤ (x : Int) → False) → False) → False) →
(0 < (sz.len : Int) → smE ev ∧ ((1 ≤ n ∧ n ≤ 64) ∧ (listD (flatL ev ev.len)).len ≤ 1000000) ∧ errG n (listD (flatL ev ev.len)).asList = errE n sz ev) ∧ ((0 < (sz.len : Int) → False) → smE ev ∧ ((1 ≤ n ∧ n ≤ 64) ∧ (listD
(flatL ev ev.len)).len ≤ 1000000) ∧ errG n (listD (flatL ev ev.len)).asList = errE n sz ev)) ∧ (((0 ≤ (x : Int) → False) → False) → 2 = errE n sz ev)))) ∧ (((↑(el ev x).len : Int) = 0 → False) → fits64 ((x : Int) + 1) ∧
∃ (y : Nat), (y ≤ ev.len ∧ ∀ (i : Nat), i < y → (el ev i).len = 0 → False) ∧ ev.len - y < ev.len - x ∧ ((x : Int) + 1 = (y : Int) ∧ True) ∧ True)) ∧ (((x : Int) < (ev.len : Int) → False) → (((ev.len : Int) = (sz.len :
Int) → False) → (0 < (sz.len : Int) → 2 = errE n sz ev) ∧ ((0 < (sz.len : Int) → False) → smE ev ∧ ((1 ≤ n ∧ n ≤ 64) ∧ (listD (flatL ev ev.len)).len ≤ 1000000) ∧ errG n (listD (flatL ev ev.len)).asList = errE n sz ev)) ∧
((((ev.len : Int) = (sz.len : Int) → False) → False) → (∃ (x : Nat), (x ≤ ev.len ∧ ∀ (i : Nat), i < x → (↑(el ev i).len : Int) = nAt sz i) ∧ (0 = (x : Int) ∧ True) ∧ True) ∧ ∀ (x : Nat), (x ≤ ev.len ∧ ∀ (i : Nat), i < x
→ (↑(el ev i).len : Int) = nAt sz i) → ev.len - x < LIM ∧ ((x : Int) < (ev.len : Int) → 0 ≤ (x : Int) ∧ (x : Int) < (ev.len : Int) ∧ 0 ≤ (x : Int) ∧ (x : Int) < (sz.len : Int) ∧ (((↑(el ev x).len : Int) = nAt sz x →
False) → (0 < (sz.len : Int) → 2 = errE n sz ev) ∧ ((0 < (sz.len : Int) → False) → smE ev ∧ ((1 ≤ n ∧ n ≤ 64) ∧ (listD (flatL ev ev.len)).len ≤ 1000000) ∧ errG n (listD (flatL ev ev.len)).asList = errE n sz ev)) ∧
((((↑(el ev x).len : Int) = nAt sz x → False) → False) → fits64 ((x : Int) + 1) ∧ ∃ (y : Nat), (y ≤ ev.len ∧ ∀ (i : Nat), i < y → (↑(el ev i).len : Int) = nAt sz i) ∧ ev.len - y < ev.len - x ∧ ((x : Int) + 1 = (y : Int)
∧ True) ∧ True)) ∧ (((x : Int) < (ev.len : Int) → False) → (0 < (sz.len : Int) → smE ev ∧ ((1 ≤ n ∧ n ≤ 64) ∧ (listD (flatL ev ev.len)).len ≤ 1000000) ∧ errG n (listD (flatL ev ev.len)).asList = errE n sz ev) ∧ ((0 <
(sz.len : Int) → False) → smE ev ∧ ((1 ≤ n ∧ n ≤ 64) ∧ (listD (flatL ev ev.len)).len ≤ 1000000) ∧ errG n (listD (flatL ev ev.len)).asList = errE n sz ev))))) := by intros; kernel_rfl
theorem listD_len (l : List D) : (listD l).len = l.length := by cases l <;> rfl
theorem listD_list (l : List D) : (listD l).asList = l := by cases l <;> rfl
theorem nthD_set (l : List D) (i j : Nat) (a : D) (hi : i < l.length) : nthD (l.set i a) j = if i = j then a else nthD l j := by
 unfold nthD
 rw [List.getElem?_set]
 split
 ·rename_i h; subst h; first | rfl | (rw [if_pos hi]; rfl)
 ·rfl
theorem nthD_mem {l : List D} {i : Nat} (hi : i < l.length) : nthD l i ∈ l := by
 unfold nthD
 rw [List.getElem?_eq_getElem hi]
 exact List.getElem_mem hi
theorem mem_nthD {l : List D} {a : D} (h : a ∈ l) : ∃ i, i < l.length ∧ nthD l i = a := by
 obtain ⟨i, hi, e⟩ := List.getElem_of_mem h
 exact ⟨i, hi, by unfold nthD; rw [List.getElem?_eq_getElem hi, e]; rfl⟩
theorem take_succ_nth {l : List D} {i : Nat} (hi : i < l.length) : l.take (i + 1) = l.take i ++ [nthD l i] := by
 rw [List.take_succ_eq_append_getElem hi]
 unfold nthD
 rw [List.getElem?_eq_getElem hi]; rfl
theorem cntF_cons (a : D) (l : List D) (x : Int) : cntF (a :: l) x = cntF l x + (if a.asInt = x then 1 else 0) := rfl
theorem cntF_app (a b : List D) (x : Int) : cntF (a ++ b) x = cntF a x + cntF b x := by
 induction a with
 | nil => show cntF b x = 0 + cntF b x; omega
 | cons c a ih => rw [List.cons_append, cntF_cons, cntF_cons, ih]; omega
theorem cntF_rng (l : List D) (x : Int) : 0 ≤ cntF l x ∧ cntF l x ≤ l.length := by
 induction l with
 | nil => exact ⟨Int.le_refl _, Int.le_refl _⟩
 | cons a l ih => rw [cntF_cons, List.length_cons]; split <;> omega
theorem cntF_succ {l : List D} {i : Nat} (hi : i < l.length) (x : Int) : cntF (l.take (i + 1)) x = cntF (l.take i) x + (if (nthD l i).asInt = x then 1 else 0) := by
 rw [take_succ_nth hi, cntF_app]
 show _ = _
 rw [cntF_cons]
 show cntF (l.take i) x + (0 + _) = _
 omega
theorem cntF_take (l : List D) (i : Nat) (x : Int) : cntF (l.take i) x ≤ cntF l x := by
 have h := cntF_app (l.take i) (l.drop i) x
 rw [List.take_append_drop] at h
 have := (cntF_rng (l.drop i) x).1
 omega
def sumC (l : List D) : Nat → Int
 | 0 => 0
 | n + 1 => sumC l n + cntF l n
theorem sumC_nil : ∀ n, sumC [] n = 0
 | 0 => rfl
 | n + 1 => by show sumC [] n + 0 = 0; rw [sumC_nil n]; rfl
theorem sumC_cons (a : D) (l : List D) : ∀ n : Nat, sumC (a :: l) n = sumC l n + (if 0 ≤ a.asInt ∧ a.asInt < n then 1 else 0)
 | 0 => by
  show (0 : Int) = 0 + _
  rw [if_neg (by omega)]; rfl
 | n + 1 => by
  show sumC (a :: l) n + cntF (a :: l) n = sumC l n + cntF l n + _
  rw [sumC_cons a l n, cntF_cons]
  by_cases h1 : 0 ≤ a.asInt ∧ a.asInt < n
  ·rw [if_pos h1, if_neg (by omega), if_pos (by omega)]; omega
  ·by_cases h2 : a.asInt = n
   ·rw [if_neg h1, if_pos h2, if_pos (by omega)]; omega
   ·rw [if_neg h1, if_neg h2, if_neg (by omega)]; omega
theorem sumC_all {n : Nat} : ∀ {l : List D}, (∀ a, a ∈ l → 0 ≤ a.asInt ∧ a.asInt < n) → sumC l n = l.length
 | [], _ => sumC_nil n
 | a :: l, h => by
  rw [sumC_cons, sumC_all fun b hb => h b (List.mem_cons.2 (.inr hb)), if_pos (h a (List.mem_cons.2 (.inl rfl))), List.length_cons]; omega
theorem sumC_le {l : List D} : ∀ n : Nat, (∀ v : Nat, v < n → cntF l v ≤ 1) → sumC l n ≤ n
 | 0, _ => Int.le_refl _
 | n + 1, h => by
  have := sumC_le n fun v hv => h v (by omega)
  have := h n (by omega)
  show sumC l n + cntF l n ≤ _
  omega
theorem sumC_lt {l : List D} {v : Nat} (hv0 : cntF l v = 0) : ∀ n : Nat, v < n → (∀ v : Nat, v < n → cntF l v ≤ 1) → sumC l n < n
 | 0, hv, _ => by omega
 | n + 1, hv, h => by
  show sumC l n + cntF l n < _
  rcases Nat.lt_or_ge v n with h1 | h1
  ·have := sumC_lt hv0 n h1 fun v hv => h v (by omega)
   have := h n (by omega)
   omega
  ·have e : v = n := by omega
   subst e
   have := sumC_le v fun w hw => h w (by omega)
   omega
theorem sumC_ge {l : List D} : ∀ n : Nat, (∀ v : Nat, v < n → cntF l v ≠ 0) → (n : Int) ≤ sumC l n
 | 0, _ => Int.le_refl _
 | n + 1, h => by
  have := sumC_ge n fun v hv => h v (by omega)
  have := h n (by omega)
  have := (cntF_rng l n).1
  show _ ≤ sumC l n + cntF l n
  omega
section
variable {n : Int} {l : List D}
theorem errG_6 (h : outP n l) : errG n l = 6 := by unfold errG; rw [if_pos h]
theorem errG_5 (h : ¬ outP n l) {x : Int} (hx : 0 ≤ x ∧ x < n) (hc : 1 < cntF l x) : errG n l = 5 := by unfold errG; rw [if_neg h, if_pos ⟨x, hx, hc⟩]
theorem one_of (h : ∀ v : Nat, (v : Int) < n → cntF l v ≤ 1) : ¬ ∃ x : Int, (0 ≤ x ∧ x < n) ∧ 1 < cntF l x := fun ⟨x, hx, hc⟩ => by
 have := h x.toNat (by omega)
 rw [show ((x.toNat : Nat) : Int) = x by omega] at this
 omega
theorem errG_2 (h : ¬ outP n l) (h1 : ∀ v : Nat, (v : Int) < n → cntF l v ≤ 1) {x : Int} (hx : 0 ≤ x ∧ x < n) (hc : cntF l x = 0) : errG n l = 2 := by unfold errG; rw [if_neg h, if_neg (one_of h1), if_pos ⟨x, hx, hc⟩]
theorem errG_0 (h : ¬ outP n l) (h1 : ∀ v : Nat, (v : Int) < n → cntF l v ≤ 1) (h2 : ∀ v : Nat, (v : Int) < n → cntF l v ≠ 0) : errG n l = 0 := by
 unfold errG
 rw [if_neg h, if_neg (one_of h1), if_neg]
 intro ⟨x, hx, hc⟩
 have := h2 x.toNat (by omega)
 rw [show ((x.toNat : Nat) : Int) = x by omega] at this
 exact this hc
theorem in_of (h : ¬ outP n l) : ∀ a, a ∈ l → 0 ≤ a.asInt ∧ a.asInt < n := fun a ha => Classical.byContradiction fun hn => h ⟨a, ha, hn⟩
theorem errG_len (hn : 0 ≤ n) (h : ¬ outP n l) (h1 : ∀ v : Nat, (v : Int) < n → cntF l v ≤ 1) : errG n l = if (l.length : Int) < n then 2 else 0 := by
 have hs := sumC_all (n := n.toNat) (l := l) fun a ha => by have := in_of h a ha; omega
 by_cases hz : ∃ v : Nat, (v : Int) < n ∧ cntF l v = 0
 ·obtain ⟨v, hv, hc⟩ := hz
  have := sumC_lt hc n.toNat (by omega) fun w hw => h1 w (by omega)
  rw [if_pos (by omega)]
  exact errG_2 h h1 (x := v) ⟨by omega, hv⟩ hc
 ·have h2 : ∀ v : Nat, (v : Int) < n → cntF l v ≠ 0 := fun v hv hc => hz ⟨v, hv, hc⟩
  have := sumC_ge n.toNat fun w hw => h2 w (by omega)
  rw [if_neg (by omega)]
  exact errG_0 h h1 h2
end
theorem flat_len (ev : D) : ∀ n, (flatL ev n).length = totE ev n
 | 0 => rfl
 | n + 1 => by show (flatL ev n ++ _).length = totE ev n + _; rw [List.length_append, flat_len ev n]; rfl
theorem tot_le {ev : D} {k : Nat} (h : ∀ i, i < k → (el ev i).len ≤ 1000) : ∀ n, n ≤ k → totE ev n ≤ 1000 * n
 | 0, _ => Nat.le_refl _
 | n + 1, hn => by
  have := tot_le h n (by omega)
  have := h n (by omega)
  show totE ev n + _ ≤ _
  omega
theorem tot_mono (ev : D) (n : Nat) : ∀ k, totE ev n ≤ totE ev (n + k)
 | 0 => Nat.le_refl _
 | k + 1 => Nat.le_trans (tot_mono ev n k) (Nat.le_add_right _ _)
theorem tot_mono' (ev : D) {n m : Nat} (h : n ≤ m) : totE ev n ≤ totE ev m := by have := tot_mono ev n (m - n); rwa [show n + (m - n) = m by omega] at this
theorem no_of {p : Prop} (h : ¬ p) : (false = true ↔ p) := iff_of_false (fun h => (by cases h)) h
theorem s32 (n : Int) (d : D) (h1 : 1 ≤ n) (h2 : n ≤ 64) (hd : d.len ≤ 1000000) : symFun (ctx cc0 (gAnn n)) 5 59 [.int .i64 n, .dat 22 d] (.int .i64 (errG n d.asList)) := by
 rw [vc32]
 have hl : d.len = d.asList.length := rfl
 have six : ∀ x, x < d.len → ¬ (0 ≤ nAt d x ∧ nAt d x < n) → 6 = errG n d.asList := fun x hx hn => (errG_6 ⟨_, nthD_mem (l := d.asList) hx, hn⟩).symm
 have ab : ∀ {p : Prop} (x : Nat), (0 ≤ (x : Int) → False) → p := fun x h => absurd (Int.natCast_nonneg x) h
 refine And.intro ⟨0, ⟨Nat.zero_le _, fun i hi => absurd hi (Nat.not_lt_zero _)⟩, ⟨rfl, trivial⟩, trivial⟩ (fun x hx => ⟨by unfold LIM; omega, fun hlt => ⟨by omega, by omega, fun h3 => ⟨fun h4 => ⟨fun _ => six x (by omega) (by omega), ab x⟩, fun h4 => ⟨⟨by omega, by omega⟩, x + 1, ⟨by omega, fun i hi => ?_⟩, by omega, ⟨by omega, trivial⟩, trivial⟩⟩, fun h3 => ⟨fun _ => six x (by omega) (by omega), ab x⟩⟩, fun hge => ?_⟩)
 ·rcases Nat.lt_or_ge i x with h' | h'
  ·exact hx.2 i h'
  ·have h3 := not_of h3; have h4 := not_of h4
   rw [show i = x by omega]; omega
 ·have hge := not_of hge
  have hin : ¬ outP n d.asList := fun ⟨a, ha, hn⟩ => by
   obtain ⟨i, hi, rfl⟩ := mem_nthD ha
   exact hn (hx.2 i (by omega))
  refine ⟨by omega, Int.le_refl _, by omega, by omega, ?_⟩
  refine And.intro ⟨(0, _), ⟨Nat.zero_le _, List.length_replicate .., fun v hv => ?_, fun v hv => by show (0 : Int) ≤ 1; decide⟩, ⟨rfl, trivial⟩, rfl, trivial⟩ (fun y hy => ?_)
  ·refine iff_of_false ?_ (Int.lt_irrefl 0)
   show ¬ (nthD (List.replicate n.toNat (D.bool (false = true))) v).asProp
   unfold nthD
   rw [List.getElem?_replicate, if_pos (by omega)]
   exact fun h => (by cases h)
  ·obtain ⟨k, r⟩ := y
   dsimp only at hy ⊢
   obtain ⟨hk, hr, hse, hone⟩ := hy
   refine ⟨by unfold LIM; omega, fun hlt => ?_, fun hge => ?_⟩
   ·have hkin := hx.2 k (by omega)
    have ec : ∀ v : Nat, cntF (d.asList.take (k + 1)) v = cntF (d.asList.take k) v + (if nAt d k = v then 1 else 0) := fun v => cntF_succ (l := d.asList) (i := k) (show k < d.len by omega) v
    have hv0 : (((nAt d k).toNat : Nat) : Int) = nAt d k := by omega
    refine ⟨by omega, by omega, hkin.1, by omega, by omega, fun hp => ?_, fun hp => ?_⟩
    ·have c1 := (hse (nAt d k).toNat (by omega)).1 hp
     have c2 := ec (nAt d k).toNat
     rw [if_pos hv0.symm] at c2
     have c3 := cntF_take d.asList (k + 1) ((nAt d k).toNat : Nat)
     exact (errG_5 hin (x := ((nAt d k).toNat : Nat)) ⟨by omega, by omega⟩ (by omega)).symm
    ·have c0 := hone (nAt d k).toNat (by omega)
     refine ⟨hkin.1, by omega, by omega, ⟨by omega, by omega⟩, (k + 1, _), ⟨by omega, by rw [List.length_set]; exact hr, fun v hv => ?_, fun v hv => ?_⟩, by omega, ⟨by omega, trivial⟩, rfl, trivial⟩
     ·dsimp only
      rw [nthD_set _ _ _ _ (by omega), ec v]
      by_cases he : (nAt d k).toNat = v
      ·rw [if_pos he, if_pos (by omega)]
       have := (cntF_rng (d.asList.take k) v).1
       exact iff_of_true (show true = true from rfl) (by omega)
      ·rw [if_neg he, if_neg (by omega), Int.add_zero]
       exact hse v hv
     ·dsimp only
      rw [ec v]
      by_cases he : nAt d k = v
      ·rw [if_pos he]
       have hz : ¬ 0 < cntF (d.asList.take k) ((nAt d k).toNat : Nat) := fun h => hp ((hse (nAt d k).toNat (by omega)).2 h)
       rw [hv0, he] at hz
       omega
      ·rw [if_neg he]
       have := hone v hv
       omega
   ·have hge := not_of hge
    have e : d.asList.take k = d.asList := List.take_of_length_le (by omega)
    rw [e] at hone
    rw [errG_len (by omega) hin hone]
    exact ⟨fun h => by rw [if_pos (by omega)], fun h => by have := not_of h; rw [if_neg (by omega)]⟩
theorem errE_2 {n : Int} {sz ev : D} (h : emptyP ev ∨ (0 < sz.len ∧ ¬ sameSz ev sz)) : 2 = errE n sz ev := by unfold errE; rw [if_pos h]
theorem errE_g {n : Int} {sz ev : D} (h : ¬ emptyP ev) (h1 : 0 < sz.len → sameSz ev sz) : errE n sz ev = errG n (flatL ev ev.len) := by unfold errE; rw [if_neg fun h' => h'.elim h fun h' => h'.2 (h1 h'.1)]
theorem s14 (n : Int) (sz ev : D) (h1 : 1 ≤ n) (h2 : n ≤ 64) (he : smE ev) (hz : sz.len ≤ 1000) : symFun (ctx ck3 ekAnn) 5 37 [.int .i64 n, .dat 22 sz, .dat 41 ev] (.int .i64 (errE n sz ev)) := by
 rw [vc14]
 have hl := he.out.1
 have ab : ∀ {p : Prop} (x : Nat), (((0 ≤ (x : Int) → False) → False) → False) → p := fun x h => absurd (fun h' => h' (Int.natCast_nonneg x)) h
 have go : ¬ emptyP ev → (0 < sz.len → sameSz ev sz) → smE ev ∧ ((1 ≤ n ∧ n ≤ 64) ∧ (listD (flatL ev ev.len)).len ≤ 1000000) ∧ errG n (listD (flatL ev ev.len)).asList = errE n sz ev := fun k1 k2 => ⟨he, ⟨⟨h1, h2⟩, by rw [listD_len, flat_len]; have := tot_le he.out.2 ev.len (Nat.le_refl _); omega⟩, by rw [listD_list, errE_g k1 k2]⟩
 have same0 : ∃ x, (x ≤ ev.len ∧ ∀ i, i < x → ((el ev i).len : Int) = nAt sz i) ∧ (0 = (x : Int) ∧ True) ∧ True := ⟨0, ⟨Nat.zero_le _, fun i hi => absurd hi (Nat.not_lt_zero _)⟩, ⟨rfl, trivial⟩, trivial⟩
 refine And.intro ⟨0, ⟨Nat.zero_le _, fun i hi => absurd hi (Nat.not_lt_zero _)⟩, ⟨rfl, trivial⟩, trivial⟩ (fun x hx => ⟨lim_of (by omega), fun hlt => ⟨by omega, by omega, fun h0 => ?_, fun h0 => ⟨⟨by omega, by omega⟩, x + 1, ⟨by omega, fun i hi => ?_⟩, by omega, ⟨by omega, trivial⟩, trivial⟩⟩, fun hge => ?_⟩)
 ·have em : emptyP ev := ⟨x, by omega, by omega⟩
  refine ⟨fun _ => ⟨ab x, fun _ => errE_2 (.inl em)⟩, fun hs => ?_⟩
  have hs := Classical.not_not.1 hs
  refine And.intro same0 (fun y hy => ⟨lim_of (by omega), fun hlt2 => ⟨by omega, by omega, by omega, by omega, fun hn => ⟨ab x, fun _ => errE_2 (.inl em)⟩, fun hn => ⟨⟨by omega, by omega⟩, y + 1, ⟨by omega, fun i hi => ?_⟩, by omega, ⟨by omega, trivial⟩, trivial⟩⟩, fun hge => ⟨ab x, fun _ => errE_2 (.inl em)⟩⟩)
  rcases Nat.lt_or_ge i y with h' | h'
  ·exact hy.2 i h'
  ·rw [show i = y by omega]; exact Classical.not_not.1 hn
 ·rcases Nat.lt_or_ge i x with h' | h'
  ·exact hx.2 i h'
  ·rw [show i = x by omega]; exact fun h => h0 (by omega)
 ·have hge := not_of hge
  have em : ¬ emptyP ev := fun ⟨i, hi, h0⟩ => hx.2 i (by omega) h0
  refine ⟨fun hs => ⟨fun h0 => errE_2 (.inr ⟨by omega, fun h' => hs (by have := h'.out.1; omega)⟩), fun h0 => go em fun h' => absurd (show (0 : Int) < (sz.len : Int) by omega) h0⟩, fun hs => ?_⟩
  have hs := Classical.not_not.1 hs
  refine And.intro same0 (fun y hy => ⟨lim_of (by omega), fun hlt2 => ⟨by omega, by omega, by omega, by omega, fun hn => ⟨fun h0 => errE_2 (.inr ⟨by omega, fun h' => hn (h'.out.2 y (by omega))⟩), fun h0 => go em fun h' => absurd (show (0 : Int) < (sz.len : Int) by omega) h0⟩, fun hn => ⟨⟨by omega, by omega⟩, y + 1, ⟨by omega, fun i hi => ?_⟩, by omega, ⟨by omega, trivial⟩, trivial⟩⟩, fun hge => ?_⟩)
  ·rcases Nat.lt_or_ge i y with h' | h'
   ·exact hy.2 i h'
   ·rw [show i = y by omega]; exact Classical.not_not.1 hn
  ·have hge := not_of hge
   have sm : sameSz ev sz := ⟨by omega, fun i hi => hy.2 i (by omega)⟩
   exact ⟨fun _ => go em fun _ => sm, fun _ => go em fun _ => sm⟩
theorem scan_step {n : Int} {sz s : D} {x : Nat} (hx : x < s.len) : scanK n sz s (s.len - x) x = if errE n sz (el s x) ≠ 0 then (((x : Nat) : Int), errE n sz (el s x)) else scanK n sz s (s.len - (x + 1)) (x + 1) := by
 rw [show s.len - x = (s.len - (x + 1)) + 1 by omega]; rfl
theorem scan_end {n : Int} {sz s : D} {x : Nat} (hx : ¬ x < s.len) : scanK n sz s (s.len - x) x = (0, 0) := by
 rw [show s.len - x = 0 by omega]; rfl
end Go.Ev

end

section
open Go.Proofs
namespace Go.Ev
set_option maxRecDepth 100000
set_option maxHeartbeats 4000000
theorem vc5 : ∀ (n : Int) (sz s : D), symFun (ctx ck4 ekAnn) 4 (12 : FuncId) [V.int IntKind.i64 n, V.dat (22 : TypeId) sz, V.dat (25 : TypeId) s] (V.tup [V.int IntKind.i64 (chk n sz s).fst, V.int IntKind.i64 (chk n sz
s).snd]) = ((1 ≤ n → (((n ≤ 64 → False) → False) → (0 < (sz.len : Int) → ((1 ≤ n ∧ n ≤ 64) ∧ sz.len ≤ 16777216) ∧ ((fitP n sz → False) → 0 = (chk n sz s).fst ∧ 90 = (chk n sz s).snd ∧ True) ∧ (((fitP n sz → False) →
False) → (64 < (s.len : Int) → 0 = (chk n sz s).fst ∧ 7 = (chk n sz s).snd ∧ True) ∧ ((64 < (s.len : Int) → False) → (∃ (x : Nat), (x ≤ s.len ∧ scanK n sz s (s.len - x) x = scanK n sz s s.len 0) ∧ (0 = (x : Int) ∧ True)
∧ True) ∧ ∀ (x : Nat), x ≤ s.len ∧ scanK n sz s (s.len - x) x = scanK n sz s s.len 0 → s.len - x < LIM ∧ ((x : Int) < (s.len : Int) → 0 ≤ (x : Int) ∧ (x : Int) < (s.len : Int) ∧ ((1 ≤ n ∧ n ≤ 64) ∧ smE (el s x) ∧ sz.len
≤ 1000) ∧ ((errE n sz (el s x) = 0 → False) → (x : Int) = (chk n sz s).fst ∧ errE n sz (el s x) = (chk n sz s).snd ∧ True) ∧ (((errE n sz (el s x) = 0 → False) → False) → fits64 ((x : Int) + 1) ∧ ∃ (y : Nat), (y ≤ s.len
∧ scanK n sz s (s.len - y) y = scanK n sz s s.len 0) ∧ s.len - y < s.len - x ∧ ((x : Int) + 1 = (y : Int) ∧ True) ∧ True)) ∧ (((x : Int) < (s.len : Int) → False) → 0 = (chk n sz s).fst ∧ 0 = (chk n sz s).snd ∧ True)))) ∧
((0 < (sz.len : Int) → False) → (64 < (s.len : Int) → 0 = (chk n sz s).fst ∧ 7 = (chk n sz s).snd ∧ True) ∧ ((64 < (s.len : Int) → False) → (∃ (x : Nat), (x ≤ s.len ∧ scanK n sz s (s.len - x) x = scanK n sz s s.len 0) ∧
(0 = (x : Int) ∧ True) ∧ True) ∧ ∀ (x : Nat), x ≤ s.len ∧ scanK n sz s (s.len - x) x = scanK n sz s s.len 0 → s.len - x < LIM ∧ ((x : Int) < (s.len : Int) → 0 ≤ (x : Int) ∧ (x : Int) < (s.len : Int) ∧ ((1 ≤ n ∧ n ≤ 64) ∧
smE (el s x) ∧ sz.len ≤ 1000) ∧ ((errE n sz (el s x) = 0 → False) → (x : Int) = (chk n sz s).fst ∧ errE n sz (el s x) = (chk n sz s).snd ∧ True) ∧ (((errE n sz (el s x) = 0 → False) → False) → fits64 ((x : Int) + 1) ∧ ∃
(y : Nat), (y ≤ s.len ∧ scanK n sz s (s.len - y) y = scanK n sz s s.len 0) ∧ s.len - y < s.len - x ∧ ((x : Int) + 1 = (y : Int) ∧ True) ∧ True)) ∧ (((x : Int) < (s.len : Int) → False) → 0 = (chk n sz s).fst ∧ 0 = (chk n
sz s).snd ∧ True)))) ∧ ((n ≤ 64 → False) → 0 = (chk n sz s).fst ∧ 90 = (chk n sz s).snd ∧ True)) ∧ ((1 ≤ n → False) → 0 = (chk n sz s).fst ∧ 90 = (chk n sz s).snd ∧ True)) := by intros; kernel_rfl
theorem vc33 : ∀ (ev : D), symFun (ctxj cc0 ekAnn ekJoin) 4 (14 : FuncId) [V.dat (41 : TypeId) ev] (V.dat (22 : TypeId) (listD (flatL ev ev.len))) = ((∃ (x : Nat), x.le ev.len ∧ (0 = (x : Int) ∧ 0 = (↑(totE ev x) : Int)
∧ True) ∧ True) ∧ ∀ (x : Nat), x.le ev.len → ev.len - x < LIM ∧ ((x : Int) < (ev.len : Int) → 0 ≤ (x : Int) ∧ (x : Int) < (ev.len : Int) ∧ fits64 ((↑(totE ev x) : Int) + (↑(el ev x).len : Int)) ∧ ((↑(totE ev x) : Int) +
(↑(el ev x).len : Int) < 0 → False) ∧ (((↑(totE ev x) : Int) + (↑(el ev x).len : Int) < 0 → False) → fits64 ((x : Int) + 1) ∧ ∃ (y : Nat), y.le ev.len ∧ ev.len - y < ev.len - x ∧ ((x : Int) + 1 = (y : Int) ∧ (↑(totE ev
x) : Int) + (↑(el ev x).len : Int) = (↑(totE ev y) : Int) ∧ True) ∧ True)) ∧ (((x : Int) < (ev.len : Int) → False) → (((↑(totE ev x) : Int) < 0 → False) ∧ (((↑(totE ev x) : Int) < 0 → False) → fits64 ((↑(totE ev x) :
Int) - 0) ∧ (0 < (↑(totE ev x) : Int) - 0 → (0 : Int) ≤ 0 ∧ (0 : Int) ≤ 0 ∧ (0 : Int) ≤ 0 ∧ 0 < (↑(totE ev x) : Int) - 0 ∧ (↑(totE ev x) : Int) - 0 ≤ 16777216 ∧ (0 : Int) ≤ 0 ∧ (0 : Int) ≤ 0 ∧ ((↑((↑(totE ev x) : Int) -
0).toNat : Int) - 0).NonNeg ∧ ((∃ (x_1 : List D), (0 - (↑(totE ev x) : Int)).NonNeg ∧ (False ∧ True) ∧ True) ∨ ∃ (x_1 : List D), ((↑(totE ev x) : Int) - (0 + 1)).NonNeg ∧ (((0 : Nat) + 0 = 0 ∧ (0 : Nat) - 0 = 0 ∧ True) ∧
True) ∧ List.replicate ((↑(totE ev x) : Int) - 0).toNat (D.int 0) = x_1 ∧ True)) ∧ ((0 < (↑(totE ev x) : Int) - 0 → False) → (∃ (x_1 : List D), (0 - (↑(totE ev x) : Int)).NonNeg ∧ (True ∧ True) ∧ True) ∨ ∃ (x_1 : List
D), ((↑(totE ev x) : Int) - (0 + 1)).NonNeg ∧ (False ∧ True) ∧ False ∧ True))) ∧ (∀ (x_1 : List D), (0 - (↑(totE ev x) : Int)).NonNeg → ((∃ (x : Nat × List D), (x.fst ≤ ev.len ∧ totE ev ev.len = 0) ∧ (0 = (x.fst : Int) ∧
True ∧ True) ∧ True) ∨ ∃ (x : Nat × List D), (x.fst ≤ ev.len ∧ 0 < totE ev ev.len ∧ totE ev x.fst ≤ x.snd.length ∧ List.take (totE ev x.fst) x.snd = flatL ev x.fst) ∧ (0 = (x.fst : Int) ∧ False ∧ True) ∧ False ∧ True) ∧
(∀ (x : Nat × List D), x.fst ≤ ev.len ∧ totE ev ev.len = 0 → ev.len - x.fst < LIM ∧ ((x.fst : Int) < (ev.len : Int) → 0 ≤ (x.fst : Int) ∧ (x.fst : Int) < (ev.len : Int) ∧ ((el ev x.fst).len = 0 → fits64 ((x.fst : Int) +
1) ∧ ((∃ (y : Nat × List D), (y.fst ≤ ev.len ∧ totE ev ev.len = 0) ∧ ev.len - y.fst < ev.len - x.fst ∧ ((x.fst : Int) + 1 = (y.fst : Int) ∧ True ∧ True) ∧ True) ∨ ∃ (y : Nat × List D), (y.fst ≤ ev.len ∧ 0 < totE ev
ev.len ∧ totE ev y.fst ≤ y.snd.length ∧ List.take (totE ev y.fst) y.snd = flatL ev y.fst) ∧ ev.len - y.fst < ev.len - x.fst ∧ ((x.fst : Int) + 1 = (y.fst : Int) ∧ False ∧ True) ∧ False ∧ True)) ∧ (0 < (el ev x.fst).len →
(el ev x.fst).len ≤ 16777216 ∧ fits64 ((x.fst : Int) + 1) ∧ ((∃ (y : Nat × List D), (y.fst ≤ ev.len ∧ totE ev ev.len = 0) ∧ ev.len - y.fst < ev.len - x.fst ∧ ((x.fst : Int) + 1 = (y.fst : Int) ∧ False ∧ True) ∧ True) ∨ ∃
(y : Nat × List D), (y.fst ≤ ev.len ∧ 0 < totE ev ev.len ∧ totE ev y.fst ≤ y.snd.length ∧ List.take (totE ev y.fst) y.snd = flatL ev y.fst) ∧ ev.len - y.fst < ev.len - x.fst ∧ ((x.fst : Int) + 1 = (y.fst : Int) ∧ ((0 :
Nat) = 0 ∧ (el ev x.fst).len = totE ev y.fst ∧ True) ∧ True) ∧ (el ev x.fst).asList = y.snd ∧ True))) ∧ (((x.fst : Int) < (ev.len : Int) → False) → D.nil = listD (flatL ev ev.len))) ∧ ∀ (x : Nat × List D), x.fst ≤ ev.len
∧ 0 < totE ev ev.len ∧ totE ev x.fst ≤ x.snd.length ∧ List.take (totE ev x.fst) x.snd = flatL ev x.fst → ev.len - x.fst < LIM ∧ ((x.fst : Int) < (ev.len : Int) → 0 ≤ (x.fst : Int) ∧ (x.fst : Int) < (ev.len : Int) ∧ ((el
ev x.fst).len = 0 → fits64 ((x.fst : Int) + 1) ∧ ((∃ (y : Nat × List D), (y.fst ≤ ev.len ∧ totE ev ev.len = 0) ∧ ev.len - y.fst < ev.len - x.fst ∧ ((x.fst : Int) + 1 = (y.fst : Int) ∧ False ∧ True) ∧ True) ∨ ∃ (y : Nat ×
List D), (y.fst ≤ ev.len ∧ 0 < totE ev ev.len ∧ totE ev y.fst ≤ y.snd.length ∧ List.take (totE ev y.fst) y.snd = flatL ev y.fst) ∧ ev.len - y.fst < ev.len - x.fst ∧ ((x.fst : Int) + 1 = (y.fst : Int) ∧ ((0 : Nat) = 0 ∧
totE ev x.fst = totE ev y.fst ∧ True) ∧ True) ∧ x.snd = y.snd ∧ True)) ∧ (0 < (el ev x.fst).len → 0 + totE ev x.fst ≤ x.snd.length ∧ totE ev x.fst + (el ev x.fst).len ≤ 16777216 ∧ fits64 ((x.fst : Int) + 1) ∧ ((∃ (y :
Nat × List D), (y.fst ≤ ev.len ∧ totE ev ev.len = 0) ∧ ev.len - y.fst < ev.len - x.fst ∧ ((x.fst : Int) + 1 = (y.fst : Int) ∧ False ∧ True) ∧ True) ∨ ∃ (y : Nat × List D), (y.fst ≤ ev.len ∧ 0 < totE ev ev.len ∧ totE ev
y.fst ≤ y.snd.length ∧ List.take (totE ev y.fst) y.snd = flatL ev y.fst) ∧ ev.len - y.fst < ev.len - x.fst ∧ ((x.fst : Int) + 1 = (y.fst : Int) ∧ ((0 : Nat) = 0 ∧ totE ev x.fst + (el ev x.fst).len = totE ev y.fst ∧ True)
∧ True) ∧ List.take (totE ev x.fst) x.snd ++ (el ev x.fst).asList = y.snd ∧ True))) ∧ (((x.fst : Int) < (ev.len : Int) → False) → 0 + totE ev x.fst ≤ x.snd.length ∧ D.list (List.take (totE ev x.fst) x.snd) = listD (flatL
ev ev.len))) ∧ ∀ (x_1 : List D), ((↑(totE ev x) : Int) - (0 + 1)).NonNeg → ((∃ (x : Nat × List D), (x.fst ≤ ev.len ∧ totE ev ev.len = 0) ∧ (0 = (x.fst : Int) ∧ False ∧ True) ∧ True) ∨ ∃ (x : Nat × List D), (x.fst ≤
ev.len ∧ 0 < totE ev ev.len ∧ totE ev x.fst ≤ x.snd.length ∧ List.take (totE ev x.fst) x.snd = flatL ev x.fst) ∧ (0 = (x.fst : Int) ∧ ((0 : Nat) = 0 ∧ 0 = totE ev x.fst ∧ True) ∧ True) ∧ x_1 = x.snd ∧ True) ∧ (∀ (x : Nat
× List D), x.fst ≤ ev.len ∧ totE ev ev.len = 0 → ev.len - x.fst < LIM ∧ ((x.fst : Int) < (ev.len : Int) → 0 ≤ (x.fst : Int) ∧ (x.fst : Int) < (ev.len : Int) ∧ ((el ev x.fst).len = 0 → fits64 ((x.fst : Int) + 1) ∧ ((∃ (y
: Nat × List D), (y.fst ≤ ev.len ∧ totE ev ev.len = 0) ∧ ev.len - y.fst < ev.len - x.fst ∧ ((x.fst : Int) + 1 = (y.fst : Int) ∧ True ∧ True) ∧ True) ∨ ∃ (y : Nat × List D), (y.fst ≤ ev.len ∧ 0 < totE ev ev.len ∧ totE ev
y.fst ≤ y.snd.length ∧ List.take (totE ev y.fst) y.snd = flatL ev y.fst) ∧ ev.len - y.fst < ev.len - x.fst ∧ ((x.fst : Int) + 1 = (y.fst : Int) ∧ False ∧ True) ∧ x_1 = y.snd ∧ True)) ∧ (0 < (el ev x.fst).len → (el ev
x.fst).len ≤ 16777216 ∧ fits64 ((x.fst : Int) + 1) ∧ ((∃ (y : Nat × List D), (y.fst ≤ ev.len ∧ totE ev ev.len = 0) ∧ ev.len - y.fst < ev.len - x.fst ∧ ((x.fst : Int) + 1 = (y.fst : Int) ∧ False ∧ True) ∧ True) ∨ ∃ (y :
Nat × List D), (y.fst ≤ ev.len ∧ 0 < totE ev ev.len ∧ totE ev y.fst ≤ y.snd.length ∧ List.take (totE ev y.fst) y.snd = flatL ev y.fst) ∧ ev.len - y.fst < ev.len - x.fst ∧ ((x.fst : Int) + 1 = (y.fst : Int) ∧ ((0 : Nat) =
0 ∧ (el ev x.fst).len = totE ev y.fst ∧ True) ∧ True) ∧ (el ev x.fst).asList = y.snd ∧ True))) ∧ (((x.fst : Int) < (ev.len : Int) → False) → D.nil = listD (flatL ev ev.len))) ∧ ∀ (x : Nat × List D), x.fst ≤ ev.len ∧ 0 <
totE ev ev.len ∧ totE ev x.fst ≤ x.snd.length ∧ List.take (totE ev x.fst) x.snd = flatL ev x.fst → ev.len - x.fst < LIM ∧ ((x.fst : Int) < (ev.len : Int) → 0 ≤ (x.fst : Int) ∧ (x.fst : Int) < (ev.len : Int) ∧ ((el ev
x.fst).len = 0 → fits64 ((x.fst : Int) + 1) ∧ ((∃ (y : Nat × List D), (y.fst ≤ ev.len ∧ totE ev ev.len = 0) ∧ ev.len - y.fst < ev.len - x.fst ∧ False) ∨ ∃ (y : Nat × List D), (y.fst ≤ ev.len ∧ 0 < totE ev ev.len ∧ totE
ev y.fst ≤ y.snd.length ∧ List.take (totE ev y.fst) y.snd = flatL ev y.fst) ∧ ev.len - y.fst < ev.len - x.fst ∧ ((x.fst : Int) + 1 = (y.fst : Int) ∧ ((0 : Nat) = 0 ∧ totE ev x.fst = totE ev y.fst ∧ True) ∧ True) ∧ x.snd
= y.snd ∧ True)) ∧ (0 < (el ev x.fst).len → 0 + totE ev x.fst ≤ x.snd.length ∧ totE ev x.fst + (el ev x.fst).len ≤ 16777216 ∧ fits64 ((x.fst : Int) + 1) ∧ ((∃ (y : Nat × List D), (y.fst ≤ ev.len ∧ totE ev ev.len = 0) ∧
ev.len - y.fst < ev.len - x.fst ∧ False) ∨ ∃ (y : Nat × List D), (y.fst ≤ ev.len ∧ 0 < totE ev ev.len ∧ totE ev y.fst ≤ y.snd.length ∧ List.take (totE ev y.fst) y.snd = flatL ev y.fst) ∧ ev.len - y.fst < ev.len - x.fst ∧
((x.fst : Int) + 1 = (y.fst : Int) ∧ ((0 : Nat) = 0 ∧ totE ev x.fst + (el ev x.fst).len = totE ev y.fst ∧ True) ∧ True) ∧ List.take (totE ev x.fst) x.snd ++ (el ev x.fst).asList = y.snd ∧ True))) ∧ (((x.fst : Int) <
(ev.len : Int) → False) → 0 + totE ev x.fst ≤ x.snd.length ∧ D.list (List.take (totE ev x.fst) x.snd) = listD (flatL ev ev.len)))) := by intros; kernel_rfl
section
variable {n : Int} {sz s : D}
theorem chk_90 (h : ¬ (1 ≤ n ∧ n ≤ 64) ∨ (0 < sz.len ∧ ¬ fitP n sz)) : chk n sz s = (0, 90) := by unfold chk; rw [if_pos h]
theorem chk_7 (h : 1 ≤ n ∧ n ≤ 64) (h1 : 0 < sz.len → fitP n sz) (h2 : 64 < s.len) : chk n sz s = (0, 7) := by unfold chk; rw [if_neg fun h' => h'.elim (fun k => k h) fun k => k.2 (h1 k.1), if_pos h2]
theorem chk_s (h : 1 ≤ n ∧ n ≤ 64) (h1 : 0 < sz.len → fitP n sz) (h2 : ¬ 64 < s.len) : chk n sz s = scanK n sz s s.len 0 := by unfold chk; rw [if_neg fun h' => h'.elim (fun k => k h) fun k => k.2 (h1 k.1), if_neg h2]
end
theorem s5 (n : Int) (sz s : D) (hz : sz.len ≤ 1000) (hs : bigP s) : symFun (ctx ck4 ekAnn) 4 12 [.int .i64 n, .dat 22 sz, .dat 25 s] (.tup [.int .i64 (chk n sz s).1, .int .i64 (chk n sz s).2]) := by
 rw [vc5]
 have bad : (¬ (1 ≤ n ∧ n ≤ 64) ∨ (0 < sz.len ∧ ¬ fitP n sz)) → 0 = (chk n sz s).1 ∧ 90 = (chk n sz s).2 ∧ True := fun h => by rw [chk_90 h]; exact ⟨rfl, rfl, trivial⟩
 refine ⟨fun h1 => ⟨fun h2 => ?_, fun h2 => bad (.inl (by have := not_of h2; omega))⟩, fun h1 => bad (.inl (by have := not_of h1; omega))⟩
 have h2 := Classical.not_not.1 h2
 refine ⟨fun h0 => ⟨⟨⟨h1, h2⟩, by omega⟩, fun hf => bad (.inr ⟨by omega, hf⟩), fun hf => ?_⟩, fun h0 => ?_⟩
 all_goals
  have hfit : 0 < sz.len → fitP n sz := by first | (intro _; exact Classical.not_not.1 hf) | (intro h; exact absurd (show (0 : Int) < (sz.len : Int) by omega) h0)
  refine ⟨fun h3 => by rw [chk_7 ⟨h1, h2⟩ hfit (by omega)]; exact ⟨rfl, rfl, trivial⟩, fun h3 => ?_⟩
  have h3 := not_of h3
  rw [chk_s ⟨h1, h2⟩ hfit (by omega)]
  refine And.intro ⟨0, ⟨Nat.zero_le _, rfl⟩, ⟨rfl, trivial⟩, trivial⟩ (fun x hx => ⟨lim_of (by omega), fun hlt => ?_, fun hge => ?_⟩)
  ·have st := scan_step (n := n) (sz := sz) (s := s) (x := x) (by omega)
   rw [hx.2] at st
   refine ⟨by omega, by omega, ⟨⟨h1, h2⟩, hs.out.2 x (by omega), hz⟩, fun hn => by rw [st, if_pos hn]; exact ⟨rfl, rfl, trivial⟩, fun hn => ⟨⟨by omega, by omega⟩, x + 1, ⟨by omega, ?_⟩, by omega, ⟨by omega, trivial⟩, trivial⟩⟩
   rw [st, if_neg hn]
  ·have hge := not_of hge
   have st := scan_end (n := n) (sz := sz) (s := s) (x := x) (by omega)
   rw [hx.2] at st
   rw [st]; exact ⟨rfl, rfl, trivial⟩
theorem tot0_flat {ev : D} (h : totE ev ev.len = 0) {x : Nat} (hx : x ≤ ev.len) : flatL ev x = [] := by
 have h1 := tot_mono' ev hx
 exact List.eq_nil_of_length_eq_zero (by rw [flat_len]; omega)
theorem nn_of {a b : Int} (h : a ≤ b) : (b - a).NonNeg := h
theorem s33 (ev : D) (he : smE ev) : symFun (ctxj cc0 ekAnn ekJoin) 4 14 [.dat 41 ev] (.dat 22 (listD (flatL ev ev.len))) := by
 rw [vc33]
 have hl := he.out.1
 have ht := tot_le he.out.2
 refine And.intro ⟨0, Nat.zero_le _, ⟨rfl, rfl, trivial⟩, trivial⟩ (fun x hx => ?_)
 have hx : x ≤ ev.len := hx
 have htx := ht x hx
 refine ⟨lim_of (by omega), fun hlt => ?_, fun hge => ?_⟩
 ·have h2 := he.out.2 x (by omega)
  have e : totE ev (x + 1) = totE ev x + (el ev x).len := rfl
  exact ⟨by omega, by omega, ⟨by omega, by omega⟩, fun h => by omega, fun _ => ⟨⟨by omega, by omega⟩, x + 1, show x + 1 ≤ ev.len by omega, by omega, ⟨by omega, by omega, trivial⟩, trivial⟩⟩
 have hge := not_of hge
 have hxe : x = ev.len := by omega
 subst hxe
 refine ⟨⟨fun h => by omega, fun _ => ⟨⟨by omega, by omega⟩, fun hpos => ⟨by omega, by omega, by omega, by omega, by omega, by omega, by omega, nn_of (by omega), Or.inr ⟨_, nn_of (by omega), ⟨⟨rfl, rfl, trivial⟩, trivial⟩, rfl, trivial⟩⟩, fun hz => Or.inl ⟨[], nn_of (by have := not_of hz; omega), ⟨trivial, trivial⟩, trivial⟩⟩⟩, fun r0 hr0 => ?_, fun r0 hr0 => ?_⟩
 ·have hz : (totE ev ev.len : Int) ≤ 0 := hr0
  have h0 : totE ev ev.len = 0 := by omega
  refine ⟨Or.inl ⟨(0, []), ⟨Nat.zero_le _, h0⟩, ⟨rfl, trivial, trivial⟩, trivial⟩, fun y hy => ?_, fun y hy => by have := hy.2.1; omega⟩
  obtain ⟨k, r⟩ := y
  dsimp only at hy ⊢
  obtain ⟨hk, _⟩ := hy
  refine ⟨lim_of (by omega), fun hlt => ⟨by omega, by omega, fun hn => ⟨⟨by omega, by omega⟩, Or.inl ⟨(k + 1, []), ⟨by omega, h0⟩, by omega, ⟨by omega, trivial, trivial⟩, trivial⟩⟩, fun hn => ?_⟩, fun hge => ?_⟩
  ·have e : totE ev (k + 1) = totE ev k + (el ev k).len := rfl
   have := tot_mono' ev (show k + 1 ≤ ev.len by omega)
   exact absurd hn (by omega)
  ·rw [tot0_flat h0 (Nat.le_refl _)]; rfl
 ·have hp0 : (0 : Int) + 1 ≤ (totE ev ev.len : Int) := hr0
  refine ⟨Or.inr ⟨(0, r0), ⟨Nat.zero_le _, by omega, Nat.zero_le _, rfl⟩, ⟨rfl, ⟨rfl, rfl, trivial⟩, trivial⟩, rfl, trivial⟩, fun y hy => by have := hy.2; omega, fun y hy => ?_⟩
  obtain ⟨k, r⟩ := y
  dsimp only at hy ⊢
  obtain ⟨hk, hp, hr, hrt⟩ := hy
  have htk := ht k hk
  refine ⟨lim_of (by omega), fun hlt => ?_, fun hge => ?_⟩
  ·have h2 := he.out.2 k (by omega)
   have e : totE ev (k + 1) = totE ev k + (el ev k).len := rfl
   have ef : flatL ev (k + 1) = flatL ev k ++ (el ev k).asList := rfl
   have el0 : (el ev k).asList.length = (el ev k).len := rfl
   refine ⟨by omega, by omega, fun h0 => ⟨⟨by omega, by omega⟩, Or.inr ⟨(k + 1, r), ⟨by omega, by omega, by dsimp only; omega, ?_⟩, by dsimp only; omega, ⟨by dsimp only; omega, ⟨rfl, by dsimp only; omega, trivial⟩, trivial⟩, rfl, trivial⟩⟩, fun h0 => ⟨by omega, by omega, ⟨by omega, by omega⟩, Or.inr ⟨(k + 1, _), ⟨by dsimp only; omega, by omega, ?_, ?_⟩, by dsimp only; omega, ⟨by dsimp only; omega, ⟨rfl, by dsimp only; omega, trivial⟩, trivial⟩, rfl, trivial⟩⟩⟩
   ·dsimp only
    rw [e, h0, Nat.add_zero, hrt, ef, List.eq_nil_of_length_eq_zero (show (el ev k).asList.length = 0 from h0), List.append_nil]
   ·dsimp only
    rw [List.length_append, hrt, flat_len]
    exact Nat.le_of_eq rfl
   ·dsimp only
    rw [hrt, ef]
    exact List.take_of_length_le (by rw [List.length_append, flat_len]; exact Nat.le_of_eq rfl)
  ·have hge := not_of hge
   have e : k = ev.len := by omega
   subst e
   refine ⟨by omega, ?_⟩
   rw [hrt]
   cases hf : flatL ev ev.len with
   | nil => have := flat_len ev ev.len; rw [hf] at this; exact absurd this.symm (by show ¬ totE ev ev.len = 0; omega)
   | cons a l => rfl
end Go.Ev

end
