/-
  Part of the engine that the claim is proved with: it states nothing of the document by itself.
-/
import Derived.Test.YtcnjngiaoomecaaDoorProg
import Derived.Test.YtcnjngiaoomecaaDoorCoreEv
import Derived.Test.YtcnjngiaoomecaaDoorCoreNtM
import Derived.Test.YtcnjngiaoomecaaDoorCoreKit
import Derived.Test.YtcnjngiaoomecaaDoorCoreRnD

section
open Go.Proofs
namespace Go.Ev
def listD (l : List D) : D := match l with | [] => .nil | l => .list l
noncomputable def slRow (S : SS) (t : Tmp) : List D := match S.fr.get t with | some (.slc b _ _ _) => bkL S b | _ => []
noncomputable def slSB (S : SS) (t : Tmp) : Nat := match S.fr.get t with | some (.slc b _ _ _) => b | _ => 0
noncomputable def rowId (S : SS) (t : Tmp) : Nat := match S.fr.get t with | some (.slc b _ _ _) => b | _ => 60
noncomputable def ctx (con : FuncId → Option Con) (ann : FuncId → Nat → Option Ann) : Ctx := { P := Tryd.prog, con := con, ora := fun g => cond (Nat.beq g 5) (some (.bool true)) none, bits := 1329227995784915872903807060280344575, ann := ann }
instance (con : FuncId → Option Con) (ann : FuncId → Nat → Option Ann) : Nonempty (NoF (ctx con ann)) := ⟨⟨fun _ _ h => by cases h⟩⟩
noncomputable def ctxj (con : FuncId → Option Con) (ann : FuncId → Nat → Option Ann) (join : FuncId → Nat → Option Ann) : Ctx := { ctx con ann with join := join }
instance (con : FuncId → Option Con) (ann join : FuncId → Nat → Option Ann) : Nonempty (NoF (ctxj con ann join)) := ⟨⟨fun _ _ h => by cases h⟩⟩
noncomputable def cc0 : FuncId → Option Con := fun _ => none
noncomputable def noAnn : FuncId → Nat → Option Ann := fun _ _ => none
def sumZ (l : D) : Nat → Int
 | 0 => 0
 | n + 1 => sumZ l n + nAt l n
structure fitP (n : Int) (l : D) : Prop where
 out : (∀ i, i < l.len → 1 ≤ nAt l i) ∧ sumZ l l.len = n
noncomputable def con13 : Con := fun | [.int .i64 n, .dat 22 l] => some ((1 ≤ n ∧ n ≤ 64) ∧ l.len ≤ 16777216, .prop (fitP n l)) | _ => none
noncomputable def ebAnn : FuncId → Nat → Option Ann
 | 24, 3 => some { τ := Nat, slots := fun S _ x => [(11, .int .i64 x), (5, .int .i64 (slI S 0 - sumZ (slD S 1) x))], blks := fun _ _ _ => [], inv := fun S _ x => x ≤ (slD S 1).len ∧ (∀ i, i < x → 1 ≤ nAt (slD S 1) i) ∧ 0 ≤ sumZ (slD S 1) x ∧ sumZ (slD S 1) x ≤ slI S 0, meas := fun S _ x => (slD S 1).len - x }
 | _, _ => none
structure smE (ev : D) : Prop where
 out : ev.len ≤ 100 ∧ ∀ i, i < ev.len → (el ev i).len ≤ 1000
structure bigP (s : D) : Prop where
 out : s.len ≤ 100 ∧ ∀ i, i < s.len → smE (el s i)
def totE (ev : D) : Nat → Nat
 | 0 => 0
 | n + 1 => totE ev n + (el ev n).len
def flatL (ev : D) : Nat → List D
 | 0 => []
 | n + 1 => flatL ev n ++ (el ev n).asList
def cntF (l : List D) (x : Int) : Int := match l with
 | [] => 0
 | a :: l => cntF l x + (if a.asInt = x then 1 else 0)
structure outP (n : Int) (l : List D) : Prop where
 out : ∃ a, a ∈ l ∧ ¬ (0 ≤ a.asInt ∧ a.asInt < n)
open Classical in
noncomputable def errG (n : Int) (l : List D) : Int :=
 if outP n l then 6 else if ∃ x : Int, (0 ≤ x ∧ x < n) ∧ 1 < cntF l x then 5 else if ∃ x : Int, (0 ≤ x ∧ x < n) ∧ cntF l x = 0 then 2 else 0
structure sameSz (ev sz : D) : Prop where
 out : ev.len = sz.len ∧ ∀ i, i < ev.len → ((el ev i).len : Int) = nAt sz i
structure emptyP (ev : D) : Prop where
 out : ∃ i, i < ev.len ∧ (el ev i).len = 0
open Classical in
noncomputable def errE (n : Int) (sz ev : D) : Int := if emptyP ev ∨ (0 < sz.len ∧ ¬ sameSz ev sz) then 2 else errG n (flatL ev ev.len)
open Classical in
noncomputable def scanK (n : Int) (sz s : D) : Nat → Nat → Int × Int
 | 0, _ => (0, 0)
 | f + 1, i => if errE n sz (el s i) ≠ 0 then ((i : Nat), errE n sz (el s i)) else scanK n sz s f (i + 1)
open Classical in
noncomputable def chk (n : Int) (sz s : D) : Int × Int := if ¬ (1 ≤ n ∧ n ≤ 64) ∨ (0 < sz.len ∧ ¬ fitP n sz) then (0, 90) else if 64 < s.len then (0, 7) else scanK n sz s s.len 0
def incZ (q : List D) (x y : Int) : List D := q.set x.toNat (.list ((nthD q x.toNat).asList.set y.toNat (.int (nAt (nthD q x.toNat) y.toNat + 1))))
def updP (q : List D) (x y : Int) : List D := incZ (incZ q x y) y x
def pqI (q : List D) (t : D) (i : Nat) : Nat → List D
 | 0 => q
 | j + 1 => updP (pqI q t i j) (nAt t j) (nAt t i)
def pqN (q : List D) (t : D) : Nat → List D
 | 0 => q
 | i + 1 => pqI (pqN q t i) t i i
def pqE (q : List D) (ev : D) : Nat → List D
 | 0 => q
 | j + 1 => pqN (pqE q ev j) (el ev j) (el ev j).len
def pqS (q : List D) (s : D) : Nat → List D
 | 0 => q
 | i + 1 => pqE (pqS q s i) (el s i) (el s i).len
def zrL (n x : Nat) : List D := (List.range x).map (fun _ => .list (List.replicate n (.int 0))) ++ List.replicate (n - x) .nil
structure goodS (n : Int) (s : D) : Prop where
 n1 : 1 ≤ n ∧ n ≤ 64
 big : bigP s
 chk : chk n .nil s = (0, 0)
def wrC (m : Nat) (q : List D) (x y : Int) (k : Prop) : Prop := (0 : Int) ≤ x ∧ x < (↑m : Int) ∧ x.toNat < q.length ∧ (nthD q x.toNat = D.nil → False) ∧ (∀ (r : List D), nthD q x.toNat = D.list r → (0 : Int) ≤ y ∧ y < (↑r.length : Int) ∧ x.toNat < q.length ∧ y < (↑(nthD q x.toNat).len : Int) ∧ x.toNat < q.length ∧ y.toNat < (nthD q x.toNat).len ∧ ((-9223372036854775808 : Int) ≤ nAt (nthD q x.toNat) y.toNat + (1 : Int) ∧ nAt (nthD q x.toNat) y.toNat + (1 : Int) < (9223372036854775808 : Int)) ∧ (0 : Int) ≤ y ∧ y < (↑r.length : Int) ∧ x.toNat < q.length ∧ y < (↑(nthD q x.toNat).len : Int) ∧ x.toNat < q.length ∧ y.toNat < (nthD q x.toNat).len ∧ k) ∧ ∀ (n_1 : Int), nthD q x.toNat = D.int n_1 → False
end Go.Ev

end

section
open Go.Proofs
namespace Go.Ev
def moP (r T : List D) : Nat → Int
 | 0 => 0
 | k + 1 => max (moP r T k) (nAt (.list r) (nthD T k).asInt.toNat)
def suP (r T : List D) : Nat → Int
 | 0 => 0
 | k + 1 => suP r T k + nAt (.list r) (nthD T k).asInt.toNat
structure lessP (b mo le su ls : Int) : Prop where
 out : b < 0 ∨ mo < le ∨ (mo = le ∧ su < ls)
open Classical in
noncomputable def nxF (q st T : List D) : Nat → Int × Int × Int
 | 0 => (-1, 0, 0)
 | g + 1 => if (nthD st g).asProp then nxF q st T g else if lessP (nxF q st T g).1 (moP (nthD q g).asList T T.length) (nxF q st T g).2.1 (suP (nthD q g).asList T T.length) (nxF q st T g).2.2 then ((g : Nat), moP (nthD q g).asList T T.length, suP (nthD q g).asList T T.length) else nxF q st T g
noncomputable def nxB (q st T : List D) (g : Nat) : Int := (nxF q st T g).1
noncomputable def nxL (q st T : List D) (g : Nat) : Int := (nxF q st T g).2.1
noncomputable def nxS (q st T : List D) (g : Nat) : Int := (nxF q st T g).2.2
noncomputable def flR (q st : List D) : Nat → List D × List D
 | 0 => (st, [])
 | x + 1 => ((flR q st x).1.set (nxB q (flR q st x).1 (flR q st x).2 q.length).toNat (.bool (true = true)), (flR q st x).2 ++ [.int (nxB q (flR q st x).1 (flR q st x).2 q.length)])
noncomputable def flS (q st : List D) (x : Nat) : List D := (flR q st x).1
noncomputable def flG (q st : List D) (x : Nat) : List D := (flR q st x).2
noncomputable def flT (q : List D) (sz : D) : Nat → List D × List D
 | 0 => (List.replicate q.length (.bool (false = true)), [])
 | j + 1 => (flS q (flT q sz j).1 (nAt sz j).toNat, (flT q sz j).2 ++ [.list (flG q (flT q sz j).1 (nAt sz j).toNat)])
noncomputable def ftS (q : List D) (sz : D) (j : Nat) : List D := (flT q sz j).1
noncomputable def ftT (q : List D) (sz : D) (j : Nat) : List D := (flT q sz j).2
noncomputable def pnL (n : Nat) (sz : D) : Nat → List D
 | 0 => []
 | e + 1 => pnL n sz e ++ [.list (ftT (pqS (zrL n n) (.list (pnL n sz e)) e) sz sz.len)]
noncomputable def pmQ (n : Nat) (sz : D) (e : Nat) : List D := pqS (zrL n n) (.list (pnL n sz e)) e
noncomputable def pwAnn : FuncId → Nat → Option Ann
 | 26, 3 => some { τ := Nat, slots := fun _ _ x => [(8, .int .i64 x)], blks := fun S _ x => [(slSB S 3, .own S.nx 22 3 (zrL (slI S 0).toNat x))], inv := fun S _ x => x ≤ (slI S 0).toNat, meas := fun S _ x => (slI S 0).toNat - x }
 | 52, 1 => some { τ := Nat, slots := fun _ _ z => [(9, .int .i64 z)], blks := fun S _ z => [(0, .own S.nx 22 3 (pqN (bkL S 0) (slD S 7) z))], inv := fun S _ z => z ≤ (slD S 7).len, meas := fun S _ z => (slD S 7).len - z }
 | 52, 4 => some { τ := Nat, slots := fun _ _ z => [(18, .int .i64 z)], blks := fun S _ z => [(0, .own S.nx 22 3 (pqI (bkL S 0) (slD S 7) (slI S 3).toNat z))], inv := fun S _ z => z ≤ (slI S 3).toNat, meas := fun S _ z => (slI S 3).toNat - z }
 | 70, 3 => some { τ := Nat, slots := fun S _ k => [(18, .int .i64 k), (8, .int .i64 (moP (slD S 7).asList (slD S 16).asList k))], blks := fun _ _ _ => [], inv := fun S _ k => k ≤ (slD S 16).len, meas := fun S _ k => (slD S 16).len - k }
 | 71, 3 => some { τ := Nat, slots := fun S _ k => [(18, .int .i64 k), (8, .int .i64 (suP (slD S 7).asList (slD S 16).asList k))], blks := fun _ _ _ => [], inv := fun S _ k => k ≤ (slD S 16).len, meas := fun S _ k => (slD S 16).len - k }
 | 51, 3 => some { τ := Nat, slots := fun S _ g => [(15, .int .i64 g), (7, .int .i64 (nxB (slD S 0).asList (slD S 1).asList (slD S 2).asList g)), (8, .int .i64 (nxL (slD S 0).asList (slD S 1).asList (slD S 2).asList g)), (9, .int .i64 (nxS (slD S 0).asList (slD S 1).asList (slD S 2).asList g))], blks := fun _ _ _ => [], inv := fun S _ g => g ≤ (slD S 0).len, meas := fun S _ g => (slD S 0).len - g }
 | 27, 4 => some { hs := 2, τ := Nat, slots := fun S i j => match i with | 0 => [(16, .int .i64 j), (6, .val (.slice none 0 0))] | _ => [(16, .int .i64 j), (6, .slc (Nat.add S.nx 300) (.lit 0) (.sym j) none)], blks := fun S i j => match i with | 0 => [(slSB S 5, .arr 4 (ftS (slRow S 0) (slD S 14) j))] | _ => [(slSB S 5, .arr 4 (ftS (slRow S 0) (slD S 14) j)), (Nat.add S.nx 300, .arr 22 (ftT (slRow S 0) (slD S 14) j))], inv := fun S i j => match i with | 0 => j = 0 | _ => 0 < j ∧ j ≤ (slD S 14).len, meas := fun S _ j => (slD S 14).len - j }
 | 27, 8 => some { hs := 2, τ := Nat, slots := fun S i x => match i with | 0 => [(21, .int .i64 x), (9, .val (.slice none 0 0))] | _ => [(21, .int .i64 x), (9, .slc (Nat.add S.nx 600) (.lit 0) (.sym x) none)], blks := fun S i x => match i with | 0 => [(slSB S 5, .arr 4 (flS (slRow S 0) (slRow S 5) x))] | _ => [(slSB S 5, .arr 4 (flS (slRow S 0) (slRow S 5) x)), (Nat.add S.nx 600, .arr 3 (flG (slRow S 0) (slRow S 5) x))], inv := fun S i x => match i with | 0 => x = 0 | _ => 0 < x ∧ x ≤ (slI S 20).toNat, meas := fun S _ x => (slI S 20).toNat - x }
 | 7, 8 => some { τ := Nat, slots := fun _ _ e => [(33, .int .i64 e)], blks := fun S _ e => [(slSB S 9, .own S.nx 41 22 (pnL (slI S 0).toNat (slD S 1) e ++ List.replicate ((slI S 2).toNat - e) .nil)), (slSB S 8, .own (Nat.add S.nx 1) 22 3 (pmQ (slI S 0).toNat (slD S 1) e))], inv := fun S _ e => e ≤ (slI S 2).toNat, meas := fun S _ e => (slI S 2).toNat - e }
 | 7, 12 => some { τ := Nat, slots := fun _ _ y => [(47, .int .i64 y)], blks := fun S _ y => [(slSB S 8, .own S.nx 22 3 (pqE (slRow S 8) (.list (ftT (slRow S 8) (slD S 1) (slD S 1).len)) y))], inv := fun S _ y => y ≤ (slD S 1).len, meas := fun S _ y => (slD S 1).len - y }
 | _, _ => none
def cmpZ (a b : Int) : Int := if a < b then -1 else if b < a then 1 else 0
def orZ (a b : Int) : Int := if a ≠ 0 then a else b
noncomputable def con73 : Con := fun | [.int .i64 a, .int .i64 b] => some (True, .int .i64 (cmpZ a b)) | _ => none
noncomputable def con72 : Con := fun | [.dat 22 d] => some (d.len = 2, .int .i64 (orZ (nAt d 0) (nAt d 1))) | _ => none
noncomputable def orAnn : FuncId → Nat → Option Ann
 | 72, 3 => some { τ := Nat, slots := fun _ _ k => [(8, .int .i64 k)], blks := fun _ _ _ => [], inv := fun S _ k => k ≤ 2 ∧ (slD S 0).len = 2 ∧ ∀ i, i < k → nAt (slD S 0) i = 0, meas := fun _ _ k => 2 - k }
 | _, _ => none
structure nxO (Q st T : D) : Prop where
 q64 : Q.len ≤ 64
 stl : st.len = Q.len
 tl : T.len ≤ 64
 tr : ∀ k, k < T.len → 0 ≤ nAt T k ∧ nAt T k < Q.len
 row : ∀ x, x < Q.len → (el Q x).len = Q.len
 rng : ∀ x y, x < Q.len → y < Q.len → 0 ≤ nAt (el Q x) y ∧ nAt (el Q x) y ≤ 1000000000000
noncomputable def con70 : Con := fun | [.dat 51 Q, .int .i64 x, .dat 22 T] => some ((∃ st, nxO Q st T) ∧ 0 ≤ x ∧ x < Q.len, .int .i64 (moP (nthD Q.asList x.toNat).asList T.asList T.len)) | _ => none
noncomputable def con71 : Con := fun | [.dat 51 Q, .int .i64 x, .dat 22 T] => some ((∃ st, nxO Q st T) ∧ 0 ≤ x ∧ x < Q.len, .int .i64 (suP (nthD Q.asList x.toNat).asList T.asList T.len)) | _ => none
noncomputable def con51 : Con := fun | [.dat 51 Q, .dat 86 st, .dat 22 T] => some (nxO Q st T, .int .i64 (nxB Q.asList st.asList T.asList Q.len)) | _ => none
noncomputable def pn1 : FuncId → Option Con
 | 70 => some con70
 | 71 => some con71
 | 72 => some con72
 | 73 => some con73
 | _ => none
noncomputable def pw1 : FuncId → Option Con
 | 24 => some con13
 | 51 => some con51
 | _ => none
noncomputable def pwJoin : FuncId → Nat → Option Ann
 | 27, 13 => some { τ := Unit, slots := fun S _ _ => [(9, .slc (Nat.add S.nx 400) (.lit 0) (.sym (nAt (slD S 14) (slI S 16).toNat).toNat) none)], blks := fun S _ _ => [(slSB S 5, .arr 4 (ftS (slRow S 0) (slD S 14) ((slI S 16).toNat + 1))), (Nat.add S.nx 400, .arr 3 (flG (slRow S 0) (slRow S 5) (nAt (slD S 14) (slI S 16).toNat).toNat))], inv := fun _ _ _ => True, meas := fun _ _ _ => 0 }
 | 27, 15 => some { τ := Unit, slots := fun S _ _ => [(6, .slc (Nat.add S.nx 500) (.lit 0) (.sym (slD S 1).len) none)], blks := fun S _ _ => [(slSB S 5, .arr 4 (ftS (slRow S 0) (slD S 1) (slD S 1).len)), (Nat.add S.nx 500, .arr 22 (ftT (slRow S 0) (slD S 1) (slD S 1).len))], inv := fun _ _ _ => True, meas := fun _ _ _ => 0 }
 | 7, 14 => some { τ := D, slots := fun _ _ x => [(12, .dat 22 x)], blks := fun _ _ _ => [], inv := fun S _ x => x = nthD (ftT (pmQ (slI S 0).toNat (slD S 1) (slI S 33).toNat) (slD S 1) (slD S 1).len) (slI S 47).toNat, meas := fun _ _ _ => 0 }
 | _, _ => none
open Classical in
noncomputable def planD (n : Int) (sz : D) (e : Int) : D := if ((1 ≤ n ∧ n ≤ 64) ∧ fitP n sz) ∧ 0 ≤ e ∧ e ≤ 64 then .list (pnL n.toNat sz e.toNat) else .nil
open Classical in
noncomputable def planX (n : Int) (sz : D) (e : Int) : Int := if ¬ ((1 ≤ n ∧ n ≤ 64) ∧ fitP n sz) then 90 else if ¬ (0 ≤ e ∧ e ≤ 64) then 2 else 0
noncomputable def conPl : Con := fun | [.int .i64 n, .dat 22 sz, .int .i64 e] => some (sz.len ≤ 16777216, .tup [.dat 25 (planD n sz e), .int .i64 (planX n sz e)]) | _ => none
end Go.Ev

end

section
open Go.Proofs
namespace Go.Ev
set_option maxRecDepth 100000
set_option maxHeartbeats 4000000
theorem not_of {p : Prop} (h : p → False) : ¬ p := h
theorem lim_of {n : Nat} (h : n ≤ 100000) : n < LIM := by unfold LIM; omega
theorem vc13 : ∀ (n : Int) (l : D), symFun (ctx cc0 ebAnn) 3 (24 : FuncId) [V.int IntKind.i64 n, V.dat (22 : TypeId) l] (V.prop (fitP n l)) = ((∃ (x : Nat), (x ≤ l.len ∧ (∀ (i : Nat), i < x → 1 ≤ nAt l i) ∧ 0 ≤ sumZ l x
∧ sumZ l x ≤ n) ∧ (0 = (x : Int) ∧ n = n - sumZ l x ∧ True) ∧ True) ∧ ∀ (x : Nat), x ≤ l.len ∧ (∀ (i : Nat), i < x → 1 ≤ nAt l i) ∧ 0 ≤ sumZ l x ∧ sumZ l x ≤ n → l.len - x < LIM ∧ ((x : Int) < (l.len : Int) → 0 ≤ (x :
Int) ∧ (x : Int) < (l.len : Int) ∧ ((nAt l x < 1 → False) → (n - sumZ l x < nAt l x → (false = true ↔ fitP n l)) ∧ ((n - sumZ l x < nAt l x → False) → fits64 (n - sumZ l x - nAt l x) ∧ fits64 ((x : Int) + 1) ∧ ∃ (y :
Nat), (y ≤ l.len ∧ (∀ (i : Nat), i < y → 1 ≤ nAt l i) ∧ 0 ≤ sumZ l y ∧ sumZ l y ≤ n) ∧ l.len - y < l.len - x ∧ ((x : Int) + 1 = (y : Int) ∧ n - sumZ l x - nAt l x = n - sumZ l y ∧ True) ∧ True)) ∧ (nAt l x < 1 → (false =
true ↔ fitP n l))) ∧ (((x : Int) < (l.len : Int) → False) → (n - sumZ l x = 0 ↔ fitP n l))) := by intros; kernel_rfl
theorem sum_mono {l : D} {m : Nat} (h : ∀ i, i < m → 1 ≤ nAt l i) : ∀ x, x ≤ m → (x : Int) ≤ sumZ l x
 | 0, _ => Int.le_refl _
 | x + 1, hx => by
  have := sum_mono h x (by omega)
  have := h x (by omega)
  show ((x + 1 : Nat) : Int) ≤ sumZ l x + nAt l x
  omega
theorem sum_rest {l : D} {m : Nat} (h : ∀ i, i < m → 1 ≤ nAt l i) (x : Nat) : ∀ k, x + k ≤ m → sumZ l x + k ≤ sumZ l (x + k)
 | 0, _ => Int.le_of_eq (by simp)
 | k + 1, hk => by
  have := sum_rest h x k (by omega)
  have := h (x + k) (by omega)
  show sumZ l x + ((k + 1 : Nat) : Int) ≤ sumZ l (x + k) + nAt l (x + k)
  omega
theorem fit_le {n : Int} {l : D} (h : fitP n l) {x : Nat} (hx : x < l.len) : sumZ l x + nAt l x ≤ n := by
 have h1 := sum_rest h.out.1 (x + 1) (l.len - (x + 1)) (by omega)
 rw [show x + 1 + (l.len - (x + 1)) = l.len by omega, h.out.2] at h1
 have h2 : sumZ l (x + 1) = sumZ l x + nAt l x := rfl
 omega
theorem fit_sum {n : Int} {l : D} (h : fitP n l) {x : Nat} (hx : x ≤ l.len) : (x : Int) ≤ sumZ l x ∧ sumZ l x ≤ n := by
 have h1 := sum_rest h.out.1 x (l.len - x) (by omega)
 rw [show x + (l.len - x) = l.len by omega, h.out.2] at h1
 exact ⟨sum_mono h.out.1 x hx, by omega⟩
theorem s13 (n : Int) (l : D) (h1 : 1 ≤ n) (h2 : n ≤ 64) (hl : l.len ≤ 16777216) : symFun (ctx cc0 ebAnn) 3 24 [.int .i64 n, .dat 22 l] (.prop (fitP n l)) := by
 rw [vc13]
 have no : ∀ {p : Prop}, ¬ p → (false = true ↔ p) := fun h => iff_of_false (fun h => (by cases h)) h
 refine And.intro ⟨0, ⟨Nat.zero_le _, fun i hi => absurd hi (Nat.not_lt_zero _), Int.le_refl _, by show (0 : Int) ≤ n; omega⟩, ⟨rfl, by show n = n - 0; omega, trivial⟩, trivial⟩ (fun x hx => ⟨by unfold LIM; omega, fun hlt => ⟨by omega, by omega, fun hs => ⟨fun hb => no fun hf => ?_, fun hb => ?_⟩, fun hs => no fun hf => ?_⟩, fun hge => ?_⟩)
 ·have := fit_le hf (x := x) (by omega); omega
 ·have hs := not_of hs; have hb := not_of hb
  have e : sumZ l (x + 1) = sumZ l x + nAt l x := rfl
  refine ⟨⟨by omega, by omega⟩, ⟨by omega, by omega⟩, x + 1, ⟨by omega, fun i hi => ?_, by omega, by omega⟩, by omega, ⟨by omega, by omega, trivial⟩, trivial⟩
  rcases Nat.lt_or_ge i x with h' | h'
  ·exact hx.2.1 i h'
  ·rw [show i = x by omega]; omega
 ·have := hf.out.1 x (by omega); omega
 ·have hge := not_of hge
  have e : x = l.len := by omega
  subst e
  exact ⟨fun h => ⟨hx.2.1, by omega⟩, fun h => by have := h.out.2; omega⟩
section
variable {n e : Int} {l : D}
end
theorem listD_len (l : List D) : (listD l).len = l.length := by cases l <;> rfl
theorem listD_list (l : List D) : (listD l).asList = l := by cases l <;> rfl
theorem nthD_set (l : List D) (i j : Nat) (a : D) (hi : i < l.length) : nthD (l.set i a) j = if i = j then a else nthD l j := by
 unfold nthD
 rw [List.getElem?_set]
 split
 ·rename_i h; subst h; first | rfl | (rw [if_pos hi]; rfl)
 ·rfl
theorem nthD_mem {l : List D} {i : Nat} (hi : i < l.length) : nthD l i ∈ l := by
 unfold nthD
 rw [List.getElem?_eq_getElem hi]
 exact List.getElem_mem hi
theorem mem_nthD {l : List D} {a : D} (h : a ∈ l) : ∃ i, i < l.length ∧ nthD l i = a := by
 obtain ⟨i, hi, e⟩ := List.getElem_of_mem h
 exact ⟨i, hi, by unfold nthD; rw [List.getElem?_eq_getElem hi, e]; rfl⟩
theorem take_succ_nth {l : List D} {i : Nat} (hi : i < l.length) : l.take (i + 1) = l.take i ++ [nthD l i] := by
 rw [List.take_succ_eq_append_getElem hi]
 unfold nthD
 rw [List.getElem?_eq_getElem hi]; rfl
theorem cntF_cons (a : D) (l : List D) (x : Int) : cntF (a :: l) x = cntF l x + (if a.asInt = x then 1 else 0) := rfl
theorem cntF_app (a b : List D) (x : Int) : cntF (a ++ b) x = cntF a x + cntF b x := by
 induction a with
 | nil => show cntF b x = 0 + cntF b x; omega
 | cons c a ih => rw [List.cons_append, cntF_cons, cntF_cons, ih]; omega
theorem cntF_rng (l : List D) (x : Int) : 0 ≤ cntF l x ∧ cntF l x ≤ l.length := by
 induction l with
 | nil => exact ⟨Int.le_refl _, Int.le_refl _⟩
 | cons a l ih => rw [cntF_cons, List.length_cons]; split <;> omega
theorem cntF_succ {l : List D} {i : Nat} (hi : i < l.length) (x : Int) : cntF (l.take (i + 1)) x = cntF (l.take i) x + (if (nthD l i).asInt = x then 1 else 0) := by
 rw [take_succ_nth hi, cntF_app]
 show _ = _
 rw [cntF_cons]
 show cntF (l.take i) x + (0 + _) = _
 omega
def sumC (l : List D) : Nat → Int
 | 0 => 0
 | n + 1 => sumC l n + cntF l n
theorem sumC_nil : ∀ n, sumC [] n = 0
 | 0 => rfl
 | n + 1 => by show sumC [] n + 0 = 0; rw [sumC_nil n]; rfl
theorem sumC_cons (a : D) (l : List D) : ∀ n : Nat, sumC (a :: l) n = sumC l n + (if 0 ≤ a.asInt ∧ a.asInt < n then 1 else 0)
 | 0 => by
  show (0 : Int) = 0 + _
  rw [if_neg (by omega)]; rfl
 | n + 1 => by
  show sumC (a :: l) n + cntF (a :: l) n = sumC l n + cntF l n + _
  rw [sumC_cons a l n, cntF_cons]
  by_cases h1 : 0 ≤ a.asInt ∧ a.asInt < n
  ·rw [if_pos h1, if_neg (by omega), if_pos (by omega)]; omega
  ·by_cases h2 : a.asInt = n
   ·rw [if_neg h1, if_pos h2, if_pos (by omega)]; omega
   ·rw [if_neg h1, if_neg h2, if_neg (by omega)]; omega
theorem sumC_all {n : Nat} : ∀ {l : List D}, (∀ a, a ∈ l → 0 ≤ a.asInt ∧ a.asInt < n) → sumC l n = l.length
 | [], _ => sumC_nil n
 | a :: l, h => by
  rw [sumC_cons, sumC_all fun b hb => h b (List.mem_cons.2 (.inr hb)), if_pos (h a (List.mem_cons.2 (.inl rfl))), List.length_cons]; omega
theorem sumC_le {l : List D} : ∀ n : Nat, (∀ v : Nat, v < n → cntF l v ≤ 1) → sumC l n ≤ n
 | 0, _ => Int.le_refl _
 | n + 1, h => by
  have := sumC_le n fun v hv => h v (by omega)
  have := h n (by omega)
  show sumC l n + cntF l n ≤ _
  omega
theorem sumC_lt {l : List D} {v : Nat} (hv0 : cntF l v = 0) : ∀ n : Nat, v < n → (∀ v : Nat, v < n → cntF l v ≤ 1) → sumC l n < n
 | 0, hv, _ => by omega
 | n + 1, hv, h => by
  show sumC l n + cntF l n < _
  rcases Nat.lt_or_ge v n with h1 | h1
  ·have := sumC_lt hv0 n h1 fun v hv => h v (by omega)
   have := h n (by omega)
   omega
  ·have e : v = n := by omega
   subst e
   have := sumC_le v fun w hw => h w (by omega)
   omega
theorem sumC_ge {l : List D} : ∀ n : Nat, (∀ v : Nat, v < n → cntF l v ≠ 0) → (n : Int) ≤ sumC l n
 | 0, _ => Int.le_refl _
 | n + 1, h => by
  have := sumC_ge n fun v hv => h v (by omega)
  have := h n (by omega)
  have := (cntF_rng l n).1
  show _ ≤ sumC l n + cntF l n
  omega
section
variable {n : Int} {l : List D}
theorem one_of (h : ∀ v : Nat, (v : Int) < n → cntF l v ≤ 1) : ¬ ∃ x : Int, (0 ≤ x ∧ x < n) ∧ 1 < cntF l x := fun ⟨x, hx, hc⟩ => by
 have := h x.toNat (by omega)
 rw [show ((x.toNat : Nat) : Int) = x by omega] at this
 omega
theorem errG_2 (h : ¬ outP n l) (h1 : ∀ v : Nat, (v : Int) < n → cntF l v ≤ 1) {x : Int} (hx : 0 ≤ x ∧ x < n) (hc : cntF l x = 0) : errG n l = 2 := by unfold errG; rw [if_neg h, if_neg (one_of h1), if_pos ⟨x, hx, hc⟩]
theorem errG_0 (h : ¬ outP n l) (h1 : ∀ v : Nat, (v : Int) < n → cntF l v ≤ 1) (h2 : ∀ v : Nat, (v : Int) < n → cntF l v ≠ 0) : errG n l = 0 := by
 unfold errG
 rw [if_neg h, if_neg (one_of h1), if_neg]
 intro ⟨x, hx, hc⟩
 have := h2 x.toNat (by omega)
 rw [show ((x.toNat : Nat) : Int) = x by omega] at this
 exact this hc
theorem in_of (h : ¬ outP n l) : ∀ a, a ∈ l → 0 ≤ a.asInt ∧ a.asInt < n := fun a ha => Classical.byContradiction fun hn => h ⟨a, ha, hn⟩
theorem errG_len (hn : 0 ≤ n) (h : ¬ outP n l) (h1 : ∀ v : Nat, (v : Int) < n → cntF l v ≤ 1) : errG n l = if (l.length : Int) < n then 2 else 0 := by
 have hs := sumC_all (n := n.toNat) (l := l) fun a ha => by have := in_of h a ha; omega
 by_cases hz : ∃ v : Nat, (v : Int) < n ∧ cntF l v = 0
 ·obtain ⟨v, hv, hc⟩ := hz
  have := sumC_lt hc n.toNat (by omega) fun w hw => h1 w (by omega)
  rw [if_pos (by omega)]
  exact errG_2 h h1 (x := v) ⟨by omega, hv⟩ hc
 ·have h2 : ∀ v : Nat, (v : Int) < n → cntF l v ≠ 0 := fun v hv hc => hz ⟨v, hv, hc⟩
  have := sumC_ge n.toNat fun w hw => h2 w (by omega)
  rw [if_neg (by omega)]
  exact errG_0 h h1 h2
end
theorem flat_len (ev : D) : ∀ n, (flatL ev n).length = totE ev n
 | 0 => rfl
 | n + 1 => by show (flatL ev n ++ _).length = totE ev n + _; rw [List.length_append, flat_len ev n]; rfl
theorem tot_le {ev : D} {k : Nat} (h : ∀ i, i < k → (el ev i).len ≤ 1000) : ∀ n, n ≤ k → totE ev n ≤ 1000 * n
 | 0, _ => Nat.le_refl _
 | n + 1, hn => by
  have := tot_le h n (by omega)
  have := h n (by omega)
  show totE ev n + _ ≤ _
  omega
theorem no_of {p : Prop} (h : ¬ p) : (false = true ↔ p) := iff_of_false (fun h => (by cases h)) h
theorem errE_g {n : Int} {sz ev : D} (h : ¬ emptyP ev) (h1 : 0 < sz.len → sameSz ev sz) : errE n sz ev = errG n (flatL ev ev.len) := by unfold errE; rw [if_neg fun h' => h'.elim h fun h' => h'.2 (h1 h'.1)]
end Go.Ev

end

section
open Go.Proofs
namespace Go.Ev
set_option maxRecDepth 100000
set_option maxHeartbeats 4000000
theorem limS {n : Nat} (h : n ≤ 16777216) : n < LIM := by unfold LIM; omega
theorem scan_all {n : Int} {s : D} : ∀ f i, scanK n .nil s f i = (0, 0) → ∀ k, i ≤ k → k < i + f → errE n .nil (el s k) = 0
 | 0, i, _, k, h1, h2 => by omega
 | f + 1, i, h, k, h1, h2 => by
  unfold scanK at h
  by_cases he : errE n .nil (el s i) ≠ 0
  ·rw [if_pos he] at h
   exact absurd (congrArg Prod.snd h) he
  ·rw [if_neg he] at h
   rcases Nat.lt_or_ge i k with h3 | h3
   ·exact scan_all f (i + 1) h k h3 (by omega)
   ·have : k = i := by omega
    subst this; exact Classical.not_not.1 he
theorem good_err {n : Int} {s : D} (h : goodS n s) {i : Nat} (hi : i < s.len) : errE n .nil (el s i) = 0 := by
 have hc := h.chk
 unfold chk at hc
 split at hc
 ·exact absurd (congrArg Prod.snd hc) (by decide)
 ·split at hc
  ·exact absurd (congrArg Prod.snd hc) (by decide)
  ·exact scan_all _ _ hc i (Nat.zero_le _) (by omega)
theorem flat_mem (ev : D) {j : Nat} {a : D} (ha : a ∈ (el ev j).asList) : ∀ m, j < m → a ∈ flatL ev m
 | 0, h => by omega
 | m + 1, h => by
  show a ∈ flatL ev m ++ (el ev m).asList
  rcases Nat.lt_or_ge j m with h1 | h1
  ·exact List.mem_append_left _ (flat_mem ev ha m h1)
  ·have : j = m := by omega
   subst this; exact List.mem_append_right _ ha
structure tabP (n : Int) (tb : D) : Prop where
 pos : 0 < tb.len
 rng : ∀ k, k < tb.len → 0 ≤ nAt tb k ∧ nAt tb k < n
theorem good_tab {n : Int} {s : D} (h : goodS n s) {i j : Nat} (hi : i < s.len) (hj : j < (el s i).len) : tabP n (el (el s i) j) := by
 have he := good_err h hi
 unfold errE at he
 split at he
 ·cases he
 ·rename_i hne
  have h1 : ¬ emptyP (el s i) := fun q => hne (.inl q)
  refine ⟨Nat.pos_of_ne_zero fun h0 => h1 ⟨j, hj, h0⟩, fun k hk => ?_⟩
  unfold errG at he
  split at he
  ·cases he
  ·rename_i ho
   refine Classical.byContradiction fun hc => ho ⟨nthD (el (el s i) j).asList k, flat_mem _ (nthD_mem hk) _ hj, hc⟩
def rowF (m : Nat) (f : Nat → Nat → Int) (a : Nat) : List D := (List.range m).map fun b => .int (f a b)
theorem rowF_len (m : Nat) (f : Nat → Nat → Int) (a : Nat) : (rowF m f a).length = m := by unfold rowF; rw [List.length_map, List.length_range]
theorem rowF_at {m : Nat} (f : Nat → Nat → Int) (a : Nat) {b : Nat} (h : b < m) : nthD (rowF m f a) b = .int (f a b) := by
 unfold rowF nthD
 rw [List.getElem?_map, List.getElem?_range h]; rfl
theorem sqD_len (m : Nat) (f : Nat → Nat → Int) : (sqD m f).length = m := by unfold sqD; rw [List.length_map, List.length_range]
theorem sqD_at {m : Nat} (f : Nat → Nat → Int) {a : Nat} (h : a < m) : nthD (sqD m f) a = .list (rowF m f a) := by
 unfold sqD nthD
 rw [List.getElem?_map, List.getElem?_range h]; rfl
structure sqF (m : Nat) (K : Int) (f : Nat → Nat → Int) (q : List D) : Prop where
 eq : q = sqD m f
 bnd : ∀ a b, a < m → b < m → 0 ≤ f a b ∧ f a b ≤ K
theorem sqF.cong {m : Nat} {K K' : Int} {f g : Nat → Nat → Int} {q : List D} (h : sqF m K f q) (hK : K ≤ K') (he : ∀ a b, a < m → b < m → f a b = g a b) : sqF m K' g q := by
 refine ⟨h.eq.trans ?_, fun a b ha hb => by have := h.bnd a b ha hb; rw [← he a b ha hb]; omega⟩
 unfold sqD
 apply List.map_congr_left
 intro a ha
 congr 1
 apply List.map_congr_left
 intro b hb
 rw [he a b (List.mem_range.1 ha) (List.mem_range.1 hb)]
theorem set_map {α : Type} (m X : Nat) (g : Nat → α) (v : α) : ((List.range m).map g).set X v = (List.range m).map fun a => if X = a then v else g a := by
 apply List.ext_getElem (by simp)
 intro i h1 h2
 rw [List.getElem_set]
 simp only [List.getElem_map, List.getElem_range]
theorem incZ_sq {m : Nat} {K : Int} {f : Nat → Nat → Int} {q : List D} {x y : Int} (h : sqF m K f q) (hx : 0 ≤ x ∧ x < m) (hy : 0 ≤ y ∧ y < m) : sqF m (K + 1) (fun a b => f a b + if x = a ∧ y = b then 1 else 0) (incZ q x y) := by
 refine ⟨?_, fun a b ha hb => by have := h.bnd a b ha hb; split <;> omega⟩
 rw [h.eq]
 unfold incZ
 rw [sqD_at f (a := x.toNat) (by omega)]
 have e1 : nAt (.list (rowF m f x.toNat)) y.toNat = f x.toNat y.toNat := by
  show (nthD (rowF m f x.toNat) y.toNat).asInt = _
  rw [rowF_at f _ (by omega)]; rfl
 rw [e1]
 show (sqD m f).set x.toNat (.list ((rowF m f x.toNat).set y.toNat (.int (f x.toNat y.toNat + 1)))) = _
 unfold sqD rowF
 rw [set_map, set_map]
 apply List.map_congr_left
 intro a _
 by_cases e : x.toNat = a
 ·subst e
  rw [if_pos rfl]
  congr 1
  apply List.map_congr_left
  intro b _
  show _ = D.int (f x.toNat b + if x = (x.toNat : Int) ∧ y = (b : Int) then (1 : Int) else 0)
  by_cases e2 : y.toNat = b
  ·subst e2; rw [if_pos rfl, if_pos ⟨by omega, by omega⟩]
  ·rw [if_neg e2, if_neg (by omega), Int.add_zero]
 ·rw [if_neg e]
  congr 1
  apply List.map_congr_left
  intro b _
  show _ = D.int (f a b + if x = (a : Int) ∧ y = (b : Int) then (1 : Int) else 0)
  rw [if_neg (by omega), Int.add_zero]
theorem wr_ok {m : Nat} {K : Int} {f : Nat → Nat → Int} {q : List D} {x y : Int} {k : Prop} (h : sqF m K f q) (hK : K < 9000000000000000000) (hx : 0 ≤ x ∧ x < m) (hy : 0 ≤ y ∧ y < m) (hk : k) : wrC m q x y k := by
 have hq := h.eq
 subst hq
 have e0 := sqD_at f (a := x.toNat) (m := m) (by omega)
 have hl := sqD_len m f
 have e1 : nAt (.list (rowF m f x.toNat)) y.toNat = f x.toNat y.toNat := by
  show (nthD (rowF m f x.toNat) y.toNat).asInt = _
  rw [rowF_at f _ (by omega)]; rfl
 have hb := h.bnd x.toNat y.toNat (by omega) (by omega)
 have hrl : (D.list (rowF m f x.toNat)).len = m := rowF_len m f x.toNat
 unfold wrC
 rw [e0, e1, hl, hrl]
 refine ⟨hx.1, hx.2, by omega, (by intro h; cases h), fun r hr => ?_, fun _ h => by cases h⟩
 have hrm : r.length = m := by cases hr; exact rowF_len m f _
 rw [hrm]
 exact ⟨hy.1, hy.2, by omega, hy.2, by omega, by omega, ⟨by omega, by omega⟩, hy.1, hy.2, by omega, hy.2, by omega, by omega, hk⟩
theorem updP_sq {m : Nat} {K : Int} {f : Nat → Nat → Int} {q : List D} {x y : Int} (h : sqF m K f q) (hx : 0 ≤ x ∧ x < m) (hy : 0 ≤ y ∧ y < m) : sqF m (K + 2) (fun a b => f a b + indN x y a b) (updP q x y) :=
 (incZ_sq (incZ_sq h hx hy) hy hx).cong (by omega) fun a b _ _ => by unfold indN; rw [Int.add_assoc]
theorem good_tabs {n : Int} {s : D} (h : goodS n s) {i j : Nat} (hi : i < s.len) (hj : j < (el s i).len) : (el (el s i) j).len ≤ 1000 ∧ ∀ k, k < (el (el s i) j).len → 0 ≤ nAt (el (el s i) j) k ∧ nAt (el (el s i) j) k < (n.toNat : Int) := by
 have ht := good_tab h hi hj
 have hn := h.n1
 refine ⟨(h.big.out.2 i hi).out.2 j hj, fun k hk => ?_⟩
 have := ht.rng k hk
 omega
theorem zr_sq (n : Nat) : sqF n 0 (fun _ _ => 0) (zrL n n) := by
 refine ⟨?_, fun _ _ _ _ => ⟨Int.le_refl _, Int.le_refl _⟩⟩
 unfold zrL sqD
 rw [Nat.sub_self, List.replicate_zero, List.append_nil]
 apply List.map_congr_left
 intro a _
 congr 1
 apply List.ext_getElem (by simp)
 intro i h1 h2
 simp
theorem zr_len (n x : Nat) (h : x ≤ n) : (zrL n x).length = n := by unfold zrL; simp; omega
theorem zr_next {n x : Nat} (h : x < n) : (zrL n x).set x (.list (List.replicate n (.int 0))) = zrL n (x + 1) := by
 unfold zrL
 have e : n - x = n - (x + 1) + 1 := by omega
 rw [List.set_append_right _ _ (by simp), List.length_map, List.length_range, Nat.sub_self, e, List.replicate_succ, List.set_cons_zero, List.range_succ, List.map_append, List.append_assoc]
 rfl
theorem zr_zero (n : Nat) : List.replicate n D.nil = zrL n 0 := rfl
theorem allNil_rep (n : Nat) : allNil (List.replicate n D.nil) := ⟨fun d h => List.eq_of_mem_replicate h⟩
theorem sq_noHole (m : Nat) (f : Nat → Nat → Int) : noHole (sqD m f) := ⟨fun k h => by
 obtain ⟨i, _, e⟩ := List.mem_map.1 h
 cases e⟩
theorem sub_at {t : D} {i j : Nat} (h : j < i) : nAt (t.sub 0 i) j = nAt t j := by
 unfold nAt nthD
 cases t <;> simp [D.sub, D.asList]
 rw [List.getElem?_take, if_pos h]
theorem sub_len {t : D} {i : Nat} (h : i ≤ t.len) : (t.sub 0 i).len = i := by
 cases t <;> simp [D.sub, D.len, D.asList] at h ⊢ <;> omega
theorem pqI_sq {m : Nat} {K : Int} {f : Nat → Nat → Int} {q : List D} {t : D} {i : Nat} (h : sqF m K f q) (ht : ∀ k, k < t.len → 0 ≤ nAt t k ∧ nAt t k < m) (hi : i < t.len) : ∀ j, j ≤ i → sqF m (K + 2 * j) (fun a b => f a b + mtI t i j a b) (pqI q t i j)
 | 0, _ => h.cong (by omega) fun a b _ _ => by simp [mtI]
 | j + 1, hj => (updP_sq (pqI_sq h ht hi j (by omega)) (ht j (by omega)) (ht i hi)).cong (by omega) fun a b _ _ => by
   show _ = f a b + (mtI t i j a b + indN (nAt t j) (nAt t i) a b)
   rw [Int.add_assoc]
theorem pqN_sq {m : Nat} {K : Int} {f : Nat → Nat → Int} {q : List D} {t : D} {L : Nat} (h : sqF m K f q) (ht : ∀ k, k < t.len → 0 ≤ nAt t k ∧ nAt t k < m) (hl : t.len ≤ L) : ∀ i, i ≤ t.len → sqF m (K + 2 * L * i) (fun a b => f a b + mtN t i a b) (pqN q t i)
 | 0, _ => h.cong (by omega) fun a b _ _ => by simp [mtN]
 | i + 1, hi => (pqI_sq (pqN_sq h ht hl i (by omega)) ht (show i < t.len by omega) i (Nat.le_refl _)).cong (by
   have : (2 * (L : Int) * ((i + 1 : Nat) : Int)) = 2 * (L : Int) * (i : Int) + 2 * (L : Int) := by rw [Int.natCast_add, Int.mul_add]; simp
   omega) fun a b _ _ => by
   show _ = f a b + (mtN t i a b + mtI t i i a b)
   rw [Int.add_assoc]
theorem pqE_sq {m : Nat} {K : Int} {f : Nat → Nat → Int} {q : List D} {ev : D} {L : Nat} (h : sqF m K f q) (ht : ∀ j, j < ev.len → (el ev j).len ≤ L ∧ ∀ k, k < (el ev j).len → 0 ≤ nAt (el ev j) k ∧ nAt (el ev j) k < m) : ∀ j, j ≤ ev.len → sqF m (K + 2 * L * L * j) (fun a b => f a b + mtE ev j a b) (pqE q ev j)
 | 0, _ => h.cong (by simp) fun a b _ _ => by simp [mtE]
 | j + 1, hj => (pqN_sq (pqE_sq h ht j (by omega)) (ht j (by omega)).2 (ht j (by omega)).1 (el ev j).len (Nat.le_refl _)).cong (by
   have h1 : (2 * (L : Int) * (L : Int) * ((j + 1 : Nat) : Int)) = 2 * (L : Int) * (L : Int) * (j : Int) + 2 * (L : Int) * (L : Int) := by rw [Int.natCast_add, Int.mul_add]; simp
   have h2 : 2 * (L : Int) * ((el ev j).len : Int) ≤ 2 * (L : Int) * (L : Int) := Int.mul_le_mul_of_nonneg_left (by have := (ht j (by omega)).1; omega) (by omega)
   omega) fun a b _ _ => by
   show _ = f a b + (mtE ev j a b + mtN (el ev j) (el ev j).len a b)
   rw [Int.add_assoc]
theorem pqS_sq {n : Int} {s : D} (h : goodS n s) {q : List D} (hq : sqF n.toNat 0 (fun _ _ => 0) q) : ∀ i, i ≤ s.len → sqF n.toNat (200000000 * i) (mtS s i) (pqS q s i)
 | 0, _ => hq.cong (by omega) fun _ _ _ _ => rfl
 | i + 1, hi => by
  have hb := (h.big.out.2 i (by omega)).out.1
  exact (pqE_sq (L := 1000) (pqS_sq h hq i (by omega)) (fun j hj => good_tabs h (by omega) hj) (el s i).len (Nat.le_refl _)).cong (by omega) fun _ _ _ _ => rfl
end Go.Ev

end

section
open Go.Proofs
namespace Go.Ev
structure okS (n : Int) (l : D) : Prop where
 n1 : 1 ≤ n
 n2 : n ≤ 64
 fit : fitP n l
def triZ (k : Int) : Int := (k * (k - 1)).tdiv 2
def triS (l : D) : Nat → Int
 | 0 => 0
 | n + 1 => triS l n + triZ (nAt l n)
noncomputable def ctxs (con : FuncId → Option Con) (ann : FuncId → Nat → Option Ann) : Ctx := { ctx con ann with sm := fun t => Nat.beq t 70 || Nat.beq t 71 }
instance (con : FuncId → Option Con) (ann : FuncId → Nat → Option Ann) : Nonempty (NoF (ctxs con ann)) := ⟨⟨fun _ _ h => by cases h⟩⟩
end Go.Ev

end

section
open Go.Proofs
namespace Go.Ev
set_option maxRecDepth 100000
set_option maxHeartbeats 4000000
section
variable {n e : Int} {l : D}
theorem ok_siz {n : Int} {l : D} (h : okS n l) : l.len ≤ 64 ∧ ∀ i, i < l.len → 1 ≤ nAt l i ∧ nAt l i ≤ n := by
 have h1 := fit_sum h.fit (Nat.le_refl _)
 have h2 := h.n2
 refine ⟨by omega, fun i hi => ⟨h.fit.out.1 i hi, ?_⟩⟩
 have h3 := fit_le h.fit hi
 have h4 := fit_sum h.fit (Nat.le_of_lt hi)
 omega
end
theorem errG_all {n : Int} {l : List D} (h : errG n l = 0) : ¬ outP n l ∧ (∀ v : Nat, (v : Int) < n → cntF l v ≤ 1) ∧ ∀ v : Nat, (v : Int) < n → cntF l v ≠ 0 := by
 unfold errG at h
 split at h
 ·cases h
 ·rename_i ho
  split at h
  ·cases h
  ·rename_i h1
   split at h
   ·cases h
   ·rename_i h2
    refine ⟨ho, fun v hv => ?_, fun v hv e => h2 ⟨v, ⟨by omega, hv⟩, e⟩⟩
    by_cases hc : 1 < cntF l v
    ·exact absurd ⟨(v : Int), ⟨by omega, hv⟩, hc⟩ h1
    ·omega
theorem errE_all {n : Int} {ev : D} (h : errE n .nil ev = 0) : (∀ j, j < ev.len → 1 ≤ (el ev j).len) ∧ errG n (flatL ev ev.len) = 0 := by
 unfold errE at h
 split at h
 ·cases h
 ·rename_i he
  refine ⟨fun j hj => ?_, h⟩
  by_cases h0 : (el ev j).len = 0
  ·exact absurd (.inl ⟨j, hj, h0⟩) he
  ·omega
end Go.Ev

end

section
open Go.Proofs
namespace Go.Ev
structure hasT (t : D) (a : Int) : Prop where
 out : ∃ k, k < t.len ∧ nAt t k = a
structure bothT (t : D) (a b : Int) : Prop where
 l : hasT t a
 r : hasT t b
structure bothE (ev : D) (a b : Int) : Prop where
 out : ∃ j, j < ev.len ∧ bothT (el ev j) a b
open Classical in
noncomputable def togL (s : D) (a b : Int) : Nat → List D
 | 0 => []
 | x + 1 => if bothE (el s x) a b then togL s a b x ++ [.int (x : Nat)] else togL s a b x
end Go.Ev

end

section
open Go.Proofs
namespace Go.Ev
set_option maxRecDepth 100000
set_option maxHeartbeats 4000000
def sR (f : Nat → Nat → Int) (x : Nat) : Nat → Int
 | 0 => 0
 | y + 1 => sR f x y + f x y
def s2 (f : Nat → Nat → Int) (m : Nat) : Nat → Int
 | 0 => 0
 | x + 1 => s2 f m x + sR f x m
def oneZ (x y : Int) : Int := if x = y then 1 else 0
theorem oneZ_ne {x a b : Int} (h : a ≠ b) : oneZ x a * oneZ x b = 0 := by
 unfold oneZ
 by_cases e : x = a
 ·rw [if_neg (show ¬ x = b by omega), Int.mul_zero]
 ·rw [if_neg e, Int.zero_mul]
theorem indN_one (x y : Int) (a b : Nat) : indN x y a b = oneZ y a * oneZ x b + oneZ y b * oneZ x a := by
 unfold indN oneZ
 split <;> split <;> split <;> split <;> split <;> split <;> omega
theorem cnt_step {l : List D} {i : Nat} (hi : i < l.length) (x : Int) : cntF (l.take (i + 1)) x = cntF (l.take i) x + oneZ (nthD l i).asInt x := cntF_succ hi x
theorem mtI_cnt {t : D} {i : Nat} (a b : Nat) : ∀ j, j ≤ t.len → mtI t i j a b = oneZ (nAt t i) a * cntF (t.asList.take j) b + oneZ (nAt t i) b * cntF (t.asList.take j) a
 | 0, _ => by show (0 : Int) = _ * 0 + _ * 0; omega
 | j + 1, hj => by
  show mtI t i j a b + indN (nAt t j) (nAt t i) a b = _
  rw [mtI_cnt a b j (by omega), indN_one, cnt_step (show j < t.asList.length from hj), cnt_step (show j < t.asList.length from hj)]
  show _ = oneZ (nAt t i) a * (_ + oneZ (nAt t j) b) + oneZ (nAt t i) b * (_ + oneZ (nAt t j) a)
  rw [Int.mul_add, Int.mul_add]; omega
theorem mtN_cnt {t : D} {a b : Nat} (hab : a ≠ b) : ∀ i, i ≤ t.len → mtN t i a b = cntF (t.asList.take i) a * cntF (t.asList.take i) b
 | 0, _ => rfl
 | i + 1, hi => by
  show mtN t i a b + mtI t i i a b = _
  have h0 := oneZ_ne (x := nAt t i) (show (a : Int) ≠ (b : Int) by omega)
  rw [mtN_cnt hab i (by omega), mtI_cnt a b i (by omega), cnt_step (show i < t.asList.length from hi), cnt_step (show i < t.asList.length from hi)]
  show _ = (_ + oneZ (nAt t i) a) * (_ + oneZ (nAt t i) b)
  generalize cntF (t.asList.take i) a = p
  generalize cntF (t.asList.take i) b = q
  generalize oneZ (nAt t i) a = u at h0 ⊢
  generalize oneZ (nAt t i) b = v at h0 ⊢
  rw [Int.add_mul, Int.mul_add, Int.mul_add, h0, Int.mul_comm p v]; omega
theorem cnt_pos {x : Int} : ∀ {l : List D}, 0 < cntF l x ↔ ∃ k, k < l.length ∧ (nthD l k).asInt = x
 | [] => ⟨fun h => absurd h (by show ¬ (0 : Int) < 0; omega), fun ⟨k, hk, _⟩ => absurd hk (Nat.not_lt_zero _)⟩
 | d :: l => by
  rw [cntF_cons]
  have ih := cnt_pos (x := x) (l := l)
  have hr := cntF_rng l x
  constructor
  ·intro h
   by_cases e : d.asInt = x
   ·exact ⟨0, Nat.zero_lt_succ _, e⟩
   ·rw [if_neg e] at h
    obtain ⟨k, hk, he⟩ := ih.1 (by omega)
    exact ⟨k + 1, Nat.succ_lt_succ hk, he⟩
  ·rintro ⟨k, hk, he⟩
   cases k with
   | zero => rw [if_pos (show d.asInt = x from he)]; omega
   | succ k =>
    have := ih.2 ⟨k, Nat.lt_of_succ_lt_succ hk, he⟩
    split <;> omega
theorem hasT_cnt {t : D} {a : Int} : hasT t a ↔ 0 < cntF t.asList a := ⟨fun ⟨h⟩ => cnt_pos.2 h, fun h => ⟨cnt_pos.1 h⟩⟩
theorem flat_cnt (ev : D) (x : Int) {j : Nat} : ∀ m, j < m → cntF (el ev j).asList x ≤ cntF (flatL ev m) x
 | 0, h => absurd h (Nat.not_lt_zero _)
 | m + 1, h => by
  show _ ≤ cntF (flatL ev m ++ (el ev m).asList) x
  rw [cntF_app]
  have h1 := cntF_rng (flatL ev m) x
  have h2 := cntF_rng (el ev m).asList x
  by_cases e : j = m
  ·subst e; omega
  ·have := flat_cnt ev x (j := j) m (by omega); omega
theorem mtE_one {ev : D} {a b : Nat} (hab : a ≠ b) : ∀ m, cntF (flatL ev m) a ≤ 1 → cntF (flatL ev m) b ≤ 1 → (mtE ev m a b = 1 ∧ ∃ j, j < m ∧ bothT (el ev j) a b) ∨ (mtE ev m a b = 0 ∧ ∀ j, j < m → ¬ bothT (el ev j) a b)
 | 0, _, _ => .inr ⟨rfl, fun j hj => absurd hj (Nat.not_lt_zero _)⟩
 | m + 1, ha, hb => by
  have ha' : cntF (flatL ev m ++ (el ev m).asList) a ≤ 1 := ha
  have hb' : cntF (flatL ev m ++ (el ev m).asList) b ≤ 1 := hb
  rw [cntF_app] at ha' hb'
  have r1 := cntF_rng (flatL ev m) a
  have r2 := cntF_rng (flatL ev m) b
  have r3 := cntF_rng (el ev m).asList a
  have r4 := cntF_rng (el ev m).asList b
  have e1 : mtE ev (m + 1) a b = mtE ev m a b + cntF (el ev m).asList a * cntF (el ev m).asList b := by
   show mtE ev m a b + mtN (el ev m) (el ev m).len a b = _
   rw [mtN_cnt hab _ (Nat.le_refl _)]
   show _ + cntF (List.take (el ev m).asList.length _) _ * cntF (List.take (el ev m).asList.length _) _ = _
   rw [List.take_length]
  by_cases hA : 0 < cntF (el ev m).asList a
  ·by_cases hB : 0 < cntF (el ev m).asList b
   ·left
    refine ⟨?_, m, by omega, hasT_cnt.2 hA, hasT_cnt.2 hB⟩
    rcases mtE_one (ev := ev) hab m (by omega) (by omega) with ⟨_, j, hj, hl, _⟩ | ⟨h0, _⟩
    ·have := flat_cnt ev a m hj
     have := hasT_cnt.1 hl
     omega
    ·rw [e1, h0, show cntF (el ev m).asList a = 1 by omega, show cntF (el ev m).asList b = 1 by omega]; rfl
   ·have hz : cntF (el ev m).asList b = 0 := by omega
    rw [e1, hz, Int.mul_zero, Int.add_zero]
    rcases mtE_one (ev := ev) hab m (by omega) (by omega) with ⟨h1, j, hj, hq⟩ | ⟨h0, hq⟩
    ·exact .inl ⟨h1, j, by omega, hq⟩
    ·refine .inr ⟨h0, fun j hj hq' => ?_⟩
     by_cases e : j = m
     ·subst e; exact hB (hasT_cnt.1 hq'.r)
     ·exact hq j (by omega) hq'
  ·have hz : cntF (el ev m).asList a = 0 := by omega
   rw [e1, hz, Int.zero_mul, Int.add_zero]
   rcases mtE_one (ev := ev) hab m (by omega) (by omega) with ⟨h1, j, hj, hq⟩ | ⟨h0, hq⟩
   ·exact .inl ⟨h1, j, by omega, hq⟩
   ·refine .inr ⟨h0, fun j hj hq' => ?_⟩
    by_cases e : j = m
    ·subst e; exact hA (hasT_cnt.1 hq'.l)
    ·exact hq j (by omega) hq'
theorem good_cnt {n : Int} {s : D} (h : goodS n s) {i : Nat} (hi : i < s.len) {v : Nat} (hv : (v : Int) < n) : cntF (flatL (el s i) (el s i).len) v ≤ 1 := (errG_all (errE_all (good_err h hi)).2).2.1 v hv
theorem mtE_good {n : Int} {s : D} (h : goodS n s) {i : Nat} (hi : i < s.len) {a b : Nat} (hab : a ≠ b) (ha : (a : Int) < n) (hb : (b : Int) < n) :
  (mtE (el s i) (el s i).len a b = 1 ∧ bothE (el s i) a b) ∨ (mtE (el s i) (el s i).len a b = 0 ∧ ¬ bothE (el s i) a b) := by
 rcases mtE_one hab (ev := el s i) _ (good_cnt h hi ha) (good_cnt h hi hb) with ⟨h1, hq⟩ | ⟨h0, hq⟩
 ·exact .inl ⟨h1, ⟨hq⟩⟩
 ·exact .inr ⟨h0, fun ⟨⟨j, hj, hq'⟩⟩ => hq j hj hq'⟩
theorem tog_len {n : Int} {s : D} (h : goodS n s) {a b : Nat} (hab : a ≠ b) (ha : (a : Int) < n) (hb : (b : Int) < n) : ∀ x, x ≤ s.len → ((togL s a b x).length : Int) = mtS s x a b
 | 0, _ => rfl
 | x + 1, hx => by
  have ih := tog_len h hab ha hb x (by omega)
  show _ = mtS s x a b + mtE (el s x) (el s x).len a b
  rw [togL]
  rcases mtE_good h (show x < s.len by omega) hab ha hb with ⟨h1, hq⟩ | ⟨h0, hq⟩
  ·rw [if_pos hq, h1, List.length_append, Int.natCast_add, ih]; rfl
  ·rw [if_neg hq, h0, ih]; omega
end Go.Ev

end

section
open Go.Proofs
namespace Go.Ev
set_option maxRecDepth 100000
set_option maxHeartbeats 4000000
theorem flat_map (ev : D) : ∀ n, n ≤ ev.len → flatL ev n = ((ev.asList.take n).map D.asList).flatten
 | 0, _ => rfl
 | n + 1, h => by
  show flatL ev n ++ (el ev n).asList = _
  rw [flat_map ev n (by omega), take_succ_nth (show n < ev.asList.length from h), List.map_append, List.flatten_append]
  show _ = _ ++ ([(nthD ev.asList n).asList].flatten)
  simp [el]
theorem scan_zero {n : Int} {sz s : D} : ∀ f i, (∀ k, i ≤ k → k < i + f → errE n sz (el s k) = 0) → scanK n sz s f i = (0, 0)
 | 0, _, _ => rfl
 | f + 1, i, h => by
  unfold scanK
  rw [if_neg (fun hne => hne (h i (Nat.le_refl _) (by omega)))]
  exact scan_zero f (i + 1) fun k h1 h2 => h k (by omega) (by omega)
structure pigF (n : Int) (sz s : D) : Prop where
 good : goodS n s
 ok : okS n sz
 chk1 : chk n sz s = (0, 0)
 tab : ∀ i, i < s.len → (el s i).len = sz.len ∧ ∀ j, j < sz.len → ((el (el s i) j).len : Int) = nAt sz j
section
variable {n : Int} {sz s : D}
end
theorem tt : (true = true ↔ True) := ⟨fun _ => trivial, fun _ => rfl⟩
end Go.Ev

end

section
open Go.Proofs
namespace Go.Ev
set_option maxRecDepth 100000
set_option maxHeartbeats 4000000
structure stP (n : Nat) (st L : List D) : Prop where
 len : st.length = n
 rng : ∀ a, a ∈ L → ∃ v : Nat, v < n ∧ a = .int (v : Nat)
 one : ∀ v : Nat, cntF L v ≤ 1
 iff : ∀ v : Nat, v < n → ((nthD st v).asProp ↔ 0 < cntF L v)
open Classical in
theorem nx_inv (q st T : List D) : ∀ g, ((∀ v, v < g → (nthD st v).asProp) ∧ nxB q st T g = -1) ∨ ∃ w : Nat, w < g ∧ nxB q st T g = (w : Nat) ∧ ¬ (nthD st w).asProp
 | 0 => .inl ⟨fun _ h => absurd h (Nat.not_lt_zero _), rfl⟩
 | g + 1 => by
  have e : nxF q st T (g + 1) = if (nthD st g).asProp then nxF q st T g else if lessP (nxF q st T g).1 (moP (nthD q g).asList T T.length) (nxF q st T g).2.1 (suP (nthD q g).asList T T.length) (nxF q st T g).2.2 then ((g : Nat), moP (nthD q g).asList T T.length, suP (nthD q g).asList T T.length) else nxF q st T g := rfl
  by_cases h : (nthD st g).asProp
  ·rw [if_pos h] at e
   rcases nx_inv q st T g with ⟨h1, h2⟩ | ⟨w, h1, h2, h3⟩
   ·exact .inl ⟨fun v hv => by rcases Nat.lt_or_ge v g with k | k; exact h1 v k; rw [show v = g by omega]; exact h, by unfold nxB at h2 ⊢; rw [e]; exact h2⟩
   ·exact .inr ⟨w, by omega, by unfold nxB at h2 ⊢; rw [e]; exact h2, h3⟩
  ·rw [if_neg h] at e
   by_cases hl : lessP (nxF q st T g).1 (moP (nthD q g).asList T T.length) (nxF q st T g).2.1 (suP (nthD q g).asList T T.length) (nxF q st T g).2.2
   ·rw [if_pos hl] at e
    exact .inr ⟨g, by omega, by unfold nxB; rw [e], h⟩
   ·rw [if_neg hl] at e
    rcases nx_inv q st T g with ⟨h1, h2⟩ | ⟨w, h1, h2, h3⟩
    ·exact (hl ⟨.inl (by unfold nxB at h2; omega)⟩).elim
    ·exact .inr ⟨w, by omega, by unfold nxB at h2 ⊢; rw [e]; exact h2, h3⟩
theorem nx_ok {n : Nat} {q st L T : List D} (h : stP n st L) (hl : L.length < n) (hq : q.length = n) : ∃ w : Nat, w < n ∧ nxB q st T q.length = (w : Nat) ∧ ¬ (nthD st w).asProp := by
 rcases nx_inv q st T q.length with ⟨h1, _⟩ | ⟨w, h1, h2, h3⟩
 ·exfalso
  have h2 := sumC_ge (l := L) n fun v hv h0 => by have := (h.iff v hv).1 (h1 v (by omega)); omega
  have h3 := sumC_all (n := n) (l := L) fun a ha => by obtain ⟨v, hv, rfl⟩ := h.rng a ha; show 0 ≤ (v : Int) ∧ (v : Int) < n; omega
  omega
 ·exact ⟨w, by omega, h2, h3⟩
theorem stP.push {n w : Nat} {st L : List D} (h : stP n st L) (hw : w < n) (hn : ¬ (nthD st w).asProp) : stP n (st.set w (.bool (true = true))) (L ++ [.int (w : Nat)]) := by
 have h0 : cntF L w = 0 := by have := mt (h.iff w hw).2 hn; have := (cntF_rng L w).1; omega
 have hc : ∀ v : Nat, cntF (L ++ [.int (w : Nat)]) v = cntF L v + if (w : Int) = v then 1 else 0 := fun v => by
  rw [cntF_app, cntF_cons]; show _ + (0 + if (w : Int) = v then (1 : Int) else 0) = _; omega
 refine ⟨by rw [List.length_set]; exact h.len, fun a ha => ?_, fun v => ?_, fun v hv => ?_⟩
 ·rcases List.mem_append.1 ha with k | k
  ·exact h.rng a k
  ·exact ⟨w, hw, List.mem_singleton.1 k⟩
 ·rw [hc]
  split
  ·rename_i e
   have e : w = v := by omega
   rw [← e, h0]; omega
  ·have := h.one v; omega
 ·rw [hc, nthD_set _ _ _ _ (by rw [h.len]; exact hw)]
  by_cases e : w = v
  ·rw [if_pos e, if_pos (by omega)]
   have := (cntF_rng L v).1
   exact ⟨fun _ => by omega, fun _ => rfl⟩
  ·rw [if_neg e, if_neg (by omega), h.iff v hv]; omega
theorem fl_ok {n : Nat} {q st L : List D} (h : stP n st L) (hq : q.length = n) : ∀ x, L.length + x ≤ n → stP n (flS q st x) (L ++ flG q st x) ∧ (flG q st x).length = x
 | 0, _ => ⟨by show stP n st (L ++ []); rw [List.append_nil]; exact h, rfl⟩
 | x + 1, hx => by
  obtain ⟨h1, h2⟩ := fl_ok h hq x (by omega)
  obtain ⟨w, hw, he, hn⟩ := nx_ok (T := flG q st x) h1 (by rw [List.length_append, h2]; omega) hq
  have e1 : flS q st (x + 1) = (flS q st x).set (nxB q (flS q st x) (flG q st x) q.length).toNat (.bool (true = true)) := rfl
  have e2 : flG q st (x + 1) = flG q st x ++ [.int (nxB q (flS q st x) (flG q st x) q.length)] := rfl
  rw [e1, e2, he]
  refine ⟨?_, by rw [List.length_append, h2]; rfl⟩
  rw [← List.append_assoc]
  exact h1.push hw hn
theorem fl_nx {n : Nat} {q st L : List D} (h : stP n st L) (hq : q.length = n) (x : Nat) (hx : L.length + x < n) : ∃ w : Nat, w < n ∧ nxB q (flS q st x) (flG q st x) q.length = (w : Nat) := by
 obtain ⟨h1, h2⟩ := fl_ok h hq x (by omega)
 obtain ⟨w, hw, he, _⟩ := nx_ok (T := flG q st x) h1 (by rw [List.length_append, h2]; omega) hq
 exact ⟨w, hw, he⟩
def flt (l : List D) : List D := (l.map D.asList).flatten
theorem flt_app (a : List D) (b : List D) : flt (a ++ [.list b]) = flt a ++ b := by
 unfold flt; rw [List.map_append, List.flatten_append]
 show _ ++ (b ++ []) = _
 rw [List.append_nil]
structure evP (n : Nat) (sz : D) (st tb : List D) (j : Nat) : Prop where
 st : stP n st (flt tb)
 tot : ((flt tb).length : Int) = sumZ sz j
 len : tb.length = j
 tab : ∀ i, i < j → ∃ l, nthD tb i = .list l ∧ (l.length : Int) = nAt sz i
theorem ft_ok {n : Nat} {q : List D} {sz : D} (hf : fitP (n : Nat) sz) (hq : q.length = n) : ∀ j, j ≤ sz.len → evP n sz (ftS q sz j) (ftT q sz j) j
 | 0, _ => by
  have h0 : ∀ v : Nat, v < n → ((nthD (List.replicate q.length (D.bool (false = true))) v).asProp ↔ (0 : Int) < 0) := fun v hv => by
   have e : nthD (List.replicate q.length (D.bool (false = true))) v = .bool (false = true) := by
    unfold nthD; rw [List.getElem?_replicate_of_lt (by omega)]; rfl
   rw [e]; exact ⟨fun h => absurd (show false = true from h) (by decide), fun h => absurd h (by decide)⟩
  exact ⟨⟨by show (List.replicate q.length _).length = n; rw [List.length_replicate, hq], (fun a ha => by cases ha), fun v => by show (0 : Int) ≤ 1; decide, h0⟩, rfl, rfl, fun i hi => absurd hi (Nat.not_lt_zero _)⟩
 | j + 1, hj => by
  have h := ft_ok hf hq j (by omega)
  have hp := hf.out.1 j (by omega)
  have hl := fit_le hf (x := j) (by omega)
  have ht := h.tot
  obtain ⟨h1, h2⟩ := fl_ok h.st hq (nAt sz j).toNat (by omega)
  have e1 : ftS q sz (j + 1) = flS q (ftS q sz j) (nAt sz j).toNat := rfl
  have e2 : ftT q sz (j + 1) = ftT q sz j ++ [.list (flG q (ftS q sz j) (nAt sz j).toNat)] := rfl
  rw [e1, e2]
  refine ⟨by rw [flt_app]; exact h1, ?_, by rw [List.length_append, h.len]; rfl, fun i hi => ?_⟩
  ·rw [flt_app, List.length_append, h2]
   have : sumZ sz (j + 1) = sumZ sz j + nAt sz j := rfl
   omega
  ·rcases Nat.lt_or_ge i j with k | k
   ·obtain ⟨l, h3, h4⟩ := h.tab i k
    refine ⟨l, ?_, h4⟩
    rw [← h3]; unfold nthD; rw [List.getElem?_append_left (by rw [h.len]; exact k)]
   ·have e : i = j := by omega
    subst e
    refine ⟨_, ?_, by rw [h2]; omega⟩
    unfold nthD; rw [List.getElem?_append_right (by rw [h.len]; exact Nat.le_refl _), h.len, Nat.sub_self]; rfl
theorem incZ_len (q : List D) (x y : Int) : (incZ q x y).length = q.length := by unfold incZ; rw [List.length_set]
theorem pqI_len (q : List D) (t : D) (i : Nat) : ∀ j, (pqI q t i j).length = q.length
 | 0 => rfl
 | j + 1 => by show (updP _ _ _).length = _; unfold updP; rw [incZ_len, incZ_len, pqI_len q t i j]
theorem pqN_len (q : List D) (t : D) : ∀ i, (pqN q t i).length = q.length
 | 0 => rfl
 | i + 1 => by show (pqI _ _ _ _).length = _; rw [pqI_len, pqN_len q t i]
theorem pqE_len (q : List D) (ev : D) : ∀ i, (pqE q ev i).length = q.length
 | 0 => rfl
 | i + 1 => by show (pqN _ _ _).length = _; rw [pqN_len, pqE_len q ev i]
theorem pqS_len (q : List D) (s : D) : ∀ i, (pqS q s i).length = q.length
 | 0 => rfl
 | i + 1 => by show (pqE _ _ _).length = _; rw [pqE_len, pqS_len q s i]
theorem pmQ_len (n : Nat) (sz : D) (e : Nat) : (pmQ n sz e).length = n := by unfold pmQ; rw [pqS_len, zr_len _ _ (Nat.le_refl _)]
theorem pqS_cong (q : List D) {s s' : D} : ∀ i, (∀ k, k < i → el s k = el s' k) → pqS q s i = pqS q s' i
 | 0, _ => rfl
 | i + 1, h => by
  show pqE (pqS q s i) (el s i) _ = pqE (pqS q s' i) (el s' i) _
  rw [pqS_cong q i fun k hk => h k (by omega), h i (by omega)]
theorem pnL_len (n : Nat) (sz : D) : ∀ e, (pnL n sz e).length = e
 | 0 => rfl
 | e + 1 => by show (pnL n sz e ++ [_]).length = _; rw [List.length_append, pnL_len n sz e]; rfl
theorem pnL_succ (n : Nat) (sz : D) (e : Nat) : pnL n sz (e + 1) = pnL n sz e ++ [.list (ftT (pmQ n sz e) sz sz.len)] := rfl
theorem pnL_pre (n : Nat) (sz : D) (m : Nat) : ∀ k, nthD (pnL n sz (m + k + 1)) m = .list (ftT (pmQ n sz m) sz sz.len)
 | 0 => by
  show nthD (pnL n sz m ++ [_]) m = _
  unfold nthD; rw [List.getElem?_append_right (by rw [pnL_len]; exact Nat.le_refl _), pnL_len, Nat.sub_self]; rfl
 | k + 1 => by
  have := pnL_pre n sz m k
  rw [show m + (k + 1) + 1 = (m + k + 1) + 1 by omega, pnL_succ, ← this]
  unfold nthD; rw [List.getElem?_append_left (by rw [pnL_len]; omega)]
theorem pnL_at {n : Nat} {sz : D} {e i : Nat} (h : i < e) : nthD (pnL n sz e) i = .list (ftT (pmQ n sz i) sz sz.len) := by
 have := pnL_pre n sz i (e - i - 1)
 rwa [show i + (e - i - 1) + 1 = e by omega] at this
theorem pm_step (n : Nat) (sz : D) (e : Nat) : pmQ n sz (e + 1) = pqE (pmQ n sz e) (.list (ftT (pmQ n sz e) sz sz.len)) (ftT (pmQ n sz e) sz sz.len).length := by
 have h1 : el (.list (pnL n sz (e + 1))) e = .list (ftT (pmQ n sz e) sz sz.len) := pnL_at (Nat.lt_succ_self e)
 show pqE (pqS (zrL n n) (.list (pnL n sz (e + 1))) e) (el (.list (pnL n sz (e + 1))) e) (el (.list (pnL n sz (e + 1))) e).len = _
 rw [h1, pqS_cong (s' := .list (pnL n sz e)) _ e fun k hk => by
  show nthD (pnL n sz (e + 1)) k = nthD (pnL n sz e) k
  rw [pnL_at (Nat.lt_succ_of_lt hk), pnL_at hk]]
 rfl
theorem toN {n : Int} (h : 1 ≤ n) : ((n.toNat : Nat) : Int) = n := by omega
theorem ev_zero {n : Int} {q : List D} {sz : D} (h1 : 1 ≤ n) (hf : fitP n sz) (hq : q.length = n.toNat) : ∀ z : D, (0 < z.len → z = sz) → errE n z (.list (ftT q sz sz.len)) = 0 := fun z hz => by
 have hev := ft_ok (n := n.toNat) (by rw [toN h1]; exact hf) hq sz.len (Nat.le_refl _)
 have hl : (D.list (ftT q sz sz.len)).len = sz.len := hev.len
 have ht : ∀ i, i < sz.len → ((el (.list (ftT q sz sz.len)) i).len : Int) = nAt sz i := fun i hi => by
  obtain ⟨l, h3, h4⟩ := hev.tab i hi
  rw [show el (.list (ftT q sz sz.len)) i = .list l from h3]; exact h4
 rw [errE_g (fun ⟨j, hj, h0⟩ => by
   have := ht j (by omega)
   have := hf.out.1 j (by omega)
   omega) (fun h => by rw [hz h]; exact ⟨hl, fun i hi => ht i (by omega)⟩)]
 have hfl : flatL (.list (ftT q sz sz.len)) (D.list (ftT q sz sz.len)).len = flt (ftT q sz sz.len) := by
  rw [flat_map _ _ (Nat.le_refl _)]
  show ((List.take (ftT q sz sz.len).length (ftT q sz sz.len)).map D.asList).flatten = _
  rw [List.take_length]; rfl
 have hlen := hev.tot
 rw [hfl, errG_len (by omega) (fun ⟨a, ha, hna⟩ => hna (by obtain ⟨v, hv, rfl⟩ := hev.st.rng a ha; show 0 ≤ (v : Int) ∧ (v : Int) < n; omega)) (fun v _ => hev.st.one v), if_neg (by rw [hlen, hf.out.2]; omega)]
theorem pl_el {n : Nat} {sz : D} {e i : Nat} (h : i < e) : el (.list (pnL n sz e)) i = .list (ftT (pmQ n sz i) sz sz.len) := pnL_at h
theorem pl_pig {n : Int} {sz : D} {e : Nat} (h1 : 1 ≤ n) (h64 : n ≤ 64) (hf : fitP n sz) (he : e ≤ 64) : pigF n sz (.list (pnL n.toNat sz e)) := by
 have hlen : (D.list (pnL n.toNat sz e)).len = e := pnL_len _ _ _
 have hev : ∀ i, i < e → evP n.toNat sz (ftS (pmQ n.toNat sz i) sz sz.len) (ftT (pmQ n.toNat sz i) sz sz.len) sz.len := fun i _ => ft_ok (by rw [toN h1]; exact hf) (pmQ_len _ _ _) sz.len (Nat.le_refl _)
 have htab : ∀ i, i < e → (el (.list (pnL n.toNat sz e)) i).len = sz.len ∧ ∀ j, j < sz.len → ((el (el (.list (pnL n.toNat sz e)) i) j).len : Int) = nAt sz j := fun i hi => by
  rw [pl_el hi]
  refine ⟨(hev i hi).len, fun j hj => ?_⟩
  obtain ⟨l, h3, h4⟩ := (hev i hi).tab j hj
  rw [show el (.list (ftT (pmQ n.toNat sz i) sz sz.len)) j = .list l from h3]; exact h4
 have hsz := (fit_sum hf (Nat.le_refl sz.len)).1
 have hs2 := (fit_sum hf (Nat.le_refl sz.len)).2
 have hbig : bigP (.list (pnL n.toNat sz e)) := ⟨by omega, fun i hi => ⟨by rw [(htab i (by omega)).1]; omega, fun j hj => by
  rw [(htab i (by omega)).1] at hj
  have := (htab i (by omega)).2 j hj
  have := fit_le hf hj
  have := (fit_sum hf (Nat.le_of_lt hj)).1
  omega⟩⟩
 have h0 : ∀ z : D, (0 < z.len → z = sz) → ∀ k, k < e → errE n z (el (.list (pnL n.toNat sz e)) k) = 0 := fun z hz k hk => by rw [pl_el hk]; exact ev_zero h1 hf (pmQ_len _ _ _) z hz
 refine ⟨⟨⟨h1, h64⟩, hbig, ?_⟩, ⟨h1, h64, hf⟩, ?_, fun i hi => htab i (by omega)⟩
 ·unfold chk
  rw [if_neg (fun h => by rcases h with h | h; exact h ⟨h1, h64⟩; exact absurd h.1 (Nat.lt_irrefl 0)), if_neg (by omega)]
  exact scan_zero _ _ fun k _ hk => h0 .nil (fun h => absurd h (Nat.lt_irrefl 0)) k (by omega)
 ·unfold chk
  rw [if_neg (fun h => by rcases h with h | h; exact h ⟨h1, h64⟩; exact h.2 hf), if_neg (by omega)]
  exact scan_zero _ _ fun k _ hk => h0 _ (fun _ => rfl) k (by omega)
theorem pm_sq {n : Int} {sz : D} {e : Nat} (h1 : 1 ≤ n) (h64 : n ≤ 64) (hf : fitP n sz) (he : e ≤ 64) : sqF n.toNat 12800000000 (mtS (.list (pnL n.toNat sz e)) e) (pmQ n.toNat sz e) := by
 have hg := (pl_pig h1 h64 hf he).good
 have hlen : (D.list (pnL n.toNat sz e)).len = e := pnL_len _ _ _
 exact (pqS_sq hg (zr_sq _) e (by omega)).cong (by omega) fun _ _ _ _ => rfl
end Go.Ev

end
