/-
  Part of the engine that the claim is proved with: it states nothing of the document by itself.
-/
import Derived.Test.YtenmglepjkflhaaGreatDoorCoreMeB
open Go.Proofs
namespace Go.Ev
open Classical in
noncomputable def rtE (ev : D) (a b : Int) (i : Nat) : Nat → List D
 | 0 => []
 | j + 1 => if hasT (el ev j) a ∧ hasT (el ev j) b then rtE ev a b i j ++ [.int (i : Nat)] else rtE ev a b i j
noncomputable def rtS (s : D) (a b : Int) : Nat → List D
 | 0 => []
 | i + 1 => rtS s a b i ++ rtE (el s i) a b i (el s i).len
noncomputable def con43r : Con := fun | [.dat 27 t, .int .i64 x] => some (t.len ≤ 16777216, .prop (hasT t x)) | _ => none
noncomputable def con17r : Con := fun | [.dat 22 s, .int .i64 a, .int .i64 b] => some (bigP s, .dat 27 (listD (rtS s a b s.len))) | _ => none
noncomputable def rmR (s : D) (x y : Nat) : List D := (List.range y).map fun (b : Nat) => .int (if x = b then 0 else ((rtS s x b s.len).length : Nat))
noncomputable def rmL (s : D) (n x : Nat) : List D := (List.range x).map fun a => .list (rmR s a n)
noncomputable def con16r : Con := fun | [.int .i64 n, .dat 22 s] => some (bigP s ∧ 1 ≤ n ∧ n ≤ 64, .dat 26 (.list (rmL s n.toNat n.toNat))) | _ => none
structure nxP (t : D) (a b : Int) : Prop where
 out : ∃ i, i < t.len ∧ nAt t i = a ∧ nAt t (if i + 1 = t.len then 0 else i + 1) = b
noncomputable def con45r : Con := fun | [.dat 27 t, .int .i64 a, .int .i64 b] => some (t.len ≤ 16777216, .prop (nxP t a b)) | _ => none
open Classical in
noncomputable def bsE (ev : D) (a b : Int) : Nat → Int
 | 0 => 0
 | j + 1 => bsE ev a b j + (if a ≠ b ∧ (nxP (el ev j) a b ∨ nxP (el ev j) b a) then 1 else 0)
noncomputable def bsS (s : D) (a b : Int) : Nat → Int
 | 0 => 0
 | i + 1 => bsS s a b i + bsE (el s i) a b (el s i).len
noncomputable def rbR (s : D) (x y : Nat) : List D := (List.range y).map fun (b : Nat) => .int (bsS s x b s.len)
noncomputable def rbL (s : D) (n x : Nat) : List D := (List.range x).map fun a => .list (rbR s a n)
noncomputable def con19r : Con := fun | [.int .i64 n, .dat 22 s] => some (bigP s ∧ 1 ≤ n ∧ n ≤ 64, .dat 26 (.list (rbL s n.toNat n.toNat))) | _ => none
structure sqM (M : D) : Prop where
 len : M.len ≤ 64
 row : ∀ x, x < M.len → (el M x).len = M.len
 rng : ∀ x y, x < M.len → y < M.len → 0 ≤ nAt (el M x) y ∧ nAt (el M x) y ≤ 1000000
def moR (r : D) (k : Int) : Nat → Int
 | 0 => k
 | y + 1 => max (moR r k y) (nAt r y)
def moS (M : D) : Nat → Int
 | 0 => 0
 | x + 1 => moR (el M x) (moS M x) x
def leR (r : D) (k : Int) : Nat → Int
 | 0 => k
 | y + 1 => min (leR r k y) (nAt r y)
def leS (M : D) (k : Int) : Nat → Int
 | 0 => k
 | x + 1 => leR (el M x) (leS M k x) x
def stR (r : D) (k : Int) : Nat → Int
 | 0 => k
 | y + 1 => stR r k y + nAt r y * nAt r y
def stS (M : D) : Nat → Int
 | 0 => 0
 | x + 1 => stR (el M x) (stS M x) x
noncomputable def con21r : Con := fun | [.dat 26 M] => some (sqM M, .int .i64 (moS M M.len)) | _ => none
noncomputable def con22r : Con := fun | [.dat 26 M] => some (sqM M, .int .i64 (leS M (moS M M.len) M.len)) | _ => none
noncomputable def con23r : Con := fun | [.dat 26 M] => some (sqM M, .int .i64 (stS M M.len)) | _ => none
noncomputable def rtQ (s : D) (a b : Int) (i y : Nat) : List D := rtS s a b i ++ rtE (el s i) a b i y
noncomputable def reAnn : FuncId → Nat → Option Ann
 | 43, 2 => some { τ := Nat, slots := fun _ _ x => [(5, .int .i64 x)], blks := fun _ _ _ => [], inv := fun S _ x => x ≤ (slD S 0).len ∧ ∀ k, k < x → nAt (slD S 0) k ≠ slI S 1, meas := fun S _ x => (slD S 0).len - x }
 | 45, 2 => some { τ := Nat, slots := fun _ _ x => [(7, .int .i64 x)], blks := fun _ _ _ => [], inv := fun S _ x => x ≤ (slD S 0).len ∧ ∀ i, i < x → ¬ (nAt (slD S 0) i = slI S 1 ∧ nAt (slD S 0) (if i + 1 = (slD S 0).len then 0 else i + 1) = slI S 2), meas := fun S _ x => (slD S 0).len - x }
 | 17, 3 => some { hs := 2, τ := Nat, slots := fun S i x => match i with | 0 => [(8, .int .i64 x), (7, .val (.slice none 0 0))] | _ => [(8, .int .i64 x), (7, .slc (Nat.add S.nx 300) (.lit 0) (.sym (rtS (slD S 0) (slI S 1) (slI S 2) x).length) none)], blks := fun S i x => match i with | 0 => [] | _ => [(Nat.add S.nx 300, .arr 3 (rtS (slD S 0) (slI S 1) (slI S 2) x))], inv := fun S i x => match i with | 0 => x ≤ (slD S 0).len ∧ rtS (slD S 0) (slI S 1) (slI S 2) x = [] | _ => x ≤ (slD S 0).len ∧ rtS (slD S 0) (slI S 1) (slI S 2) x ≠ [], meas := fun S _ x => (slD S 0).len - x }
 | 17, 6 => some { hs := 2, τ := Nat, slots := fun S i y => match i with | 0 => [(9, .int .i64 y), (7, .val (.slice none 0 0))] | _ => [(9, .int .i64 y), (7, .slc (rowId S 7) (.lit 0) (.sym (rtQ (slD S 0) (slI S 1) (slI S 2) (slI S 8).toNat y).length) none)], blks := fun S i y => match i with | 0 => [] | _ => [(rowId S 7, .arr 3 (rtQ (slD S 0) (slI S 1) (slI S 2) (slI S 8).toNat y))], inv := fun S i y => match i with | 0 => y ≤ (el (slD S 0) (slI S 8).toNat).len ∧ rtQ (slD S 0) (slI S 1) (slI S 2) (slI S 8).toNat y = [] | _ => y ≤ (el (slD S 0) (slI S 8).toNat).len ∧ rtQ (slD S 0) (slI S 1) (slI S 2) (slI S 8).toNat y ≠ [], meas := fun S _ y => (el (slD S 0) (slI S 8).toNat).len - y }
 | 16, 3 => some { hs := 2, τ := Nat, slots := fun S i x => match i with | 0 => [(6, .int .i64 x), (5, .val (.slice none 0 0))] | _ => [(6, .int .i64 x), (5, .slc (Nat.add S.nx 300) (.lit 0) (.sym x) none)], blks := fun S i x => match i with | 0 => [] | _ => [(Nat.add S.nx 300, .arr 27 (rmL (slD S 1) (slI S 0).toNat x))], inv := fun S i x => match i with | 0 => x = 0 | _ => 0 < x ∧ x ≤ (slI S 0).toNat, meas := fun S _ x => (slI S 0).toNat - x }
 | 16, 7 => some { hs := 2, τ := Nat, slots := fun S i y => match i with | 0 => [(8, .int .i64 y), (7, .val (.slice none 0 0))] | _ => [(8, .int .i64 y), (7, .slc (Nat.add S.nx 600) (.lit 0) (.sym y) none)], blks := fun S i y => match i with | 0 => [] | _ => [(Nat.add S.nx 600, .arr 3 (rmR (slD S 1) (slI S 6).toNat y))], inv := fun S i y => match i with | 0 => y = 0 | _ => 0 < y ∧ y ≤ (slI S 0).toNat, meas := fun S _ y => (slI S 0).toNat - y }
 | 19, 3 => some { hs := 2, τ := Nat, slots := fun S i x => match i with | 0 => [(6, .int .i64 x), (5, .val (.slice none 0 0))] | _ => [(6, .int .i64 x), (5, .slc (Nat.add S.nx 300) (.lit 0) (.sym x) none)], blks := fun S i x => match i with | 0 => [] | _ => [(Nat.add S.nx 300, .arr 27 (rbL (slD S 1) (slI S 0).toNat x))], inv := fun S i x => match i with | 0 => x = 0 | _ => 0 < x ∧ x ≤ (slI S 0).toNat, meas := fun S _ x => (slI S 0).toNat - x }
 | 19, 7 => some { hs := 2, τ := Nat, slots := fun S i y => match i with | 0 => [(8, .int .i64 y), (7, .val (.slice none 0 0))] | _ => [(8, .int .i64 y), (7, .slc (Nat.add S.nx 600) (.lit 0) (.sym y) none)], blks := fun S i y => match i with | 0 => [] | _ => [(Nat.add S.nx 600, .arr 3 (rbR (slD S 1) (slI S 6).toNat y))], inv := fun S i y => match i with | 0 => y = 0 | _ => 0 < y ∧ y ≤ (slI S 0).toNat, meas := fun S _ y => (slI S 0).toNat - y }
 | 19, 11 => some { τ := Nat, slots := fun S _ i => [(10, .int .i64 i), (9, .int .i64 (bsS (slD S 1) (slI S 6) (slI S 8) i))], blks := fun _ _ _ => [], inv := fun S _ i => i ≤ (slD S 1).len, meas := fun S _ i => (slD S 1).len - i }
 | 19, 14 => some { τ := Nat, slots := fun S _ j => [(11, .int .i64 j), (9, .int .i64 (slI S 9 + bsE (el (slD S 1) (slI S 10).toNat) (slI S 6) (slI S 8) j))], blks := fun _ _ _ => [], inv := fun S _ j => j ≤ (el (slD S 1) (slI S 10).toNat).len, meas := fun S _ j => (el (slD S 1) (slI S 10).toNat).len - j }
 | 21, 3 => some { τ := Nat, slots := fun S _ x => [(4, .int .i64 x), (3, .int .i64 (moS (slD S 0) x))], blks := fun _ _ _ => [], inv := fun S _ x => x ≤ (slD S 0).len, meas := fun S _ x => (slD S 0).len - x }
 | 21, 6 => some { τ := Nat, slots := fun S _ y => [(5, .int .i64 y), (3, .int .i64 (moR (el (slD S 0) (slI S 4).toNat) (slI S 3) y))], blks := fun _ _ _ => [], inv := fun S _ y => y ≤ (slI S 4).toNat, meas := fun S _ y => (slI S 4).toNat - y }
 | 22, 3 => some { τ := Nat, slots := fun S _ x => [(4, .int .i64 x), (3, .int .i64 (leS (slD S 0) (slI S 3) x))], blks := fun _ _ _ => [], inv := fun S _ x => x ≤ (slD S 0).len, meas := fun S _ x => (slD S 0).len - x }
 | 22, 6 => some { τ := Nat, slots := fun S _ y => [(5, .int .i64 y), (3, .int .i64 (leR (el (slD S 0) (slI S 4).toNat) (slI S 3) y))], blks := fun _ _ _ => [], inv := fun S _ y => y ≤ (slI S 4).toNat, meas := fun S _ y => (slI S 4).toNat - y }
 | 23, 3 => some { τ := Nat, slots := fun S _ x => [(4, .int .i64 x), (3, .int .i64 (stS (slD S 0) x))], blks := fun _ _ _ => [], inv := fun S _ x => x ≤ (slD S 0).len, meas := fun S _ x => (slD S 0).len - x }
 | 23, 6 => some { τ := Nat, slots := fun S _ y => [(5, .int .i64 y), (3, .int .i64 (stR (el (slD S 0) (slI S 4).toNat) (slI S 3) y))], blks := fun _ _ _ => [], inv := fun S _ y => y ≤ (slI S 4).toNat, meas := fun S _ y => (slI S 4).toNat - y }
 | _, _ => none
noncomputable def re1 : FuncId → Option Con
 | 43 => some con43r
 | _ => none
noncomputable def re2 : FuncId → Option Con
 | 17 => some con17r
 | _ => none
noncomputable def re3 : FuncId → Option Con
 | 45 => some con45r
 | _ => none
noncomputable def re4 : FuncId → Option Con
 | 21 => some con21r
 | _ => none
noncomputable def conFm : Con := fun _ => some (False, .int .i64 0)
noncomputable def con38n : Con := fun | [.int .i64 n, .dat 22 s] => some (bigP s ∧ ¬ goodS n s, .dat 27 .nil) | _ => none
noncomputable def mn1 : FuncId → Option Con
 | 31 => some con16
 | 32 => some conFm
 | 63 => some conFm
 | 62 => some conFm
 | _ => none
noncomputable def nlAnn : FuncId → Nat → Option Ann
 | 10, 5 => some { τ := Unit, slots := fun _ _ _ => [], blks := fun _ _ _ => [], inv := fun _ _ _ => False, meas := fun _ _ _ => 0 }
 | _, _ => none
noncomputable def mn2 : FuncId → Option Con
 | 38 => some con38n
 | 39 => some conFm
 | _ => none
end Go.Ev
