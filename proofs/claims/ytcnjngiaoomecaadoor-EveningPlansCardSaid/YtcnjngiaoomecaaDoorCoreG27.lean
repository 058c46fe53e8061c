/-
  Part of the engine that the claim is proved with: it states nothing of the document by itself.
-/
import Derived.Test.YtcnjngiaoomecaaDoorCoreG25
import Derived.Test.YtcnjngiaoomecaaDoorCoreG26

section
open Go.Proofs
namespace Go.Ev
noncomputable def con24e : Con := fun | [.dat 25 a, .dat 25 b] => some (bigP a, .prop (eqS3 a b)) | _ => none
end Go.Ev

end

section
open Go.Proofs
namespace Go.Ev
open Classical in
noncomputable def rtE (ev : D) (a b : Int) (i : Nat) : Nat → List D
 | 0 => []
 | j + 1 => if hasT (el ev j) a ∧ hasT (el ev j) b then rtE ev a b i j ++ [.int (i : Nat)] else rtE ev a b i j
noncomputable def rtS (s : D) (a b : Int) : Nat → List D
 | 0 => []
 | i + 1 => rtS s a b i ++ rtE (el s i) a b i (el s i).len
noncomputable def con43r : Con := fun | [.dat 22 t, .int .i64 x] => some (t.len ≤ 16777216, .prop (hasT t x)) | _ => none
noncomputable def con17r : Con := fun | [.dat 25 s, .int .i64 a, .int .i64 b] => some (bigP s, .dat 22 (listD (rtS s a b s.len))) | _ => none
noncomputable def rtQ (s : D) (a b : Int) (i y : Nat) : List D := rtS s a b i ++ rtE (el s i) a b i y
noncomputable def reAnn : FuncId → Nat → Option Ann
 | 32, 2 => some { τ := Nat, slots := fun _ _ x => [(5, .int .i64 x)], blks := fun _ _ _ => [], inv := fun S _ x => x ≤ (slD S 0).len ∧ ∀ k, k < x → nAt (slD S 0) k ≠ slI S 1, meas := fun S _ x => (slD S 0).len - x }
 | 53, 3 => some { hs := 2, τ := Nat, slots := fun S i x => match i with | 0 => [(8, .int .i64 x), (7, .val (.slice none 0 0))] | _ => [(8, .int .i64 x), (7, .slc (Nat.add S.nx 300) (.lit 0) (.sym (rtS (slD S 0) (slI S 1) (slI S 2) x).length) none)], blks := fun S i x => match i with | 0 => [] | _ => [(Nat.add S.nx 300, .arr 3 (rtS (slD S 0) (slI S 1) (slI S 2) x))], inv := fun S i x => match i with | 0 => x ≤ (slD S 0).len ∧ rtS (slD S 0) (slI S 1) (slI S 2) x = [] | _ => x ≤ (slD S 0).len ∧ rtS (slD S 0) (slI S 1) (slI S 2) x ≠ [], meas := fun S _ x => (slD S 0).len - x }
 | 53, 6 => some { hs := 2, τ := Nat, slots := fun S i y => match i with | 0 => [(9, .int .i64 y), (7, .val (.slice none 0 0))] | _ => [(9, .int .i64 y), (7, .slc (rowId S 7) (.lit 0) (.sym (rtQ (slD S 0) (slI S 1) (slI S 2) (slI S 8).toNat y).length) none)], blks := fun S i y => match i with | 0 => [] | _ => [(rowId S 7, .arr 3 (rtQ (slD S 0) (slI S 1) (slI S 2) (slI S 8).toNat y))], inv := fun S i y => match i with | 0 => y ≤ (el (slD S 0) (slI S 8).toNat).len ∧ rtQ (slD S 0) (slI S 1) (slI S 2) (slI S 8).toNat y = [] | _ => y ≤ (el (slD S 0) (slI S 8).toNat).len ∧ rtQ (slD S 0) (slI S 1) (slI S 2) (slI S 8).toNat y ≠ [], meas := fun S _ y => (el (slD S 0) (slI S 8).toNat).len - y }
 | _, _ => none
noncomputable def re1 : FuncId → Option Con
 | 32 => some con43r
 | _ => none
end Go.Ev

end

section
open Go.Proofs
namespace Go.Ev
noncomputable def slN (S : SS) (t : Tmp) : Nat := match S.fr.get t with | some (.slc _ _ n _) => n.v | _ => 0
noncomputable def con33b : Con := fun | [.dat 25 s, .int .i64 a, .int .i64 b] => some (bigP s, .int .i64 ((rtS s a b s.len).length : Nat)) | _ => none
noncomputable def bf1 : FuncId → Option Con
 | 53 => some con17r
 | _ => none
noncomputable def rM (n : Int) (sz : D) (e : Int) : List D := pmQ n.toNat sz e.toNat
noncomputable def rP (n : Int) (sz : D) (x : Nat) : List D := pnL n.toNat sz x
noncomputable def rT (n : Int) (sz : D) (e : Int) (x : Nat) : List D := ftT (rM n sz e) sz x
noncomputable def rG (n : Int) (sz : D) (e j : Int) (x : Nat) : List D := flG (rM n sz e) (ftS (rM n sz e) sz j.toNat) x
noncomputable def rF (n : Int) (sz : D) (e j : Int) (x : Nat) : List D := flS (rM n sz e) (ftS (rM n sz e) sz j.toNat) x
noncomputable def rB (n : Int) (sz : D) (e j : Int) (k : Nat) (T : List D) (g : Nat) : Int := nxB (rM n sz e) (rF n sz e j k) T g
noncomputable def rL (n : Int) (sz : D) (e j : Int) (k : Nat) (T : List D) (g : Nat) : Int := nxL (rM n sz e) (rF n sz e j k) T g
noncomputable def rS (n : Int) (sz : D) (e j : Int) (k : Nat) (T : List D) (g : Nat) : Int := nxS (rM n sz e) (rF n sz e j k) T g
noncomputable def rMo (n : Int) (sz : D) (e x : Int) (T : List D) (k : Nat) : Int := moP (nthD (rM n sz e) x.toNat).asList T k
noncomputable def rSu (n : Int) (sz : D) (e x : Int) (T : List D) (k : Nat) : Int := suP (nthD (rM n sz e) x.toNat).asList T k
noncomputable def prAnn2 : FuncId → Nat → Option Ann
 | 8, 7 => some { hs := 2, τ := Nat, slots := fun S i x => match i with | 0 => [(9, .int .i64 x), (8, .val (.slice none 0 0))] | _ => [(9, .int .i64 x), (8, .slc (Nat.add S.nx 300) (.lit 0) (.sym x) none)], blks := fun S i x => match i with | 0 => [] | _ => [(Nat.add S.nx 300, .arr 41 (rP (slI S 0) (slD S 1) x))], inv := fun S i x => match i with | 0 => x = 0 | _ => 0 < x ∧ x ≤ (slI S 2).toNat, meas := fun S _ x => (slI S 2).toNat - x }
 | 8, 11 => some { hs := 2, τ := Nat, slots := fun S i x => match i with | 0 => [(11, .int .i64 x), (10, .val (.slice none 0 0))] | _ => [(11, .int .i64 x), (10, .slc (Nat.add S.nx 400) (.lit 0) (.sym x) none)], blks := fun S i x => match i with | 0 => [] | _ => [(Nat.add S.nx 400, .arr 22 (rT (slI S 0) (slD S 1) (slI S 9) x))], inv := fun S i x => match i with | 0 => x = 0 | _ => 0 < x ∧ x ≤ (slD S 1).len, meas := fun S _ x => (slD S 1).len - x }
 | 8, 14 => some { hs := 2, τ := Nat, slots := fun S i x => match i with | 0 => [(12, .val (.slice none 0 0))] | _ => [(12, .slc (Nat.add S.nx 500) (.lit 0) (.sym x) none)], blks := fun S i x => match i with | 0 => [] | _ => [(Nat.add S.nx 500, .arr 3 (rG (slI S 0) (slD S 1) (slI S 9) (slI S 11) x))], inv := fun S i x => match i with | 0 => x = 0 | _ => 0 < x ∧ x ≤ (nAt (slD S 1) (slI S 11).toNat).toNat, meas := fun S _ x => (nAt (slD S 1) (slI S 11).toNat).toNat - x }
 | 8, 17 => some { τ := Nat, slots := fun S _ g => [(16, .int .i64 g), (13, .int .i64 (rB (slI S 0) (slD S 1) (slI S 9) (slI S 11) (slN S 12) (slRow S 12) g)), (14, .int .i64 (rL (slI S 0) (slD S 1) (slI S 9) (slI S 11) (slN S 12) (slRow S 12) g)), (15, .int .i64 (rS (slI S 0) (slD S 1) (slI S 9) (slI S 11) (slN S 12) (slRow S 12) g))], blks := fun _ _ _ => [], inv := fun S _ g => g ≤ (slI S 0).toNat, meas := fun S _ g => (slI S 0).toNat - g }
 | 8, 22 => some { τ := Nat, slots := fun S _ k => [(19, .int .i64 k), (17, .int .i64 (rMo (slI S 0) (slD S 1) (slI S 9) (slI S 16) (slRow S 12) k)), (18, .int .i64 (rSu (slI S 0) (slD S 1) (slI S 9) (slI S 16) (slRow S 12) k))], blks := fun _ _ _ => [], inv := fun S _ k => k ≤ slN S 12, meas := fun S _ k => slN S 12 - k }
 | _, _ => none
noncomputable def prJoin : FuncId → Nat → Option Ann
 | 8, 29 => some { τ := Unit, slots := fun S _ _ => [(13, .int .i64 (rB (slI S 0) (slD S 1) (slI S 9) (slI S 11) (slN S 12) (slRow S 12) (slI S 0).toNat))], blks := fun _ _ _ => [], inv := fun _ _ _ => True, meas := fun _ _ _ => 0 }
 | 8, 30 => some { τ := Unit, slots := fun S _ _ => [(12, .slc (Nat.add S.nx 600) (.lit 0) (.sym (nAt (slD S 1) (slI S 11).toNat).toNat) none)], blks := fun S _ _ => [(Nat.add S.nx 600, .arr 3 (rG (slI S 0) (slD S 1) (slI S 9) (slI S 11) (nAt (slD S 1) (slI S 11).toNat).toNat))], inv := fun _ _ _ => True, meas := fun _ _ _ => 0 }
 | 8, 31 => some { τ := Unit, slots := fun S _ _ => [(10, .slc (Nat.add S.nx 700) (.lit 0) (.sym (slD S 1).len) none)], blks := fun S _ _ => [(Nat.add S.nx 700, .arr 22 (rT (slI S 0) (slD S 1) (slI S 9) (slD S 1).len))], inv := fun _ _ _ => True, meas := fun _ _ _ => 0 }
 | _, _ => none
noncomputable def rp1 : FuncId → Option Con
 | 30 => some con39
 | 31 => some con66
 | 32 => some con43r
 | 33 => some con33b
 | _ => none
open Classical in
noncomputable def refD (n : Int) (sz : D) (e : Int) : D := if ((1 ≤ n ∧ n ≤ 64) ∧ fitP n sz) ∧ 0 ≤ e ∧ e ≤ 64 then listD (pnL n.toNat sz e.toNat) else .nil
noncomputable def con8r : Con := fun | [.int .i64 n, .dat 22 sz, .int .i64 e] => some (sz.len ≤ 16777216, .tup [.dat 25 (refD n sz e), .int .i64 (planX n sz e)]) | _ => none
end Go.Ev

end

section
open Go.Proofs
namespace Go.Ev
set_option maxRecDepth 100000
set_option maxHeartbeats 4000000
theorem me43 : ∀ (t : D) (x : Int), symFun (ctx cc0 reAnn) (3 : Nat) (32 : FuncId) [V.dat (22 : TypeId) t, V.int IntKind.i64 x] (V.prop (hasT t x)) = ((∃ (x_1 : Nat), (x_1 ≤ t.len ∧ ∀ (k : Nat), k <
x_1 → nAt t k = x → False) ∧ ((0 : Int) = (↑x_1 : Int) ∧ True) ∧ True) ∧ ∀ (x_1 : Nat), (x_1 ≤ t.len ∧ ∀ (k : Nat), k < x_1 → nAt t k = x → False) → t.len - x_1 < LIM ∧ ((↑x_1 : Int) < (↑t.len : Int)
→ (0 : Int) ≤ (↑x_1 : Int) ∧ (↑x_1 : Int) < (↑t.len : Int) ∧ (nAt t x_1 = x → (true = true ↔ hasT t x)) ∧ ((nAt t x_1 = x → False) → ((-9223372036854775808 : Int) ≤ (↑x_1 : Int) + (1 : Int) ∧ (↑x_1 :
Int) + (1 : Int) < (9223372036854775808 : Int)) ∧ ∃ (y : Nat), (y ≤ t.len ∧ ∀ (k : Nat), k < y → nAt t k = x → False) ∧ t.len - y < t.len - x_1 ∧ ((↑x_1 : Int) + (1 : Int) = (↑y : Int) ∧ True) ∧
True)) ∧ (((↑x_1 : Int) < (↑t.len : Int) → False) → (false = true ↔ hasT t x))) := by intros; kernel_rfl
theorem s43r (t : D) (x : Int) (ht : t.len ≤ 16777216) : symFun (ctx cc0 reAnn) 3 32 [.dat 22 t, .int .i64 x] (.prop (hasT t x)) := by
 rw [me43]
 refine ⟨⟨0, ⟨Nat.zero_le _, fun k hk => absurd hk (Nat.not_lt_zero _)⟩, ⟨rfl, trivial⟩, trivial⟩, fun y ⟨hy, hn⟩ => ⟨limS (by omega), fun hlt => ⟨by omega, hlt, fun he => ⟨fun _ => ⟨⟨y, by omega, he⟩⟩, fun _ => rfl⟩, fun he => ⟨⟨by omega, by omega⟩, y + 1, ⟨by omega, fun k hk => ?_⟩, by omega, ⟨by omega, trivial⟩, trivial⟩⟩, fun hge => ⟨fun h => Bool.noConfusion h, fun ⟨⟨k, hk, he⟩⟩ => (hn k (by have := not_of hge; omega) he).elim⟩⟩⟩
 rcases Nat.lt_or_ge k y with h1 | h1
 ·exact hn k h1
 ·rw [show k = y by omega]; exact he
end Go.Ev

end

section
open Go.Proofs
namespace Go.Ev
set_option maxRecDepth 100000
set_option maxHeartbeats 4000000
theorem me17 : ∀ (s : D) (a b : Int), symFun (ctx re1 reAnn) (3 : Nat) (53 : FuncId) [V.dat (25 : TypeId) s, V.int IntKind.i64 a, V.int IntKind.i64 b] (V.dat (22 : TypeId) (listD (rtS s a b s.len))) =
(((∃ (x : Nat), (x ≤ s.len ∧ rtS s a b x = []) ∧ ((0 : Int) = (↑x : Int) ∧ True ∧ True) ∧ True) ∨ ∃ (x : Nat), (x ≤ s.len ∧ (rtS s a b x = [] → False)) ∧ ((0 : Int) = (↑x : Int) ∧ False ∧ True) ∧
False ∧ True) ∧ (∀ (x : Nat), x ≤ s.len ∧ rtS s a b x = [] → s.len - x < LIM ∧ ((↑x : Int) < (↑s.len : Int) → ((∃ (x_1 : Nat), (x_1 ≤ (el s x).len ∧ rtQ s a b x x_1 = []) ∧ ((0 : Int) = (↑x_1 : Int) ∧
True ∧ True) ∧ True) ∨ ∃ (x_1 : Nat), (x_1 ≤ (el s x).len ∧ (rtQ s a b x x_1 = [] → False)) ∧ ((0 : Int) = (↑x_1 : Int) ∧ False ∧ True) ∧ False ∧ True) ∧ (∀ (x_1 : Nat), x_1 ≤ (el s x).len ∧ rtQ s a b
x x_1 = [] → (el s x).len - x_1 < LIM ∧ (0 : Int) ≤ (↑x : Int) ∧ (↑x : Int) < (↑s.len : Int) ∧ ((↑x_1 : Int) < (↑(el s x).len : Int) → (0 : Int) ≤ (↑x : Int) ∧ (↑x : Int) < (↑s.len : Int) ∧ (0 : Int)
≤ (↑x_1 : Int) ∧ (↑x_1 : Int) < (↑(el s x).len : Int) ∧ (el (el s x) x_1).len ≤ (16777216 : Nat) ∧ (hasT (el (el s x) x_1) a → (0 : Int) ≤ (↑x : Int) ∧ (↑x : Int) < (↑s.len : Int) ∧ (0 : Int) ≤ (↑x_1
: Int) ∧ (↑x_1 : Int) < (↑(el s x).len : Int) ∧ (el (el s x) x_1).len ≤ (16777216 : Nat) ∧ (hasT (el (el s x) x_1) b → (0 : Nat) + (1 : Nat) ≤ [D.int (↑x : Int)].length ∧ (1 : Nat) ≤ (16777216 : Nat)
∧ ((-9223372036854775808 : Int) ≤ (↑x_1 : Int) + (1 : Int) ∧ (↑x_1 : Int) + (1 : Int) < (9223372036854775808 : Int)) ∧ ((∃ (y : Nat), (y ≤ (el s x).len ∧ rtQ s a b x y = []) ∧ (el s x).len - y < (el s
x).len - x_1 ∧ ((↑x_1 : Int) + (1 : Int) = (↑y : Int) ∧ False ∧ True) ∧ True) ∨ ∃ (y : Nat), (y ≤ (el s x).len ∧ (rtQ s a b x y = [] → False)) ∧ (el s x).len - y < (el s x).len - x_1 ∧ ((↑x_1 : Int) +
(1 : Int) = (↑y : Int) ∧ ((0 : Nat) = (0 : Nat) ∧ (1 : Nat) = (rtQ s a b x y).length ∧ True) ∧ True) ∧ List.take (1 : Nat) [D.int (↑x : Int)] = rtQ s a b x y ∧ True)) ∧ ((hasT (el (el s x) x_1) b →
False) → ((-9223372036854775808 : Int) ≤ (↑x_1 : Int) + (1 : Int) ∧ (↑x_1 : Int) + (1 : Int) < (9223372036854775808 : Int)) ∧ ((∃ (y : Nat), (y ≤ (el s x).len ∧ rtQ s a b x y = []) ∧ (el s x).len - y
< (el s x).len - x_1 ∧ ((↑x_1 : Int) + (1 : Int) = (↑y : Int) ∧ True ∧ True) ∧ True) ∨ ∃ (y : Nat), (y ≤ (el s x).len ∧ (rtQ s a b x y = [] → False)) ∧ (el s x).len - y < (el s x).len - x_1 ∧ ((↑x_1 :
Int) + (1 : Int) = (↑y : Int) ∧ False ∧ True) ∧ False ∧ True))) ∧ ((hasT (el (el s x) x_1) a → False) → ((-9223372036854775808 : Int) ≤ (↑x_1 : Int) + (1 : Int) ∧ (↑x_1 : Int) + (1 : Int) <
(9223372036854775808 : Int)) ∧ ((∃ (y : Nat), (y ≤ (el s x).len ∧ rtQ s a b x y = []) ∧ (el s x).len - y < (el s x).len - x_1 ∧ ((↑x_1 : Int) + (1 : Int) = (↑y : Int) ∧ True ∧ True) ∧ True) ∨ ∃ (y :
Nat), (y ≤ (el s x).len ∧ (rtQ s a b x y = [] → False)) ∧ (el s x).len - y < (el s x).len - x_1 ∧ ((↑x_1 : Int) + (1 : Int) = (↑y : Int) ∧ False ∧ True) ∧ False ∧ True))) ∧ (((↑x_1 : Int) < (↑(el s
x).len : Int) → False) → ((-9223372036854775808 : Int) ≤ (↑x : Int) + (1 : Int) ∧ (↑x : Int) + (1 : Int) < (9223372036854775808 : Int)) ∧ ((∃ (y : Nat), (y ≤ s.len ∧ rtS s a b y = []) ∧ s.len - y <
s.len - x ∧ ((↑x : Int) + (1 : Int) = (↑y : Int) ∧ True ∧ True) ∧ True) ∨ ∃ (y : Nat), (y ≤ s.len ∧ (rtS s a b y = [] → False)) ∧ s.len - y < s.len - x ∧ ((↑x : Int) + (1 : Int) = (↑y : Int) ∧ False ∧
True) ∧ False ∧ True))) ∧ ∀ (x_1 : Nat), x_1 ≤ (el s x).len ∧ (rtQ s a b x x_1 = [] → False) → (el s x).len - x_1 < LIM ∧ (0 : Int) ≤ (↑x : Int) ∧ (↑x : Int) < (↑s.len : Int) ∧ ((↑x_1 : Int) < (↑(el s
x).len : Int) → (0 : Int) ≤ (↑x : Int) ∧ (↑x : Int) < (↑s.len : Int) ∧ (0 : Int) ≤ (↑x_1 : Int) ∧ (↑x_1 : Int) < (↑(el s x).len : Int) ∧ (el (el s x) x_1).len ≤ (16777216 : Nat) ∧ (hasT (el (el s x)
x_1) a → (0 : Int) ≤ (↑x : Int) ∧ (↑x : Int) < (↑s.len : Int) ∧ (0 : Int) ≤ (↑x_1 : Int) ∧ (↑x_1 : Int) < (↑(el s x).len : Int) ∧ (el (el s x) x_1).len ≤ (16777216 : Nat) ∧ (hasT (el (el s x) x_1) b →
(0 : Nat) + (1 : Nat) ≤ [D.int (↑x : Int)].length ∧ (0 : Nat) + (rtQ s a b x x_1).length ≤ (rtQ s a b x x_1).length ∧ (rtQ s a b x x_1).length + (1 : Nat) ≤ (16777216 : Nat) ∧ ((-9223372036854775808 :
Int) ≤ (↑x_1 : Int) + (1 : Int) ∧ (↑x_1 : Int) + (1 : Int) < (9223372036854775808 : Int)) ∧ ((∃ (y : Nat), (y ≤ (el s x).len ∧ rtQ s a b x y = []) ∧ (el s x).len - y < (el s x).len - x_1 ∧ ((↑x_1 :
Int) + (1 : Int) = (↑y : Int) ∧ False ∧ True) ∧ True) ∨ ∃ (y : Nat), (y ≤ (el s x).len ∧ (rtQ s a b x y = [] → False)) ∧ (el s x).len - y < (el s x).len - x_1 ∧ ((↑x_1 : Int) + (1 : Int) = (↑y : Int)
∧ ((0 : Nat) = (0 : Nat) ∧ (rtQ s a b x x_1).length + (1 : Nat) = (rtQ s a b x y).length ∧ True) ∧ True) ∧ List.take (rtQ s a b x x_1).length (rtQ s a b x x_1) ++ List.take (1 : Nat) [D.int (↑x :
Int)] = rtQ s a b x y ∧ True)) ∧ ((hasT (el (el s x) x_1) b → False) → ((-9223372036854775808 : Int) ≤ (↑x_1 : Int) + (1 : Int) ∧ (↑x_1 : Int) + (1 : Int) < (9223372036854775808 : Int)) ∧ ((∃ (y :
Nat), (y ≤ (el s x).len ∧ rtQ s a b x y = []) ∧ (el s x).len - y < (el s x).len - x_1 ∧ ((↑x_1 : Int) + (1 : Int) = (↑y : Int) ∧ False ∧ True) ∧ True) ∨ ∃ (y : Nat), (y ≤ (el s x).len ∧ (rtQ s a b x y
= [] → False)) ∧ (el s x).len - y < (el s x).len - x_1 ∧ ((↑x_1 : Int) + (1 : Int) = (↑y : Int) ∧ ((0 : Nat) = (0 : Nat) ∧ (rtQ s a b x x_1).length = (rtQ s a b x y).length ∧ True) ∧ True) ∧ rtQ s a b
x x_1 = rtQ s a b x y ∧ True))) ∧ ((hasT (el (el s x) x_1) a → False) → ((-9223372036854775808 : Int) ≤ (↑x_1 : Int) + (1 : Int) ∧ (↑x_1 : Int) + (1 : Int) < (9223372036854775808 : Int)) ∧ ((∃ (y :
Nat), (y ≤ (el s x).len ∧ rtQ s a b x y = []) ∧ (el s x).len - y < (el s x).len - x_1 ∧ ((↑x_1 : Int) + (1 : Int) = (↑y : Int) ∧ False ∧ True) ∧ True) ∨ ∃ (y : Nat), (y ≤ (el s x).len ∧ (rtQ s a b x y
= [] → False)) ∧ (el s x).len - y < (el s x).len - x_1 ∧ ((↑x_1 : Int) + (1 : Int) = (↑y : Int) ∧ ((0 : Nat) = (0 : Nat) ∧ (rtQ s a b x x_1).length = (rtQ s a b x y).length ∧ True) ∧ True) ∧ rtQ s a b
x x_1 = rtQ s a b x y ∧ True))) ∧ (((↑x_1 : Int) < (↑(el s x).len : Int) → False) → ((-9223372036854775808 : Int) ≤ (↑x : Int) + (1 : Int) ∧ (↑x : Int) + (1 : Int) < (9223372036854775808 : Int)) ∧ ((∃
(y : Nat), (y ≤ s.len ∧ rtS s a b y = []) ∧ s.len - y < s.len - x ∧ ((↑x : Int) + (1 : Int) = (↑y : Int) ∧ False ∧ True) ∧ True) ∨ ∃ (y : Nat), (y ≤ s.len ∧ (rtS s a b y = [] → False)) ∧ s.len - y <
s.len - x ∧ ((↑x : Int) + (1 : Int) = (↑y : Int) ∧ ((0 : Nat) = (0 : Nat) ∧ (rtQ s a b x x_1).length = (rtS s a b y).length ∧ True) ∧ True) ∧ rtQ s a b x x_1 = rtS s a b y ∧ True))) ∧ (((↑x : Int) <
(↑s.len : Int) → False) → D.nil = listD (rtS s a b s.len))) ∧ ∀ (x : Nat), x ≤ s.len ∧ (rtS s a b x = [] → False) → s.len - x < LIM ∧ ((↑x : Int) < (↑s.len : Int) → ((∃ (x_1 : Nat), (x_1 ≤ (el s
x).len ∧ rtQ s a b x x_1 = []) ∧ ((0 : Int) = (↑x_1 : Int) ∧ False ∧ True) ∧ True) ∨ ∃ (x_1 : Nat), (x_1 ≤ (el s x).len ∧ (rtQ s a b x x_1 = [] → False)) ∧ ((0 : Int) = (↑x_1 : Int) ∧ ((0 : Nat) = (0
: Nat) ∧ (rtS s a b x).length = (rtQ s a b x x_1).length ∧ True) ∧ True) ∧ rtS s a b x = rtQ s a b x x_1 ∧ True) ∧ (∀ (x_1 : Nat), x_1 ≤ (el s x).len ∧ rtQ s a b x x_1 = [] → (el s x).len - x_1 < LIM
∧ (0 : Int) ≤ (↑x : Int) ∧ (↑x : Int) < (↑s.len : Int) ∧ ((↑x_1 : Int) < (↑(el s x).len : Int) → (0 : Int) ≤ (↑x : Int) ∧ (↑x : Int) < (↑s.len : Int) ∧ (0 : Int) ≤ (↑x_1 : Int) ∧ (↑x_1 : Int) < (↑(el
s x).len : Int) ∧ (el (el s x) x_1).len ≤ (16777216 : Nat) ∧ (hasT (el (el s x) x_1) a → (0 : Int) ≤ (↑x : Int) ∧ (↑x : Int) < (↑s.len : Int) ∧ (0 : Int) ≤ (↑x_1 : Int) ∧ (↑x_1 : Int) < (↑(el s x).len
: Int) ∧ (el (el s x) x_1).len ≤ (16777216 : Nat) ∧ (hasT (el (el s x) x_1) b → (0 : Nat) + (1 : Nat) ≤ [D.int (↑x : Int)].length ∧ (1 : Nat) ≤ (16777216 : Nat) ∧ ((-9223372036854775808 : Int) ≤ (↑x_1
: Int) + (1 : Int) ∧ (↑x_1 : Int) + (1 : Int) < (9223372036854775808 : Int)) ∧ ((∃ (y : Nat), (y ≤ (el s x).len ∧ rtQ s a b x y = []) ∧ (el s x).len - y < (el s x).len - x_1 ∧ ((↑x_1 : Int) + (1 :
Int) = (↑y : Int) ∧ False ∧ True) ∧ True) ∨ ∃ (y : Nat), (y ≤ (el s x).len ∧ (rtQ s a b x y = [] → False)) ∧ (el s x).len - y < (el s x).len - x_1 ∧ ((↑x_1 : Int) + (1 : Int) = (↑y : Int) ∧ ((0 : Nat)
= (0 : Nat) ∧ (1 : Nat) = (rtQ s a b x y).length ∧ True) ∧ True) ∧ List.take (1 : Nat) [D.int (↑x : Int)] = rtQ s a b x y ∧ True)) ∧ ((hasT (el (el s x) x_1) b → False) → ((-9223372036854775808 : Int)
≤ (↑x_1 : Int) + (1 : Int) ∧ (↑x_1 : Int) + (1 : Int) < (9223372036854775808 : Int)) ∧ ((∃ (y : Nat), (y ≤ (el s x).len ∧ rtQ s a b x y = []) ∧ (el s x).len - y < (el s x).len - x_1 ∧ ((↑x_1 : Int) +
(1 : Int) = (↑y : Int) ∧ True ∧ True) ∧ True) ∨ ∃ (y : Nat), (y ≤ (el s x).len ∧ (rtQ s a b x y = [] → False)) ∧ (el s x).len - y < (el s x).len - x_1 ∧ ((↑x_1 : Int) + (1 : Int) = (↑y : Int) ∧ False
∧ True) ∧ rtS s a b x = rtQ s a b x y ∧ True))) ∧ ((hasT (el (el s x) x_1) a → False) → ((-9223372036854775808 : Int) ≤ (↑x_1 : Int) + (1 : Int) ∧ (↑x_1 : Int) + (1 : Int) < (9223372036854775808 :
Int)) ∧ ((∃ (y : Nat), (y ≤ (el s x).len ∧ rtQ s a b x y = []) ∧ (el s x).len - y < (el s x).len - x_1 ∧ ((↑x_1 : Int) + (1 : Int) = (↑y : Int) ∧ True ∧ True) ∧ True) ∨ ∃ (y : Nat), (y ≤ (el s x).len
∧ (rtQ s a b x y = [] → False)) ∧ (el s x).len - y < (el s x).len - x_1 ∧ ((↑x_1 : Int) + (1 : Int) = (↑y : Int) ∧ False ∧ True) ∧ rtS s a b x = rtQ s a b x y ∧ True))) ∧ (((↑x_1 : Int) < (↑(el s
x).len : Int) → False) → ((-9223372036854775808 : Int) ≤ (↑x : Int) + (1 : Int) ∧ (↑x : Int) + (1 : Int) < (9223372036854775808 : Int)) ∧ ((∃ (y : Nat), (y ≤ s.len ∧ rtS s a b y = []) ∧ s.len - y <
s.len - x ∧ ((↑x : Int) + (1 : Int) = (↑y : Int) ∧ True ∧ True) ∧ True) ∨ ∃ (y : Nat), (y ≤ s.len ∧ (rtS s a b y = [] → False)) ∧ s.len - y < s.len - x ∧ ((↑x : Int) + (1 : Int) = (↑y : Int) ∧ False ∧
True) ∧ rtS s a b x = rtS s a b y ∧ True))) ∧ ∀ (x_1 : Nat), x_1 ≤ (el s x).len ∧ (rtQ s a b x x_1 = [] → False) → (el s x).len - x_1 < LIM ∧ (0 : Int) ≤ (↑x : Int) ∧ (↑x : Int) < (↑s.len : Int) ∧
((↑x_1 : Int) < (↑(el s x).len : Int) → (0 : Int) ≤ (↑x : Int) ∧ (↑x : Int) < (↑s.len : Int) ∧ (0 : Int) ≤ (↑x_1 : Int) ∧ (↑x_1 : Int) < (↑(el s x).len : Int) ∧ (el (el s x) x_1).len ≤ (16777216 :
Nat) ∧ (hasT (el (el s x) x_1) a → (0 : Int) ≤ (↑x : Int) ∧ (↑x : Int) < (↑s.len : Int) ∧ (0 : Int) ≤ (↑x_1 : Int) ∧ (↑x_1 : Int) < (↑(el s x).len : Int) ∧ (el (el s x) x_1).len ≤ (16777216 : Nat) ∧
(hasT (el (el s x) x_1) b → (0 : Nat) + (1 : Nat) ≤ [D.int (↑x : Int)].length ∧ (0 : Nat) + (rtQ s a b x x_1).length ≤ (rtQ s a b x x_1).length ∧ (rtQ s a b x x_1).length + (1 : Nat) ≤ (16777216 :
Nat) ∧ ((-9223372036854775808 : Int) ≤ (↑x_1 : Int) + (1 : Int) ∧ (↑x_1 : Int) + (1 : Int) < (9223372036854775808 : Int)) ∧ ((∃ (y : Nat), (y ≤ (el s x).len ∧ rtQ s a b x y = []) ∧ (el s x).len - y <
(el s x).len - x_1 ∧ False) ∨ ∃ (y : Nat), (y ≤ (el s x).len ∧ (rtQ s a b x y = [] → False)) ∧ (el s x).len - y < (el s x).len - x_1 ∧ ((↑x_1 : Int) + (1 : Int) = (↑y : Int) ∧ ((0 : Nat) = (0 : Nat) ∧
(rtQ s a b x x_1).length + (1 : Nat) = (rtQ s a b x y).length ∧ True) ∧ True) ∧ List.take (rtQ s a b x x_1).length (rtQ s a b x x_1) ++ List.take (1 : Nat) [D.int (↑x : Int)] = rtQ s a b x y ∧ True))
∧ ((hasT (el (el s x) x_1) b → False) → ((-9223372036854775808 : Int) ≤ (↑x_1 : Int) + (1 : Int) ∧ (↑x_1 : Int) + (1 : Int) < (9223372036854775808 : Int)) ∧ ((∃ (y : Nat), (y ≤ (el s x).len ∧ rtQ s a
b x y = []) ∧ (el s x).len - y < (el s x).len - x_1 ∧ False) ∨ ∃ (y : Nat), (y ≤ (el s x).len ∧ (rtQ s a b x y = [] → False)) ∧ (el s x).len - y < (el s x).len - x_1 ∧ ((↑x_1 : Int) + (1 : Int) = (↑y
: Int) ∧ ((0 : Nat) = (0 : Nat) ∧ (rtQ s a b x x_1).length = (rtQ s a b x y).length ∧ True) ∧ True) ∧ rtQ s a b x x_1 = rtQ s a b x y ∧ True))) ∧ ((hasT (el (el s x) x_1) a → False) →
((-9223372036854775808 : Int) ≤ (↑x_1 : Int) + (1 : Int) ∧ (↑x_1 : Int) + (1 : Int) < (9223372036854775808 : Int)) ∧ ((∃ (y : Nat), (y ≤ (el s x).len ∧ rtQ s a b x y = []) ∧ (el s x).len - y < (el s
x).len - x_1 ∧ False) ∨ ∃ (y : Nat), (y ≤ (el s x).len ∧ (rtQ s a b x y = [] → False)) ∧ (el s x).len - y < (el s x).len - x_1 ∧ ((↑x_1 : Int) + (1 : Int) = (↑y : Int) ∧ ((0 : Nat) = (0 : Nat) ∧ (rtQ
s a b x x_1).length = (rtQ s a b x y).length ∧ True) ∧ True) ∧ rtQ s a b x x_1 = rtQ s a b x y ∧ True))) ∧ (((↑x_1 : Int) < (↑(el s x).len : Int) → False) → ((-9223372036854775808 : Int) ≤ (↑x : Int)
+ (1 : Int) ∧ (↑x : Int) + (1 : Int) < (9223372036854775808 : Int)) ∧ ((∃ (y : Nat), (y ≤ s.len ∧ rtS s a b y = []) ∧ s.len - y < s.len - x ∧ ((↑x : Int) + (1 : Int) = (↑y : Int) ∧ False ∧ True) ∧
True) ∨ ∃ (y : Nat), (y ≤ s.len ∧ (rtS s a b y = [] → False)) ∧ s.len - y < s.len - x ∧ ((↑x : Int) + (1 : Int) = (↑y : Int) ∧ ((0 : Nat) = (0 : Nat) ∧ (rtQ s a b x x_1).length = (rtS s a b y).length
∧ True) ∧ True) ∧ rtQ s a b x x_1 = rtS s a b y ∧ True))) ∧ (((↑x : Int) < (↑s.len : Int) → False) → (0 : Nat) + (rtS s a b x).length ≤ (rtS s a b x).length ∧ D.list (List.take (rtS s a b x).length
(rtS s a b x)) = listD (rtS s a b s.len))) := by intros; kernel_rfl
theorem rtE_len (ev : D) (a b : Int) (i : Nat) : ∀ y, (rtE ev a b i y).length ≤ y
 | 0 => Nat.le_refl _
 | y + 1 => by
  unfold rtE
  have := rtE_len ev a b i y
  split
  ·rw [List.length_append]; show _ + 1 ≤ _; omega
  ·omega
theorem rtS_len {s : D} (h : bigP s) (a b : Int) : ∀ x, x ≤ s.len → (rtS s a b x).length ≤ x * 100
 | 0, _ => Nat.le_refl _
 | x + 1, hx => by
  unfold rtS
  have h1 := rtS_len h a b x (by omega)
  have h2 := rtE_len (el s x) a b x (el s x).len
  have h3 := (h.out.2 x (by omega)).out.1
  rw [List.length_append]; omega
theorem rtQ_zero (s : D) (a b : Int) (x : Nat) : rtQ s a b x 0 = rtS s a b x := List.append_nil _
theorem rtQ_yes {s : D} {a b : Int} {x y : Nat} (h : hasT (el (el s x) y) a ∧ hasT (el (el s x) y) b) : rtQ s a b x (y + 1) = rtQ s a b x y ++ [.int (x : Nat)] := by
 have e : rtE (el s x) a b x (y + 1) = rtE (el s x) a b x y ++ [.int (x : Nat)] := if_pos h
 unfold rtQ
 rw [e, ← List.append_assoc]
theorem rtQ_no {s : D} {a b : Int} {x y : Nat} (h : ¬ (hasT (el (el s x) y) a ∧ hasT (el (el s x) y) b)) : rtQ s a b x (y + 1) = rtQ s a b x y := by
 have e : rtE (el s x) a b x (y + 1) = rtE (el s x) a b x y := if_neg h
 unfold rtQ
 rw [e]
theorem rtS_succ (s : D) (a b : Int) (x : Nat) : rtS s a b (x + 1) = rtQ s a b x (el s x).len := rfl
theorem ne_app {l : List D} {d : D} : l ++ [d] ≠ [] := fun k => by
 have := congrArg List.length k
 rw [List.length_append] at this
 exact absurd this (Nat.succ_ne_zero _)
theorem s17r (s : D) (a b : Int) (h : bigP s) : symFun (ctx re1 reAnn) 3 53 [.dat 25 s, .int .i64 a, .int .i64 b] (.dat 22 (listD (rtS s a b s.len))) := by
 rw [me17]
 have hl := h.out.1
 have hE : ∀ x, x < s.len → (el s x).len ≤ 100 := fun x hx => (h.out.2 x hx).out.1
 have hT : ∀ x y, x < s.len → y < (el s x).len → (el (el s x) y).len ≤ 16777216 := fun x y hx hy => Nat.le_trans ((h.out.2 x hx).out.2 y hy) (by decide)
 have hQ : ∀ x y, x < s.len → y ≤ (el s x).len → (rtQ s a b x y).length + 1 ≤ 16777216 := fun x y hx hy => by
  have h1 := rtS_len h a b x (by omega)
  have h2 := rtE_len (el s x) a b x y
  have h3 := hE x hx
  unfold rtQ
  rw [List.length_append]; omega
 refine ⟨.inl ⟨0, ⟨Nat.zero_le _, rfl⟩, ⟨rfl, trivial, trivial⟩, trivial⟩, fun x ⟨hx, h0⟩ => ⟨limS (by omega), fun hlt => ?_, fun hge => ?_⟩, fun x ⟨hx, h0⟩ => ⟨limS (by omega), fun hlt => ?_, fun hge => ?_⟩⟩
 ·have hx' : x < s.len := by omega
  have he := hE x hx'
  refine ⟨.inl ⟨0, ⟨Nat.zero_le _, by rw [rtQ_zero]; exact h0⟩, ⟨rfl, trivial, trivial⟩, trivial⟩, fun y ⟨hy, g0⟩ => ⟨limS (by omega), by omega, hlt, fun hlt2 => ?_, fun hge2 => ?_⟩, fun y ⟨hy, g0⟩ => ⟨limS (by omega), by omega, hlt, fun hlt2 => ?_, fun hge2 => ?_⟩⟩
  ·have hy' : y < (el s x).len := by omega
   have ht := hT x y hx' hy'
   have no : ¬ (hasT (el (el s x) y) a ∧ hasT (el (el s x) y) b) → rtQ s a b x (y + 1) = [] := fun k => by rw [rtQ_no k]; exact g0
   refine ⟨by omega, hlt, by omega, hlt2, ht, fun ha => ⟨by omega, hlt, by omega, hlt2, ht, fun hb => ?_, fun hb => ⟨⟨by omega, by omega⟩, .inl ⟨y + 1, ⟨by omega, no fun k => hb k.2⟩, by omega, ⟨by omega, trivial, trivial⟩, trivial⟩⟩⟩, fun ha => ⟨⟨by omega, by omega⟩, .inl ⟨y + 1, ⟨by omega, no fun k => ha k.1⟩, by omega, ⟨by omega, trivial, trivial⟩, trivial⟩⟩⟩
   have e : rtQ s a b x (y + 1) = [.int (x : Nat)] := by rw [rtQ_yes ⟨ha, hb⟩, g0]; rfl
   exact ⟨Nat.le_refl _, by decide, ⟨by omega, by omega⟩, .inr ⟨y + 1, ⟨by omega, by rw [e]; exact List.cons_ne_nil _ _⟩, by omega, ⟨by omega, ⟨rfl, by rw [e]; rfl, trivial⟩, trivial⟩, by rw [e]; rfl, trivial⟩⟩
  ·have ey : y = (el s x).len := by have := not_of hge2; omega
   exact ⟨⟨by omega, by omega⟩, .inl ⟨x + 1, ⟨by omega, by rw [rtS_succ, ← ey]; exact g0⟩, by omega, ⟨by omega, trivial, trivial⟩, trivial⟩⟩
  ·have hy' : y < (el s x).len := by omega
   have ht := hT x y hx' hy'
   have hq := hQ x y hx' hy
   have no : ∀ k : ¬ (hasT (el (el s x) y) a ∧ hasT (el (el s x) y) b), rtQ s a b x (y + 1) = rtQ s a b x y := fun k => rtQ_no k
   refine ⟨by omega, hlt, by omega, hlt2, ht, fun ha => ⟨by omega, hlt, by omega, hlt2, ht, fun hb => ?_, fun hb => ?_⟩, fun ha => ?_⟩
   ·have e := rtQ_yes (s := s) (x := x) (y := y) ⟨ha, hb⟩
    exact ⟨Nat.le_refl _, by omega, hq, ⟨by omega, by omega⟩, .inr ⟨y + 1, ⟨by omega, by rw [e]; exact ne_app⟩, by omega, ⟨by omega, ⟨rfl, by rw [e, List.length_append]; rfl, trivial⟩, trivial⟩, by rw [e, List.take_of_length_le (Nat.le_refl _)]; rfl, trivial⟩⟩
   ·have e := no fun k => hb k.2
    exact ⟨⟨by omega, by omega⟩, .inr ⟨y + 1, ⟨by omega, by rw [e]; exact g0⟩, by omega, ⟨by omega, ⟨rfl, by rw [e], trivial⟩, trivial⟩, e.symm, trivial⟩⟩
   ·have e := no fun k => ha k.1
    exact ⟨⟨by omega, by omega⟩, .inr ⟨y + 1, ⟨by omega, by rw [e]; exact g0⟩, by omega, ⟨by omega, ⟨rfl, by rw [e], trivial⟩, trivial⟩, e.symm, trivial⟩⟩
  ·have ey : y = (el s x).len := by have := not_of hge2; omega
   have e : rtS s a b (x + 1) = rtQ s a b x y := by rw [rtS_succ, ey]
   exact ⟨⟨by omega, by omega⟩, .inr ⟨x + 1, ⟨by omega, by rw [e]; exact g0⟩, by omega, ⟨by omega, ⟨rfl, by rw [e], trivial⟩, trivial⟩, e.symm, trivial⟩⟩
 ·rw [show x = s.len by have := not_of hge; omega] at h0
  rw [h0]; rfl
 ·have hx' : x < s.len := by omega
  have he := hE x hx'
  refine ⟨.inr ⟨0, ⟨Nat.zero_le _, by rw [rtQ_zero]; exact h0⟩, ⟨rfl, ⟨rfl, by rw [rtQ_zero], trivial⟩, trivial⟩, (rtQ_zero s a b x).symm, trivial⟩, fun y ⟨hy, g0⟩ => ?_, fun y ⟨hy, g0⟩ => ⟨limS (by omega), by omega, hlt, fun hlt2 => ?_, fun hge2 => ?_⟩⟩
  ·exact (h0 (List.append_eq_nil_iff.1 g0).1).elim
  ·have hy' : y < (el s x).len := by omega
   have ht := hT x y hx' hy'
   have hq := hQ x y hx' hy
   have no : ∀ k : ¬ (hasT (el (el s x) y) a ∧ hasT (el (el s x) y) b), rtQ s a b x (y + 1) = rtQ s a b x y := fun k => rtQ_no k
   refine ⟨by omega, hlt, by omega, hlt2, ht, fun ha => ⟨by omega, hlt, by omega, hlt2, ht, fun hb => ?_, fun hb => ?_⟩, fun ha => ?_⟩
   ·have e := rtQ_yes (s := s) (x := x) (y := y) ⟨ha, hb⟩
    exact ⟨Nat.le_refl _, by omega, hq, ⟨by omega, by omega⟩, .inr ⟨y + 1, ⟨by omega, by rw [e]; exact ne_app⟩, by omega, ⟨by omega, ⟨rfl, by rw [e, List.length_append]; rfl, trivial⟩, trivial⟩, by rw [e, List.take_of_length_le (Nat.le_refl _)]; rfl, trivial⟩⟩
   ·have e := no fun k => hb k.2
    exact ⟨⟨by omega, by omega⟩, .inr ⟨y + 1, ⟨by omega, by rw [e]; exact g0⟩, by omega, ⟨by omega, ⟨rfl, by rw [e], trivial⟩, trivial⟩, e.symm, trivial⟩⟩
   ·have e := no fun k => ha k.1
    exact ⟨⟨by omega, by omega⟩, .inr ⟨y + 1, ⟨by omega, by rw [e]; exact g0⟩, by omega, ⟨by omega, ⟨rfl, by rw [e], trivial⟩, trivial⟩, e.symm, trivial⟩⟩
  ·have ey : y = (el s x).len := by have := not_of hge2; omega
   have e : rtS s a b (x + 1) = rtQ s a b x y := by rw [rtS_succ, ey]
   exact ⟨⟨by omega, by omega⟩, .inr ⟨x + 1, ⟨by omega, by rw [e]; exact g0⟩, by omega, ⟨by omega, ⟨rfl, by rw [e], trivial⟩, trivial⟩, e.symm, trivial⟩⟩
 ·rw [show x = s.len by have := not_of hge; omega]
  refine ⟨by omega, ?_⟩
  rw [List.take_of_length_le (Nat.le_refl _)]
  rw [show x = s.len by have := not_of hge; omega] at h0
  cases hc : rtS s a b s.len with
  | nil => exact (h0 hc).elim
  | cons => rfl
end Go.Ev

end

section
open Go.Proofs
namespace Go.Ev
set_option maxRecDepth 100000
set_option maxHeartbeats 4000000
theorem tab_cnt {n : Int} {s : D} (h : goodS n s) {i j : Nat} (hi : i < s.len) (hj : j < (el s i).len) {v : Nat} (hv : (v : Int) < n) : 0 ≤ cntF (el (el s i) j).asList v ∧ cntF (el (el s i) j).asList v ≤ 1 :=
 ⟨(cntF_rng _ _).1, Int.le_trans (flat_cnt (el s i) v _ hj) (good_cnt h hi hv)⟩
theorem tab_mt {n : Int} {s : D} (h : goodS n s) {i j : Nat} (hi : i < s.len) (hj : j < (el s i).len) {a b : Nat} (hab : a ≠ b) (ha : (a : Int) < n) (hb : (b : Int) < n) :
  (hasT (el (el s i) j) a ∧ hasT (el (el s i) j) b → mtN (el (el s i) j) (el (el s i) j).len a b = 1) ∧ (¬ (hasT (el (el s i) j) a ∧ hasT (el (el s i) j) b) → mtN (el (el s i) j) (el (el s i) j).len a b = 0) := by
 have h1 := tab_cnt h hi hj ha
 have h2 := tab_cnt h hi hj hb
 rw [mtN_cnt hab _ (Nat.le_refl _), show List.take (el (el s i) j).len (el (el s i) j).asList = (el (el s i) j).asList from List.take_of_length_le (Nat.le_refl _)]
 rw [hasT_cnt, hasT_cnt]
 refine ⟨fun ⟨k1, k2⟩ => ?_, fun k => ?_⟩
 ·rw [show cntF (el (el s i) j).asList (a : Int) = 1 by omega, show cntF (el (el s i) j).asList (b : Int) = 1 by omega]; rfl
 ·by_cases k1 : 0 < cntF (el (el s i) j).asList (a : Int)
  ·rw [show cntF (el (el s i) j).asList (b : Int) = 0 by have : ¬ 0 < cntF (el (el s i) j).asList (b : Int) := fun q => k ⟨k1, q⟩; omega, Int.mul_zero]
  ·rw [show cntF (el (el s i) j).asList (a : Int) = 0 by omega, Int.zero_mul]
theorem rtE_mt {n : Int} {s : D} (h : goodS n s) {i : Nat} (hi : i < s.len) {a b : Nat} (hab : a ≠ b) (ha : (a : Int) < n) (hb : (b : Int) < n) : ∀ j, j ≤ (el s i).len → ((rtE (el s i) a b i j).length : Int) = mtE (el s i) j a b
 | 0, _ => rfl
 | j + 1, hj => by
  have ih := rtE_mt h hi hab ha hb j (by omega)
  have ht := tab_mt h hi (show j < (el s i).len by omega) hab ha hb
  show _ = mtE (el s i) j a b + mtN _ _ a b
  by_cases k : hasT (el (el s i) j) a ∧ hasT (el (el s i) j) b
  ·rw [show rtE (el s i) a b i (j + 1) = _ from if_pos k, ht.1 k, List.length_append, ← ih]; rfl
  ·rw [show rtE (el s i) a b i (j + 1) = _ from if_neg k, ht.2 k, ← ih, Int.add_zero]
theorem rtE_all (ev : D) (a b : Int) (i : Nat) : ∀ j, ∀ d, d ∈ rtE ev a b i j → d = .int (i : Nat)
 | 0, d, h => by cases h
 | j + 1, d, h => by
  by_cases k : hasT (el ev j) a ∧ hasT (el ev j) b
  ·rw [show rtE ev a b i (j + 1) = _ from if_pos k] at h
   rcases List.mem_append.1 h with h | h
   ·exact rtE_all ev a b i j d h
   ·exact List.mem_singleton.1 h
  ·rw [show rtE ev a b i (j + 1) = _ from if_neg k] at h
   exact rtE_all ev a b i j d h
theorem rtE_none {ev : D} {a b : Int} (i : Nat) : ∀ j, j ≤ ev.len → ¬ bothE ev a b → rtE ev a b i j = []
 | 0, _, _ => rfl
 | j + 1, hj, h => by
  rw [show rtE ev a b i (j + 1) = _ from if_neg fun k => h ⟨j, by omega, k.1, k.2⟩]
  exact rtE_none i j (by omega) h
theorem has_in {n : Int} {s : D} (h : goodS n s) {i j : Nat} (hi : i < s.len) (hj : j < (el s i).len) {a : Int} (k : hasT (el (el s i) j) a) : 0 ≤ a ∧ a < n := by
 obtain ⟨p, hp, rfl⟩ := k.out
 exact (good_tab h hi hj).rng p hp
theorem rt_tog {n : Int} {s : D} (h : goodS n s) {a b : Int} (hab : a ≠ b) : ∀ x, x ≤ s.len → rtS s a b x = togL s a b x
 | 0, _ => rfl
 | x + 1, hx => by
  have ih := rt_tog h hab x (by omega)
  show rtS s a b x ++ rtE (el s x) a b x (el s x).len = _
  by_cases k : bothE (el s x) a b
  ·rw [show togL s a b (x + 1) = _ from if_pos k, ih]
   obtain ⟨j, hj, k1⟩ := k.out
   have ra := has_in h (show x < s.len by omega) hj k1.l
   have rb := has_in h (show x < s.len by omega) hj k1.r
   obtain ⟨A, rfl⟩ : ∃ A : Nat, a = A := ⟨a.toNat, by omega⟩
   obtain ⟨B, rfl⟩ : ∃ B : Nat, b = B := ⟨b.toNat, by omega⟩
   have hl := rtE_mt h (show x < s.len by omega) (a := A) (b := B) (fun e => hab (by rw [e])) ra.2 rb.2 _ (Nat.le_refl _)
   rcases mtE_good h (show x < s.len by omega) (a := A) (b := B) (fun e => hab (by rw [e])) ra.2 rb.2 with ⟨m1, _⟩ | ⟨_, m2⟩
   ·rw [m1] at hl
    have : rtE (el s x) A B x (el s x).len = List.replicate 1 (.int (x : Nat)) := List.eq_replicate_iff.2 ⟨by omega, rtE_all _ _ _ _ _⟩
    rw [this]; rfl
   ·exact (m2 k).elim
  ·rw [show togL s a b (x + 1) = _ from if_neg k, ih, rtE_none x _ (Nat.le_refl _) k, List.append_nil]
end Go.Ev

end
