/-
  Part of the engine that the claim is proved with: it states nothing of the document by itself.
-/
import Derived.Test.YtcnjngiaoomecaaDoorCoreG25

section
open Go.Proofs
namespace Go.Ev
set_option maxRecDepth 100000
set_option maxHeartbeats 4000000
theorem vc70 : ∀ (Q T : D) (x : Int), symFun (ctx cc0 pwAnn) 4 (70 : FuncId) [V.dat (51 : TypeId) Q, V.int IntKind.i64 x, V.dat (22 : TypeId) T] (V.int IntKind.i64 (moP (nthD Q.asList x.toNat).asList T.asList T.len)) =
(0 ≤ x ∧ x < (Q.len : Int) ∧ (∃ (x_1 : Nat), x_1.le T.len ∧ (0 = (x_1 : Int) ∧ 0 = moP (el Q x.toNat).asList T.asList x_1 ∧ True) ∧ True) ∧ ∀ (x_1 : Nat), x_1.le T.len → T.len - x_1 < LIM ∧ ((x_1 : Int) < (T.len : Int) →
0 ≤ (x_1 : Int) ∧ (x_1 : Int) < (T.len : Int) ∧ 0 ≤ nAt T x_1 ∧ nAt T x_1 < (↑(el Q x.toNat).len : Int) ∧ fits64 ((x_1 : Int) + 1) ∧ ∃ (y : Nat), y.le T.len ∧ T.len - y < T.len - x_1 ∧ ((x_1 : Int) + 1 = (y : Int) ∧ max
(moP (el Q x.toNat).asList T.asList x_1) (nAt (el Q x.toNat) (nAt T x_1).toNat) = moP (el Q x.toNat).asList T.asList y ∧ True) ∧ True) ∧ (((x_1 : Int) < (T.len : Int) → False) → moP (el Q x.toNat).asList T.asList x_1 =
moP (el Q x.toNat).asList T.asList T.len)) := by intros; kernel_rfl
theorem vc71 : ∀ (Q T : D) (x : Int), symFun (ctx cc0 pwAnn) 4 (71 : FuncId) [V.dat (51 : TypeId) Q, V.int IntKind.i64 x, V.dat (22 : TypeId) T] (V.int IntKind.i64 (suP (nthD Q.asList x.toNat).asList T.asList T.len)) =
(0 ≤ x ∧ x < (Q.len : Int) ∧ (∃ (x_1 : Nat), x_1.le T.len ∧ (0 = (x_1 : Int) ∧ 0 = suP (el Q x.toNat).asList T.asList x_1 ∧ True) ∧ True) ∧ ∀ (x_1 : Nat), x_1.le T.len → T.len - x_1 < LIM ∧ ((x_1 : Int) < (T.len : Int) →
0 ≤ (x_1 : Int) ∧ (x_1 : Int) < (T.len : Int) ∧ 0 ≤ nAt T x_1 ∧ nAt T x_1 < (↑(el Q x.toNat).len : Int) ∧ fits64 (suP (el Q x.toNat).asList T.asList x_1 + nAt (el Q x.toNat) (nAt T x_1).toNat) ∧ fits64 ((x_1 : Int) + 1)
∧ ∃ (y : Nat), y.le T.len ∧ T.len - y < T.len - x_1 ∧ ((x_1 : Int) + 1 = (y : Int) ∧ suP (el Q x.toNat).asList T.asList x_1 + nAt (el Q x.toNat) (nAt T x_1).toNat = suP (el Q x.toNat).asList T.asList y ∧ True) ∧ True) ∧
(((x_1 : Int) < (T.len : Int) → False) → suP (el Q x.toNat).asList T.asList x_1 = suP (el Q x.toNat).asList T.asList T.len)) := by intros; kernel_rfl
theorem vc72 : ∀ (d : D), symFun (ctx cc0 orAnn) 4 (72 : FuncId) [V.dat (22 : TypeId) d] (V.int IntKind.i64 (orZ (nAt d 0) (nAt d 1))) = ((∃ (x : Nat), (x ≤ 2 ∧ d.len = 2 ∧ ∀ (i : Nat), i < x → nAt d i = 0) ∧ (0 = (x :
Int) ∧ True) ∧ True) ∧ ∀ (x : Nat), (x ≤ 2 ∧ d.len = 2 ∧ ∀ (i : Nat), i < x → nAt d i = 0) → 2 - x < LIM ∧ ((x : Int) < (d.len : Int) → 0 ≤ (x : Int) ∧ (x : Int) < (d.len : Int) ∧ ((nAt d x = 0 → False) → nAt d x = orZ
(nAt d 0) (nAt d 1)) ∧ (((nAt d x = 0 → False) → False) → fits64 ((x : Int) + 1) ∧ ∃ (y : Nat), (y ≤ 2 ∧ d.len = 2 ∧ ∀ (i : Nat), i < y → nAt d i = 0) ∧ 2 - y < 2 - x ∧ ((x : Int) + 1 = (y : Int) ∧ True) ∧ True)) ∧ (((x
: Int) < (d.len : Int) → False) → 0 = orZ (nAt d 0) (nAt d 1))) := by intros; kernel_rfl
theorem vc73 : ∀ (a b : Int), symFun (ctx cc0 orAnn) 4 (73 : FuncId) [V.int IntKind.i64 a, V.int IntKind.i64 b] (V.int IntKind.i64 (cmpZ a b)) = (((a = a → False) → ((b = b → False) → 0 = cmpZ a b) ∧ (((b = b → False) →
False) → (-1) = cmpZ a b)) ∧ (((a = a → False) → False) → ((b = b → False) → 1 = cmpZ a b) ∧ (((b = b → False) → False) → (a < b → (-1) = cmpZ a b) ∧ ((a < b → False) → (b < a → 1 = cmpZ a b) ∧ ((b < a → False) → 0 =
cmpZ a b))))) := by intros; kernel_rfl
theorem vc51 : ∀ (Q st T : D), symFun (ctx pn1 pwAnn) 4 (51 : FuncId) [V.dat (51 : TypeId) Q, V.dat (86 : TypeId) st, V.dat (22 : TypeId) T] (V.int IntKind.i64 (nxB Q.asList st.asList T.asList Q.len)) = ((∃ (x : Nat),
x.le Q.len ∧ (0 = (x : Int) ∧ (-1) = nxB Q.asList st.asList T.asList x ∧ 0 = nxL Q.asList st.asList T.asList x ∧ 0 = nxS Q.asList st.asList T.asList x ∧ True) ∧ True) ∧ ∀ (x : Nat), x.le Q.len → Q.len - x < LIM ∧ ((x :
Int) < (Q.len : Int) → 0 ≤ (x : Int) ∧ (x : Int) < (st.len : Int) ∧ ((el st x).asProp → fits64 ((x : Int) + 1) ∧ ∃ (y : Nat), y.le Q.len ∧ Q.len - y < Q.len - x ∧ ((x : Int) + 1 = (y : Int) ∧ nxB Q.asList st.asList
T.asList x = nxB Q.asList st.asList T.asList y ∧ nxL Q.asList st.asList T.asList x = nxL Q.asList st.asList T.asList y ∧ nxS Q.asList st.asList T.asList x = nxS Q.asList st.asList T.asList y ∧ True) ∧ True) ∧ (((el st
x).asProp → False) → ((∃ (st : D), nxO Q st T) ∧ 0 ≤ (x : Int) ∧ (x : Int) < (Q.len : Int)) ∧ ((∃ (st : D), nxO Q st T) ∧ 0 ≤ (x : Int) ∧ (x : Int) < (Q.len : Int)) ∧ ((nxB Q.asList st.asList T.asList x < 0 → False) →
True ∧ True ∧ 0 + 2 ≤ [D.int (cmpZ (moP (el Q x).asList T.asList T.len) (nxL Q.asList st.asList T.asList x)), D.int (cmpZ (suP (el Q x).asList T.asList T.len) (nxS Q.asList st.asList T.asList x))].length ∧ (List.take 2
[D.int (cmpZ (moP (el Q x).asList T.asList T.len) (nxL Q.asList st.asList T.asList x)), D.int (cmpZ (suP (el Q x).asList T.asList T.len) (nxS Q.asList st.asList T.asList x))]).length = 2 ∧ (orZ (nAt (D.list (List.take 2
[D.int (cmpZ (moP (el Q x).asList T.asList T.len) (nxL Q.asList st.asList T.asList x)), D.int (cmpZ (suP (el Q x).asList T.asList T.len) (nxS Q.asList st.asList T.asList x))])) 0) (nAt (D.list (List.take 2 [D.int (cmpZ
(moP (el Q x).asList T.asList T.len) (nxL Q.asList st.asList T.asList x)), D.int (cmpZ (suP (el Q x).asList T.asList T.len) (nxS Q.asList st.asList T.asList x))])) 1) < 0 → fits64 ((x : Int) + 1) ∧ ∃ (y : Nat), y.le
Q.len ∧ Q.len - y < Q.len - x ∧ ((x : Int) + 1 = (y : Int) ∧ (x : Int) = nxB Q.asList st.asList T.asList y ∧ moP (el Q x).asList T.asList T.len = nxL Q.asList st.asList T.asList y ∧ suP (el Q x).asList T.asList T.len =
nxS Q.asList st.asList T.asList y ∧ True) ∧ True) ∧ ((orZ (nAt (D.list (List.take 2 [D.int (cmpZ (moP (el Q x).asList T.asList T.len) (nxL Q.asList st.asList T.asList x)), D.int (cmpZ (suP (el Q x).asList T.asList T.len)
(nxS Q.asList st.asList T.asList x))])) 0) (nAt (D.list (List.take 2 [D.int (cmpZ (moP (el Q x).asList T.asList T.len) (nxL Q.asList st.asList T.asList x)), D.int (cmpZ (suP (el Q x).asList T.asList T.len) (nxS Q.asList
st.asList T.asList x))])) 1) < 0 → False) → fits64 ((x : Int) + 1) ∧ ∃ (y : Nat), y.le Q.len ∧ Q.len - y < Q.len - x ∧ ((x : Int) + 1 = (y : Int) ∧ nxB Q.asList st.asList T.asList x = nxB Q.asList st.asList T.asList y ∧
nxL Q.asList st.asList T.asList x = nxL Q.asList st.asList T.asList y ∧ nxS Q.asList st.asList T.asList x = nxS Q.asList st.asList T.asList y ∧ True) ∧ True)) ∧ (nxB Q.asList st.asList T.asList x < 0 → fits64 ((x : Int)
+ 1) ∧ ∃ (y : Nat), y.le Q.len ∧ Q.len - y < Q.len - x ∧ ((x : Int) + 1 = (y : Int) ∧ (x : Int) = nxB Q.asList st.asList T.asList y ∧ moP (el Q x).asList T.asList T.len = nxL Q.asList st.asList T.asList y ∧ suP (el Q
x).asList T.asList T.len = nxS Q.asList st.asList T.asList y ∧ True) ∧ True))) ∧ (((x : Int) < (Q.len : Int) → False) → nxB Q.asList st.asList T.asList x = nxB Q.asList st.asList T.asList Q.len)) := by intros; kernel_rfl
theorem lim16 {n : Nat} (h : n ≤ 16777216) : n < LIM := by unfold LIM; omega
theorem s70 (Q T : D) (x : Int) (h : ∃ st, nxO Q st T) (hx0 : 0 ≤ x) (hx1 : x < Q.len) : symFun (ctx cc0 pwAnn) 4 70 [.dat 51 Q, .int .i64 x, .dat 22 T] (.int .i64 (moP (nthD Q.asList x.toNat).asList T.asList T.len)) := by
 obtain ⟨st, h⟩ := h
 have hr := h.row x.toNat (by omega)
 have hq := h.q64
 have ht := h.tl
 rw [vc70]
 refine ⟨hx0, hx1, ⟨0, Nat.zero_le _, ⟨rfl, rfl, trivial⟩, trivial⟩, fun k (hk : k ≤ T.len) => ⟨lim16 (by omega), fun hlt => ?_, fun hge => by have := not_of hge; rw [show k = T.len by omega]⟩⟩
 have hb := h.tr k (by omega)
 exact ⟨by omega, hlt, hb.1, by rw [hr]; exact hb.2, ⟨by omega, by omega⟩, k + 1, (by omega : k + 1 ≤ T.len), by omega, ⟨by omega, rfl, trivial⟩, trivial⟩
theorem su_rng {Q st T : D} (h : nxO Q st T) {x : Nat} (hx : x < Q.len) : ∀ k, k ≤ T.len → 0 ≤ suP (el Q x).asList T.asList k ∧ suP (el Q x).asList T.asList k ≤ 1000000000000 * (k : Nat)
 | 0, _ => ⟨Int.le_refl _, Int.le_refl _⟩
 | k + 1, hk => by
  have h1 := su_rng h hx k (by omega)
  have h2 := h.tr k (by omega)
  have h3 := h.rng x (nAt T k).toNat hx (by omega)
  show 0 ≤ suP _ _ k + nAt (el Q x) (nAt T k).toNat ∧ suP _ _ k + nAt (el Q x) (nAt T k).toNat ≤ _
  omega
theorem s71 (Q T : D) (x : Int) (h : ∃ st, nxO Q st T) (hx0 : 0 ≤ x) (hx1 : x < Q.len) : symFun (ctx cc0 pwAnn) 4 71 [.dat 51 Q, .int .i64 x, .dat 22 T] (.int .i64 (suP (nthD Q.asList x.toNat).asList T.asList T.len)) := by
 obtain ⟨st, h⟩ := h
 have hr := h.row x.toNat (by omega)
 have hq := h.q64
 have ht := h.tl
 rw [vc71]
 refine ⟨hx0, hx1, ⟨0, Nat.zero_le _, ⟨rfl, rfl, trivial⟩, trivial⟩, fun k (hk : k ≤ T.len) => ⟨lim16 (by omega), fun hlt => ?_, fun hge => by have := not_of hge; rw [show k = T.len by omega]⟩⟩
 have hb := h.tr k (by omega)
 have h1 := su_rng h (x := x.toNat) (by omega) (k + 1) (by omega)
 have h2 : suP (el Q x.toNat).asList T.asList (k + 1) = suP (el Q x.toNat).asList T.asList k + nAt (el Q x.toNat) (nAt T k).toNat := rfl
 exact ⟨by omega, hlt, hb.1, by rw [hr]; exact hb.2, ⟨by omega, by omega⟩, ⟨by omega, by omega⟩, k + 1, (by omega : k + 1 ≤ T.len), by omega, ⟨by omega, rfl, trivial⟩, trivial⟩
theorem s72 (d : D) (h : d.len = 2) : symFun (ctx cc0 orAnn) 4 72 [.dat 22 d] (.int .i64 (orZ (nAt d 0) (nAt d 1))) := by
 rw [vc72]
 refine ⟨⟨0, ⟨by omega, h, fun i hi => absurd hi (Nat.not_lt_zero _)⟩, ⟨rfl, trivial⟩, trivial⟩, fun k ⟨hk, _, hz⟩ => ⟨lim16 (by omega), fun hlt => ⟨by omega, hlt, fun hne => ?_, fun he => ⟨⟨by omega, by omega⟩, k + 1, ⟨by omega, h, fun i hi => ?_⟩, by omega, ⟨by omega, trivial⟩, trivial⟩⟩, fun hge => ?_⟩⟩
 ·unfold orZ
  rcases (by omega : k = 0 ∨ k = 1) with rfl | rfl
  ·rw [if_pos hne]
  ·rw [if_neg (fun k => k (hz 0 (by omega)))]
 ·rcases Nat.lt_or_ge i k with j | j
  ·exact hz i j
  ·rw [show i = k by omega]; exact Classical.not_not.1 he
 ·have := not_of hge
  have : k = 2 := by omega
  unfold orZ
  rw [if_neg (fun k => k (hz 0 (by omega))), hz 1 (by omega)]
theorem s73 (a b : Int) : symFun (ctx cc0 orAnn) 4 73 [.int .i64 a, .int .i64 b] (.int .i64 (cmpZ a b)) := by
 rw [vc73]
 unfold cmpZ
 exact ⟨fun h => (h rfl).elim, fun _ => ⟨fun h => (h rfl).elim, fun _ => ⟨fun h => by rw [if_pos h], fun h => ⟨fun h2 => by rw [if_neg h, if_pos h2], fun h2 => by rw [if_neg h, if_neg h2]⟩⟩⟩⟩
theorem or_less {mo le su ls b : Int} (hb : ¬ b < 0) : orZ (cmpZ mo le) (cmpZ su ls) < 0 ↔ lessP b mo le su ls := by
 have e : lessP b mo le su ls ↔ (mo < le ∨ (mo = le ∧ su < ls)) := ⟨fun ⟨h⟩ => by omega, fun h => ⟨.inr h⟩⟩
 rw [e]
 unfold orZ cmpZ
 constructor
 ·intro h; repeat' split at h
  all_goals omega
 ·intro h; repeat' split
  all_goals omega
open Classical in
theorem nx_succ (q st T : List D) (g : Nat) : nxF q st T (g + 1) = if (nthD st g).asProp then nxF q st T g else if lessP (nxF q st T g).1 (moP (nthD q g).asList T T.length) (nxF q st T g).2.1 (suP (nthD q g).asList T T.length) (nxF q st T g).2.2 then ((g : Nat), moP (nthD q g).asList T T.length, suP (nthD q g).asList T T.length) else nxF q st T g := rfl
theorem nx_a {q st T : List D} {g : Nat} (h : (nthD st g).asProp) : nxB q st T g = nxB q st T (g + 1) ∧ nxL q st T g = nxL q st T (g + 1) ∧ nxS q st T g = nxS q st T (g + 1) := by
 unfold nxB nxL nxS; rw [nx_succ, if_pos h]; exact ⟨rfl, rfl, rfl⟩
theorem nx_b {q st T : List D} {g : Nat} (h : ¬ (nthD st g).asProp) (hl : lessP (nxB q st T g) (moP (nthD q g).asList T T.length) (nxL q st T g) (suP (nthD q g).asList T T.length) (nxS q st T g)) : ((g : Nat) : Int) = nxB q st T (g + 1) ∧ moP (nthD q g).asList T T.length = nxL q st T (g + 1) ∧ suP (nthD q g).asList T T.length = nxS q st T (g + 1) := by
 unfold nxB nxL nxS at hl ⊢; rw [nx_succ, if_neg h, if_pos hl]; exact ⟨rfl, rfl, rfl⟩
theorem nx_c {q st T : List D} {g : Nat} (h : ¬ (nthD st g).asProp) (hl : ¬ lessP (nxB q st T g) (moP (nthD q g).asList T T.length) (nxL q st T g) (suP (nthD q g).asList T T.length) (nxS q st T g)) : nxB q st T g = nxB q st T (g + 1) ∧ nxL q st T g = nxL q st T (g + 1) ∧ nxS q st T g = nxS q st T (g + 1) := by
 unfold nxB nxL nxS at hl ⊢; rw [nx_succ, if_neg h, if_neg hl]; exact ⟨rfl, rfl, rfl⟩
theorem s51 (Q st T : D) (h : nxO Q st T) : symFun (ctx pn1 pwAnn) 4 51 [.dat 51 Q, .dat 86 st, .dat 22 T] (.int .i64 (nxB Q.asList st.asList T.asList Q.len)) := by
 have hq := h.q64
 rw [vc51]
 refine ⟨⟨0, Nat.zero_le _, ⟨rfl, rfl, rfl, rfl, trivial⟩, trivial⟩, fun k (hk : k ≤ Q.len) => ⟨lim16 (by omega), fun hlt => ?_, fun hge => by have := not_of hge; rw [show k = Q.len by omega]⟩⟩
 have nxt : ∀ {A B C D' E F : Int}, A = D' ∧ B = E ∧ C = F → ((-9223372036854775808 : Int) ≤ (k : Int) + 1 ∧ (k : Int) + 1 < 9223372036854775808) ∧ (k + 1 ≤ Q.len ∧ Q.len - (k + 1) < Q.len - k ∧ ((k : Int) + 1 = ((k + 1 : Nat) : Int) ∧ A = D' ∧ B = E ∧ C = F ∧ True) ∧ True) := fun ⟨a, b, c⟩ => ⟨⟨by omega, by omega⟩, by omega, by omega, ⟨by omega, a, b, c, trivial⟩, trivial⟩
 have hin : (∃ st, nxO Q st T) ∧ (0 : Int) ≤ (k : Int) ∧ (k : Int) < (Q.len : Int) := ⟨⟨st, h⟩, by omega, hlt⟩
 refine ⟨by omega, by rw [h.stl]; exact hlt, fun hs => ?_, fun hs => ⟨hin, hin, fun hb => ⟨trivial, trivial, Nat.le_refl _, rfl, fun ho => ?_, fun ho => ?_⟩, fun hb => ?_⟩⟩
 ·have := nxt (nx_a (q := Q.asList) (T := T.asList) hs); exact ⟨this.1, k + 1, this.2⟩
 ·have := nxt (nx_b (q := Q.asList) (T := T.asList) hs ((or_less hb).1 ho)); exact ⟨this.1, k + 1, this.2⟩
 ·have := nxt (nx_c (q := Q.asList) (T := T.asList) hs (mt (or_less hb).2 ho)); exact ⟨this.1, k + 1, this.2⟩
 ·have := nxt (nx_b (q := Q.asList) (T := T.asList) hs ⟨.inl hb⟩); exact ⟨this.1, k + 1, this.2⟩
end Go.Ev

end

section
open Go.Proofs
namespace Go.Ev
set_option maxRecDepth 100000
set_option maxHeartbeats 4000000
def innC (n : Int) (M : List D) (sz : D) (x_1 : Nat) : Prop := (((∃ (x_2 : Nat), x_2 = (0 : Nat) ∧ ((0 : Int) = (↑x_2 : Int) ∧ True ∧ True) ∧ ftS M sz x_1 = flS M (ftS M sz x_1) x_2 ∧ True) ∨ ∃ (x_2 :
Nat), ((0 : Nat) < x_2 ∧ x_2 ≤ (nAt sz x_1).toNat) ∧ ((0 : Int) = (↑x_2 : Int) ∧ False ∧ True) ∧ ftS M sz x_1 = flS M (ftS M sz x_1) x_2 ∧ False ∧ True) ∧ (∀ (x_2 : Nat), x_2 = (0 : Nat) → (nAt sz
x_1).toNat - x_2 < LIM ∧ ((↑x_2 : Int) < nAt sz x_1 → (0 : Nat) + n.toNat ≤ M.length ∧ noHole M ∧ (isSliceT (ctxj pw1 pwAnn pwJoin).P (22 : TypeId) = true ∧ sizeIs (ctxj pw1 pwAnn pwJoin).P (22 :
TypeId) (1 : Nat) = true) ∧ (0 : Nat) + n.toNat ≤ (flS M (ftS M sz x_1) x_2).length ∧ nxO (D.list (List.take n.toNat M)) (D.list (List.take n.toNat (flS M (ftS M sz x_1) x_2))) D.nil ∧ (0 : Int) ≤ nxB
(List.take n.toNat M) (List.take n.toNat (flS M (ftS M sz x_1) x_2)) [] (List.take n.toNat M).length ∧ nxB (List.take n.toNat M) (List.take n.toNat (flS M (ftS M sz x_1) x_2)) [] (List.take n.toNat
M).length < (↑n.toNat : Int) ∧ (nxB (List.take n.toNat M) (List.take n.toNat (flS M (ftS M sz x_1) x_2)) [] (List.take n.toNat M).length).toNat < (flS M (ftS M sz x_1) x_2).length ∧ (0 : Nat) + (1 :
Nat) ≤ [D.int (nxB (List.take n.toNat M) (List.take n.toNat (flS M (ftS M sz x_1) x_2)) [] (List.take n.toNat M).length)].length ∧ (1 : Nat) ≤ (16777216 : Nat) ∧ ((-9223372036854775808 : Int) ≤ (↑x_2
: Int) + (1 : Int) ∧ (↑x_2 : Int) + (1 : Int) < (9223372036854775808 : Int)) ∧ ((∃ (y : Nat), y = (0 : Nat) ∧ (nAt sz x_1).toNat - y < (nAt sz x_1).toNat - x_2 ∧ ((↑x_2 : Int) + (1 : Int) = (↑y : Int)
∧ False ∧ True) ∧ (flS M (ftS M sz x_1) x_2).set (nxB (List.take n.toNat M) (List.take n.toNat (flS M (ftS M sz x_1) x_2)) [] (List.take n.toNat M).length).toNat (D.bool (true = true)) = flS M (ftS M
sz x_1) y ∧ True) ∨ ∃ (y : Nat), ((0 : Nat) < y ∧ y ≤ (nAt sz x_1).toNat) ∧ (nAt sz x_1).toNat - y < (nAt sz x_1).toNat - x_2 ∧ ((↑x_2 : Int) + (1 : Int) = (↑y : Int) ∧ ((0 : Nat) = (0 : Nat) ∧ (1 :
Nat) = y ∧ True) ∧ True) ∧ (flS M (ftS M sz x_1) x_2).set (nxB (List.take n.toNat M) (List.take n.toNat (flS M (ftS M sz x_1) x_2)) [] (List.take n.toNat M).length).toNat (D.bool (true = true)) = flS
M (ftS M sz x_1) y ∧ List.take (1 : Nat) [D.int (nxB (List.take n.toNat M) (List.take n.toNat (flS M (ftS M sz x_1) x_2)) [] (List.take n.toNat M).length)] = flG M (ftS M sz x_1) y ∧ True)) ∧ (((↑x_2
: Int) < nAt sz x_1 → False) → ∃ (x_3 : Unit), True ∧ (False ∧ True) ∧ flS M (ftS M sz x_1) x_2 = ftS M sz (x_1 + (1 : Nat)) ∧ False ∧ True)) ∧ ∀ (x_2 : Nat), (0 : Nat) < x_2 ∧ x_2 ≤ (nAt sz
x_1).toNat → (nAt sz x_1).toNat - x_2 < LIM ∧ ((↑x_2 : Int) < nAt sz x_1 → (0 : Nat) + n.toNat ≤ M.length ∧ noHole M ∧ (isSliceT (ctxj pw1 pwAnn pwJoin).P (22 : TypeId) = true ∧ sizeIs (ctxj pw1 pwAnn
pwJoin).P (22 : TypeId) (1 : Nat) = true) ∧ (0 : Nat) + n.toNat ≤ (flS M (ftS M sz x_1) x_2).length ∧ (0 : Nat) + x_2 ≤ (flG M (ftS M sz x_1) x_2).length ∧ nxO (D.list (List.take n.toNat M)) (D.list
(List.take n.toNat (flS M (ftS M sz x_1) x_2))) (D.list (List.take x_2 (flG M (ftS M sz x_1) x_2))) ∧ (0 : Int) ≤ nxB (List.take n.toNat M) (List.take n.toNat (flS M (ftS M sz x_1) x_2)) (List.take
x_2 (flG M (ftS M sz x_1) x_2)) (List.take n.toNat M).length ∧ nxB (List.take n.toNat M) (List.take n.toNat (flS M (ftS M sz x_1) x_2)) (List.take x_2 (flG M (ftS M sz x_1) x_2)) (List.take n.toNat
M).length < (↑n.toNat : Int) ∧ (nxB (List.take n.toNat M) (List.take n.toNat (flS M (ftS M sz x_1) x_2)) (List.take x_2 (flG M (ftS M sz x_1) x_2)) (List.take n.toNat M).length).toNat < (flS M (ftS M
sz x_1) x_2).length ∧ (0 : Nat) + (1 : Nat) ≤ [D.int (nxB (List.take n.toNat M) (List.take n.toNat (flS M (ftS M sz x_1) x_2)) (List.take x_2 (flG M (ftS M sz x_1) x_2)) (List.take n.toNat
M).length)].length ∧ (0 : Nat) + x_2 ≤ (flG M (ftS M sz x_1) x_2).length ∧ x_2 + (1 : Nat) ≤ (16777216 : Nat) ∧ ((-9223372036854775808 : Int) ≤ (↑x_2 : Int) + (1 : Int) ∧ (↑x_2 : Int) + (1 : Int) <
(9223372036854775808 : Int)) ∧ ((∃ (y : Nat), y = (0 : Nat) ∧ (nAt sz x_1).toNat - y < (nAt sz x_1).toNat - x_2 ∧ ((↑x_2 : Int) + (1 : Int) = (↑y : Int) ∧ False ∧ True) ∧ (flS M (ftS M sz x_1)
x_2).set (nxB (List.take n.toNat M) (List.take n.toNat (flS M (ftS M sz x_1) x_2)) (List.take x_2 (flG M (ftS M sz x_1) x_2)) (List.take n.toNat M).length).toNat (D.bool (true = true)) = flS M (ftS M
sz x_1) y ∧ True) ∨ ∃ (y : Nat), ((0 : Nat) < y ∧ y ≤ (nAt sz x_1).toNat) ∧ (nAt sz x_1).toNat - y < (nAt sz x_1).toNat - x_2 ∧ ((↑x_2 : Int) + (1 : Int) = (↑y : Int) ∧ ((0 : Nat) = (0 : Nat) ∧ x_2 +
(1 : Nat) = y ∧ True) ∧ True) ∧ (flS M (ftS M sz x_1) x_2).set (nxB (List.take n.toNat M) (List.take n.toNat (flS M (ftS M sz x_1) x_2)) (List.take x_2 (flG M (ftS M sz x_1) x_2)) (List.take n.toNat
M).length).toNat (D.bool (true = true)) = flS M (ftS M sz x_1) y ∧ List.take x_2 (flG M (ftS M sz x_1) x_2) ++ List.take (1 : Nat) [D.int (nxB (List.take n.toNat M) (List.take n.toNat (flS M (ftS M sz
x_1) x_2)) (List.take x_2 (flG M (ftS M sz x_1) x_2)) (List.take n.toNat M).length)] = flG M (ftS M sz x_1) y ∧ True)) ∧ (((↑x_2 : Int) < nAt sz x_1 → False) → ∃ (x_3 : Unit), True ∧ (((0 : Nat) = (0
: Nat) ∧ x_2 = (nAt sz x_1).toNat ∧ True) ∧ True) ∧ flS M (ftS M sz x_1) x_2 = ftS M sz (x_1 + (1 : Nat)) ∧ flG M (ftS M sz x_1) x_2 = flG M (ftS M sz x_1) (nAt sz x_1).toNat ∧ True))
theorem vc7 : ∀ (n e : Int) (sz : D), symFun (ctxj pw1 pwAnn pwJoin) 8 (7 : FuncId) [V.int IntKind.i64 n, V.dat (22 : TypeId) sz, V.int IntKind.i64 e] (V.tup [V.dat (25 : TypeId) (planD n sz e), V.int IntKind.i64 (planX
n sz e)]) = ((1 ≤ n → (((n ≤ 64 → False) → False) → ((1 ≤ n ∧ n ≤ 64) ∧ sz.len ≤ 16777216) ∧ ((fitP n sz → False) → D.nil = planD n sz e ∧ 90 = planX n sz e ∧ True) ∧ (((fitP n sz → False) → False) → (0 ≤ e → ((e ≤ 64 →
False) → D.nil = planD n sz e ∧ 2 = planX n sz e ∧ True) ∧ (((e ≤ 64 → False) → False) → 0 ≤ n ∧ n ≤ n ∧ n ≤ 16777216 ∧ 24 * n.toNat ≤ 281474976710656 ∧ (∃ (x : Nat), x.le n.toNat ∧ (0 = (x : Int) ∧ True) ∧
(List.replicate n.toNat D.nil = zrL n.toNat x ∧ allNil (List.replicate n.toNat D.nil)) ∧ True) ∧ ∀ (x : Nat), x.le n.toNat → n.toNat - x < LIM ∧ ((x : Int) < n → 0 ≤ n ∧ n ≤ n ∧ n ≤ 16777216 ∧ 8 * n.toNat ≤
281474976710656 ∧ 0 ≤ (x : Int) ∧ (x : Int) < (n.toNat : Int) ∧ x < (zrL n.toNat x).length ∧ True ∧ (0 : Nat) = 0 ∧ n.toNat = (List.replicate n.toNat (D.int 0)).length ∧ n.toNat = n.toNat ∧ fits64 ((x : Int) + 1) ∧ ∃ (y
: Nat), y.le n.toNat ∧ n.toNat - y < n.toNat - x ∧ ((x : Int) + 1 = (y : Int) ∧ True) ∧ (zrL n.toNat x).set x (D.list (List.replicate n.toNat (D.int 0))) = zrL n.toNat y ∧ True) ∧ (((x : Int) < n → False) → 0 ≤ e ∧ e ≤ e
∧ e ≤ 16777216 ∧ 24 * e.toNat ≤ 281474976710656 ∧ (∃ (x_1 : Nat), x_1.le e.toNat ∧ (0 = (x_1 : Int) ∧ True) ∧ (List.replicate e.toNat D.nil = pnL n.toNat sz x_1 ++ List.replicate (e.toNat - x_1) D.nil ∧ allNil
(List.replicate e.toNat D.nil)) ∧ zrL n.toNat x = pmQ n.toNat sz x_1 ∧ True) ∧ ∀ (x : Nat), x.le e.toNat → e.toNat - x < LIM ∧ ((x : Int) < (e.toNat : Int) → 0 ≤ (n.toNat : Int) ∧ (n.toNat : Int) ≤ (n.toNat : Int) ∧
(n.toNat : Int) ≤ 16777216 ∧ 1 * n.toNat ≤ 281474976710656 ∧ (((∃ (x_1 : Nat), x_1 = 0 ∧ (0 = (x_1 : Int) ∧ True ∧ True) ∧ List.replicate n.toNat (D.bool (false = true)) = ftS (pmQ n.toNat sz x) sz x_1 ∧ True) ∨ ∃ (x_1 :
Nat), (0 < x_1 ∧ x_1 ≤ sz.len) ∧ (0 = (x_1 : Int) ∧ False ∧ True) ∧ List.replicate n.toNat (D.bool (false = true)) = ftS (pmQ n.toNat sz x) sz x_1 ∧ False ∧ True) ∧ (∀ (x_1 : Nat), x_1 = 0 → sz.len - x_1 < LIM ∧ ((x_1 :
Int) < (sz.len : Int) → 0 ≤ (x_1 : Int) ∧ (x_1 : Int) < (sz.len : Int) ∧ innC n (pmQ n.toNat sz x) sz x_1 ∧ ∀ (x_2 : Unit), True → 0 + (nAt sz x_1).toNat ≤ (flG (pmQ n.toNat sz x) (ftS (pmQ n.toNat sz x) sz x_1) (nAt sz
x_1).toNat).length ∧ 0 + 1 ≤ [D.list (List.take (nAt sz x_1).toNat (flG (pmQ n.toNat sz x) (ftS (pmQ n.toNat sz x) sz x_1) (nAt sz x_1).toNat))].length ∧ (1 : Nat) ≤ 16777216 ∧ fits64 ((x_1 : Int) + 1) ∧ ((∃ (y : Nat), y
= 0 ∧ sz.len - y < sz.len - x_1 ∧ ((x_1 : Int) + 1 = (y : Int) ∧ False ∧ True) ∧ ftS (pmQ n.toNat sz x) sz (x_1 + 1) = ftS (pmQ n.toNat sz x) sz y ∧ True) ∨ ∃ (y : Nat), (0 < y ∧ y ≤ sz.len) ∧ sz.len - y < sz.len - x_1 ∧
((x_1 : Int) + 1 = (y : Int) ∧ ((0 : Nat) = 0 ∧ 1 = y ∧ True) ∧ True) ∧ ftS (pmQ n.toNat sz x) sz (x_1 + 1) = ftS (pmQ n.toNat sz x) sz y ∧ List.take 1 [D.list (List.take (nAt sz x_1).toNat (flG (pmQ n.toNat sz x) (ftS
(pmQ n.toNat sz x) sz x_1) (nAt sz x_1).toNat))] = ftT (pmQ n.toNat sz x) sz y ∧ True)) ∧ (((x_1 : Int) < (sz.len : Int) → False) → ∃ (x_2 : Unit), True ∧ (False ∧ True) ∧ ftS (pmQ n.toNat sz x) sz x_1 = ftS (pmQ n.toNat
sz x) sz sz.len ∧ False ∧ True)) ∧ ∀ (x_1 : Nat), 0 < x_1 ∧ x_1 ≤ sz.len → sz.len - x_1 < LIM ∧ ((x_1 : Int) < (sz.len : Int) → 0 ≤ (x_1 : Int) ∧ (x_1 : Int) < (sz.len : Int) ∧ innC n (pmQ n.toNat sz x) sz x_1 ∧ ∀ (x_2 :
Unit), True → 0 + (nAt sz x_1).toNat ≤ (flG (pmQ n.toNat sz x) (ftS (pmQ n.toNat sz x) sz x_1) (nAt sz x_1).toNat).length ∧ 0 + 1 ≤ [D.list (List.take (nAt sz x_1).toNat (flG (pmQ n.toNat sz x) (ftS (pmQ n.toNat sz x) sz
x_1) (nAt sz x_1).toNat))].length ∧ 0 + x_1 ≤ (ftT (pmQ n.toNat sz x) sz x_1).length ∧ x_1 + 1 ≤ 16777216 ∧ fits64 ((x_1 : Int) + 1) ∧ ((∃ (y : Nat), y = 0 ∧ sz.len - y < sz.len - x_1 ∧ ((x_1 : Int) + 1 = (y : Int) ∧
False ∧ True) ∧ ftS (pmQ n.toNat sz x) sz (x_1 + 1) = ftS (pmQ n.toNat sz x) sz y ∧ True) ∨ ∃ (y : Nat), (0 < y ∧ y ≤ sz.len) ∧ sz.len - y < sz.len - x_1 ∧ ((x_1 : Int) + 1 = (y : Int) ∧ ((0 : Nat) = 0 ∧ x_1 + 1 = y ∧
True) ∧ True) ∧ ftS (pmQ n.toNat sz x) sz (x_1 + 1) = ftS (pmQ n.toNat sz x) sz y ∧ List.take x_1 (ftT (pmQ n.toNat sz x) sz x_1) ++ List.take 1 [D.list (List.take (nAt sz x_1).toNat (flG (pmQ n.toNat sz x) (ftS (pmQ
n.toNat sz x) sz x_1) (nAt sz x_1).toNat))] = ftT (pmQ n.toNat sz x) sz y ∧ True)) ∧ (((x_1 : Int) < (sz.len : Int) → False) → ∃ (x_2 : Unit), True ∧ (((0 : Nat) = 0 ∧ x_1 = sz.len ∧ True) ∧ True) ∧ ftS (pmQ n.toNat sz
x) sz x_1 = ftS (pmQ n.toNat sz x) sz sz.len ∧ ftT (pmQ n.toNat sz x) sz x_1 = ftT (pmQ n.toNat sz x) sz sz.len ∧ True)) ∧ ∀ (x_1 : Unit), True → 0 ≤ (x : Int) ∧ (x : Int) < (e.toNat : Int) ∧ x < (pnL n.toNat sz x ++
List.replicate (e.toNat - x) D.nil).length ∧ True ∧ (0 : Nat) = 0 ∧ sz.len = (ftT (pmQ n.toNat sz x) sz sz.len).length ∧ True ∧ 0 ≤ (x : Int) ∧ (x : Int) < (e.toNat : Int) ∧ x < ((pnL n.toNat sz x ++ List.replicate
(e.toNat - x) D.nil).set x (D.list (ftT (pmQ n.toNat sz x) sz sz.len))).length ∧ (nthD ((pnL n.toNat sz x ++ List.replicate (e.toNat - x) D.nil).set x (D.list (ftT (pmQ n.toNat sz x) sz sz.len))) x = D.nil → (∃ (x_2 :
Nat), x_2.le sz.len ∧ (0 = (x_2 : Int) ∧ True) ∧ pmQ n.toNat sz x = pqE (pmQ n.toNat sz x) (D.list (ftT (pmQ n.toNat sz x) sz sz.len)) x_2 ∧ True) ∧ ∀ (x_2 : Nat), x_2.le sz.len → sz.len - x_2 < LIM ∧ ((x_2 : Int) < 0 →
False ∧ ∀ (x_3 : D), x_3 = nthD (ftT (pmQ n.toNat sz x) sz sz.len) x_2 → (∃ (x_4 : Nat), x_4.le x_3.len ∧ (0 = (x_4 : Int) ∧ True) ∧ pqE (pmQ n.toNat sz x) (D.list (ftT (pmQ n.toNat sz x) sz sz.len)) x_2 = pqN (pqE (pmQ
n.toNat sz x) (D.list (ftT (pmQ n.toNat sz x) sz sz.len)) x_2) x_3 x_4 ∧ True) ∧ ∀ (x_4 : Nat), x_4.le x_3.len → x_3.len - x_4 < LIM ∧ ((x_4 : Int) < (x_3.len : Int) → 0 ≤ (x_4 : Int) ∧ (x_4 : Int) < (x_3.len : Int) ∧ (0
: Int) ≤ 0 ∧ 0 ≤ (x_4 : Int) ∧ (x_4 : Int) ≤ (x_3.len : Int) ∧ (∃ (x_5 : Nat), x_5.le x_4 ∧ (0 = (x_5 : Int) ∧ True) ∧ pqN (pqE (pmQ n.toNat sz x) (D.list (ftT (pmQ n.toNat sz x) sz sz.len)) x_2) x_3 x_4 = (pqI (pqN (pqE
(pmQ n.toNat sz x) (D.list (ftT (pmQ n.toNat sz x) sz sz.len)) x_2) x_3 x_4) x_3 x_4 x_5) ∧ True) ∧ ∀ (x_5 : Nat), x_5.le x_4 → x_4 - x_5 < LIM ∧ ((x_5 : Int) < (↑(x_3.sub 0 x_4).len : Int) → 0 ≤ (x_5 : Int) ∧ (x_5 :
Int) < (↑(x_3.sub 0 x_4).len : Int) ∧ wrC n.toNat (pqI (pqN (pqE (pmQ n.toNat sz x) (D.list (ftT (pmQ n.toNat sz x) sz sz.len)) x_2) x_3 x_4) x_3 x_4 x_5) (nAt (x_3.sub 0 x_4) x_5) (nAt x_3 x_4) (wrC n.toNat (incZ (pqI
(pqN (pqE (pmQ n.toNat sz x) (D.list (ftT (pmQ n.toNat sz x) sz sz.len)) x_2) x_3 x_4) x_3 x_4 x_5) (nAt (x_3.sub 0 x_4) x_5) (nAt x_3 x_4)) (nAt x_3 x_4) (nAt (x_3.sub 0 x_4) x_5) (fits64 ((x_5 : Int) + 1) ∧ ∃ (y :
Nat), y.le x_4 ∧ x_4 - y < x_4 - x_5 ∧ ((x_5 : Int) + 1 = (y : Int) ∧ True) ∧ (incZ (incZ (pqI (pqN (pqE (pmQ n.toNat sz x) (D.list (ftT (pmQ n.toNat sz x) sz sz.len)) x_2) x_3 x_4) x_3 x_4 x_5) (nAt (x_3.sub 0 x_4) x_5)
(nAt x_3 x_4)) (nAt x_3 x_4) (nAt (x_3.sub 0 x_4) x_5)) = pqI (pqN (pqE (pmQ n.toNat sz x) (D.list (ftT (pmQ n.toNat sz x) sz sz.len)) x_2) x_3 x_4) x_3 x_4 y ∧ True))) ∧ (((x_5 : Int) < (↑(x_3.sub 0 x_4).len : Int) →
False) → fits64 ((x_4 : Int) + 1) ∧ ∃ (y : Nat), y.le x_3.len ∧ x_3.len - y < x_3.len - x_4 ∧ ((x_4 : Int) + 1 = (y : Int) ∧ True) ∧ (pqI (pqN (pqE (pmQ n.toNat sz x) (D.list (ftT (pmQ n.toNat sz x) sz sz.len)) x_2) x_3
x_4) x_3 x_4 x_5) = pqN (pqE (pmQ n.toNat sz x) (D.list (ftT (pmQ n.toNat sz x) sz sz.len)) x_2) x_3 y ∧ True)) ∧ (((x_4 : Int) < (x_3.len : Int) → False) → fits64 ((x_2 : Int) + 1) ∧ ∃ (y : Nat), y.le sz.len ∧ sz.len -
y < sz.len - x_2 ∧ ((x_2 : Int) + 1 = (y : Int) ∧ True) ∧ pqN (pqE (pmQ n.toNat sz x) (D.list (ftT (pmQ n.toNat sz x) sz sz.len)) x_2) x_3 x_4 = pqE (pmQ n.toNat sz x) (D.list (ftT (pmQ n.toNat sz x) sz sz.len)) y ∧
True)) ∧ (((x_2 : Int) < 0 → False) → fits64 ((x : Int) + 1) ∧ ∃ (y : Nat), y.le e.toNat ∧ e.toNat - y < e.toNat - x ∧ ((x : Int) + 1 = (y : Int) ∧ True) ∧ (pnL n.toNat sz x ++ List.replicate (e.toNat - x) D.nil).set x
(D.list (ftT (pmQ n.toNat sz x) sz sz.len)) = pnL n.toNat sz y ++ List.replicate (e.toNat - y) D.nil ∧ pqE (pmQ n.toNat sz x) (D.list (ftT (pmQ n.toNat sz x) sz sz.len)) x_2 = pmQ n.toNat sz y ∧ True)) ∧ (∀ (r : List D),
nthD ((pnL n.toNat sz x ++ List.replicate (e.toNat - x) D.nil).set x (D.list (ftT (pmQ n.toNat sz x) sz sz.len))) x = D.list r → (∃ (x_2 : Nat), x_2.le sz.len ∧ (0 = (x_2 : Int) ∧ True) ∧ pmQ n.toNat sz x = pqE (pmQ
n.toNat sz x) (D.list (ftT (pmQ n.toNat sz x) sz sz.len)) x_2 ∧ True) ∧ ∀ (x_2 : Nat), x_2.le sz.len → sz.len - x_2 < LIM ∧ ((x_2 : Int) < (r.length : Int) → (0 ≤ (x_2 : Int) ∧ (x_2 : Int) < (r.length : Int) ∧ x < ((pnL
n.toNat sz x ++ List.replicate (e.toNat - x) D.nil).set x (D.list (ftT (pmQ n.toNat sz x) sz sz.len))).length ∧ (x_2 : Int) < (↑(nthD ((pnL n.toNat sz x ++ List.replicate (e.toNat - x) D.nil).set x (D.list (ftT (pmQ
n.toNat sz x) sz sz.len))) x).len : Int) ∧ x < ((pnL n.toNat sz x ++ List.replicate (e.toNat - x) D.nil).set x (D.list (ftT (pmQ n.toNat sz x) sz sz.len))).length ∧ x_2 < (nthD ((pnL n.toNat sz x ++ List.replicate
(e.toNat - x) D.nil).set x (D.list (ftT (pmQ n.toNat sz x) sz sz.len))) x).len ∧ ∃ (x_3 : D), x_3 = nthD (ftT (pmQ n.toNat sz x) sz sz.len) x_2 ∧ (el (nthD ((pnL n.toNat sz x ++ List.replicate (e.toNat - x) D.nil).set x
(D.list (ftT (pmQ n.toNat sz x) sz sz.len))) x) x_2 = x_3 ∧ True) ∧ True) ∧ ∀ (x_3 : D), x_3 = nthD (ftT (pmQ n.toNat sz x) sz sz.len) x_2 → (∃ (x_4 : Nat), x_4.le x_3.len ∧ (0 = (x_4 : Int) ∧ True) ∧ pqE (pmQ n.toNat sz
x) (D.list (ftT (pmQ n.toNat sz x) sz sz.len)) x_2 = pqN (pqE (pmQ n.toNat sz x) (D.list (ftT (pmQ n.toNat sz x) sz sz.len)) x_2) x_3 x_4 ∧ True) ∧ ∀ (x_4 : Nat), x_4.le x_3.len → x_3.len - x_4 < LIM ∧ ((x_4 : Int) <
(x_3.len : Int) → 0 ≤ (x_4 : Int) ∧ (x_4 : Int) < (x_3.len : Int) ∧ (0 : Int) ≤ 0 ∧ 0 ≤ (x_4 : Int) ∧ (x_4 : Int) ≤ (x_3.len : Int) ∧ (∃ (x_5 : Nat), x_5.le x_4 ∧ (0 = (x_5 : Int) ∧ True) ∧ pqN (pqE (pmQ n.toNat sz x)
(D.list (ftT (pmQ n.toNat sz x) sz sz.len)) x_2) x_3 x_4 = (pqI (pqN (pqE (pmQ n.toNat sz x) (D.list (ftT (pmQ n.toNat sz x) sz sz.len)) x_2) x_3 x_4) x_3 x_4 x_5) ∧ True) ∧ ∀ (x_5 : Nat), x_5.le x_4 → x_4 - x_5 < LIM ∧
((x_5 : Int) < (↑(x_3.sub 0 x_4).len : Int) → 0 ≤ (x_5 : Int) ∧ (x_5 : Int) < (↑(x_3.sub 0 x_4).len : Int) ∧ wrC n.toNat (pqI (pqN (pqE (pmQ n.toNat sz x) (D.list (ftT (pmQ n.toNat sz x) sz sz.len)) x_2) x_3 x_4) x_3 x_4
x_5) (nAt (x_3.sub 0 x_4) x_5) (nAt x_3 x_4) (wrC n.toNat (incZ (pqI (pqN (pqE (pmQ n.toNat sz x) (D.list (ftT (pmQ n.toNat sz x) sz sz.len)) x_2) x_3 x_4) x_3 x_4 x_5) (nAt (x_3.sub 0 x_4) x_5) (nAt x_3 x_4)) (nAt x_3
x_4) (nAt (x_3.sub 0 x_4) x_5) (fits64 ((x_5 : Int) + 1) ∧ ∃ (y : Nat), y.le x_4 ∧ x_4 - y < x_4 - x_5 ∧ ((x_5 : Int) + 1 = (y : Int) ∧ True) ∧ (incZ (incZ (pqI (pqN (pqE (pmQ n.toNat sz x) (D.list (ftT (pmQ n.toNat sz
x) sz sz.len)) x_2) x_3 x_4) x_3 x_4 x_5) (nAt (x_3.sub 0 x_4) x_5) (nAt x_3 x_4)) (nAt x_3 x_4) (nAt (x_3.sub 0 x_4) x_5)) = pqI (pqN (pqE (pmQ n.toNat sz x) (D.list (ftT (pmQ n.toNat sz x) sz sz.len)) x_2) x_3 x_4) x_3
x_4 y ∧ True))) ∧ (((x_5 : Int) < (↑(x_3.sub 0 x_4).len : Int) → False) → fits64 ((x_4 : Int) + 1) ∧ ∃ (y : Nat), y.le x_3.len ∧ x_3.len - y < x_3.len - x_4 ∧ ((x_4 : Int) + 1 = (y : Int) ∧ True) ∧ (pqI (pqN (pqE (pmQ
n.toNat sz x) (D.list (ftT (pmQ n.toNat sz x) sz sz.len)) x_2) x_3 x_4) x_3 x_4 x_5) = pqN (pqE (pmQ n.toNat sz x) (D.list (ftT (pmQ n.toNat sz x) sz sz.len)) x_2) x_3 y ∧ True)) ∧ (((x_4 : Int) < (x_3.len : Int) →
False) → fits64 ((x_2 : Int) + 1) ∧ ∃ (y : Nat), y.le sz.len ∧ sz.len - y < sz.len - x_2 ∧ ((x_2 : Int) + 1 = (y : Int) ∧ True) ∧ pqN (pqE (pmQ n.toNat sz x) (D.list (ftT (pmQ n.toNat sz x) sz sz.len)) x_2) x_3 x_4 = pqE
(pmQ n.toNat sz x) (D.list (ftT (pmQ n.toNat sz x) sz sz.len)) y ∧ True)) ∧ (((x_2 : Int) < (r.length : Int) → False) → fits64 ((x : Int) + 1) ∧ ∃ (y : Nat), y.le e.toNat ∧ e.toNat - y < e.toNat - x ∧ ((x : Int) + 1 = (y
: Int) ∧ True) ∧ (pnL n.toNat sz x ++ List.replicate (e.toNat - x) D.nil).set x (D.list (ftT (pmQ n.toNat sz x) sz sz.len)) = pnL n.toNat sz y ++ List.replicate (e.toNat - y) D.nil ∧ pqE (pmQ n.toNat sz x) (D.list (ftT
(pmQ n.toNat sz x) sz sz.len)) x_2 = pmQ n.toNat sz y ∧ True)) ∧ ∀ (n_1 : Int), nthD ((pnL n.toNat sz x ++ List.replicate (e.toNat - x) D.nil).set x (D.list (ftT (pmQ n.toNat sz x) sz sz.len))) x = D.int n_1 → False) ∧
(((x : Int) < (e.toNat : Int) → False) → (0 + e.toNat ≤ (pnL n.toNat sz x ++ List.replicate (e.toNat - x) D.nil).length ∧ noHole (pnL n.toNat sz x ++ List.replicate (e.toNat - x) D.nil) ∧ (isSliceT (ctxj pw1 pwAnn
pwJoin).P (41 : TypeId) = true ∧ sizeIs (ctxj pw1 pwAnn pwJoin).P (41 : TypeId) 1 = true) ∧ D.list (List.take e.toNat (pnL n.toNat sz x ++ List.replicate (e.toNat - x) D.nil)) = planD n sz e) ∧ 0 = planX n sz e ∧
True)))) ∧ ((0 ≤ e → False) → D.nil = planD n sz e ∧ 2 = planX n sz e ∧ True))) ∧ ((n ≤ 64 → False) → D.nil = planD n sz e ∧ 90 = planX n sz e ∧ True)) ∧ ((1 ≤ n → False) → D.nil = planD n sz e ∧ 90 = planX n sz e ∧
True)) := by intros; kernel_rfl
theorem sl22 : isSliceT (ctxj pw1 pwAnn pwJoin).P (22 : TypeId) = true ∧ sizeIs (ctxj pw1 pwAnn pwJoin).P (22 : TypeId) (1 : Nat) = true := by constructor <;> kernel_rfl
theorem sl41 : isSliceT (ctxj pw1 pwAnn pwJoin).P (41 : TypeId) = true ∧ sizeIs (ctxj pw1 pwAnn pwJoin).P (41 : TypeId) (1 : Nat) = true := by constructor <;> kernel_rfl
theorem tk {l : List D} {k : Nat} (h : l.length = k) : List.take k l = l := List.take_of_length_le (by omega)
structure fiP (n : Nat) (M : List D) (sz : D) : Prop where
 n64 : n ≤ 64
 fit : fitP (n : Nat) sz
 len : M.length = n
 sq : ∃ f, sqF n 12800000000 f M
theorem fi_nx {n : Nat} {M : List D} {sz : D} (h : fiP n M sz) {j x : Nat} (hj : j < sz.len) (hx : (x : Int) ≤ nAt sz j) :
  (flS M (ftS M sz j) x).length = n ∧ (flG M (ftS M sz j) x).length = x ∧ nxO (.list M) (.list (flS M (ftS M sz j) x)) (listD (flG M (ftS M sz j) x)) := by
 have hev := ft_ok h.fit h.len j (by omega)
 have hl := fit_le h.fit hj
 have ht := hev.tot
 have hp := (fit_sum h.fit (Nat.le_of_lt hj)).1
 obtain ⟨h1, h2⟩ := fl_ok hev.st h.len x (by omega)
 obtain ⟨f, hf⟩ := h.sq
 have hn := h.n64
 refine ⟨h1.len, h2, ⟨by show M.length ≤ 64; rw [h.len]; exact hn, by show (flS M (ftS M sz j) x).length = M.length; rw [h1.len, h.len], by rw [listD_len, h2]; omega, fun k hk => ?_, fun a ha => ?_, fun a b ha hb => ?_⟩⟩
 ·rw [listD_len] at hk
  have hm : nthD (flG M (ftS M sz j) x) k ∈ flG M (ftS M sz j) x := nthD_mem hk
  obtain ⟨v, hv, e⟩ := h1.rng _ (List.mem_append_right _ hm)
  have e2 : nAt (listD (flG M (ftS M sz j) x)) k = (v : Nat) := by unfold nAt; rw [listD_list, e]; rfl
  rw [e2]
  show 0 ≤ (v : Int) ∧ (v : Int) < (M.length : Int)
  rw [h.len]; omega
 ·have ha : a < n := by rw [← h.len]; exact ha
  show (nthD M a).len = M.length
  rw [h.len, hf.eq, sqD_at _ ha]; exact rowF_len _ _ _
 ·have ha : a < n := by rw [← h.len]; exact ha
  have hb : b < n := by rw [← h.len]; exact hb
  have e : nAt (el (.list M) a) b = f a b := by
   show (nthD (nthD M a).asList b).asInt = _
   rw [hf.eq, sqD_at _ ha]
   show (nthD (rowF n f a) b).asInt = _
   rw [rowF_at _ _ hb]; rfl
  rw [e]
  have := hf.bnd a b ha hb
  omega
theorem fi_w {n : Nat} {M : List D} {sz : D} (h : fiP n M sz) {j x : Nat} (hj : j < sz.len) (hx : (x : Int) < nAt sz j) :
  ∃ w : Nat, w < n ∧ nxB M (flS M (ftS M sz j) x) (flG M (ftS M sz j) x) M.length = (w : Nat) := by
 have hev := ft_ok h.fit h.len j (by omega)
 have hl := fit_le h.fit hj
 have ht := hev.tot
 have hp := (fit_sum h.fit (Nat.le_of_lt hj)).1
 exact fl_nx hev.st h.len x (by omega)
theorem one_pos {n : Int} {sz : D} (h : fitP n sz) {j : Nat} (hj : j < sz.len) : 1 ≤ nAt sz j := h.out.1 j hj
theorem fit_pos {n : Int} {sz : D} (h1 : 1 ≤ n) (h : fitP n sz) : 0 < sz.len := by
 rcases Nat.eq_zero_or_pos sz.len with h0 | h0
 ·have := h.out.2
  rw [h0] at this
  have : (0 : Int) = n := this
  omega
 ·exact h0
theorem listD_cons_of {l : List D} (h : 0 < l.length) : listD l = .list l := by cases l with | nil => exact absurd h (Nat.lt_irrefl 0) | cons a l => rfl
theorem sPl (n e : Int) (sz : D) (hz : sz.len ≤ 16777216) : symFun (ctxj pw1 pwAnn pwJoin) 8 7 [.int .i64 n, .dat 22 sz, .int .i64 e] (.tup [.dat 25 (planD n sz e), .int .i64 (planX n sz e)]) := by
 have x90 : ¬ ((1 ≤ n ∧ n ≤ 64) ∧ fitP n sz) → D.nil = planD n sz e ∧ (90 : Int) = planX n sz e ∧ True := fun h => by
  unfold planD planX
  rw [if_neg (fun k => h k.1), if_pos h]; exact ⟨rfl, rfl, trivial⟩
 have x2 : ((1 ≤ n ∧ n ≤ 64) ∧ fitP n sz) → ¬ (0 ≤ e ∧ e ≤ 64) → D.nil = planD n sz e ∧ (2 : Int) = planX n sz e ∧ True := fun h h2 => by
  unfold planD planX
  rw [if_neg (fun k => h2 k.2), if_neg (fun k => k h), if_pos h2]; exact ⟨rfl, rfl, trivial⟩
 rw [vc7]
 refine ⟨fun h1 => ⟨fun h64 => ?_, fun h64 => x90 fun k => h64 k.1.2⟩, fun h1 => x90 fun k => h1 k.1.1⟩
 have h64 := Classical.not_not.1 h64
 refine ⟨⟨⟨h1, h64⟩, hz⟩, fun hf => x90 fun k => hf k.2, fun hf => ?_⟩
 have hf := Classical.not_not.1 hf
 have hok : (1 ≤ n ∧ n ≤ 64) ∧ fitP n sz := ⟨⟨h1, h64⟩, hf⟩
 refine ⟨fun he0 => ⟨fun he => x2 hok fun k => he k.2, fun he => ?_⟩, fun he0 => x2 hok fun k => he0 k.1⟩
 have he := Classical.not_not.1 he
 have hN : ((n.toNat : Nat) : Int) = n := toN h1
 have hE : ((e.toNat : Nat) : Int) = e := by omega
 refine ⟨by omega, Int.le_refl _, by omega, by omega, ⟨0, Nat.zero_le _, ⟨rfl, trivial⟩, ⟨zr_zero _, allNil_rep _⟩, trivial⟩, fun x (hx : x ≤ n.toNat) => ⟨limS (by omega), fun hlt => ?_, fun hge => ?_⟩⟩
 ·exact ⟨by omega, Int.le_refl _, by omega, by omega, by omega, by omega, by rw [zr_len _ _ hx]; omega, trivial, rfl, by rw [List.length_replicate], rfl, ⟨by omega, by omega⟩, x + 1, (by omega : x + 1 ≤ n.toNat), by omega, ⟨by omega, trivial⟩, zr_next (by omega), trivial⟩
 have hge := not_of hge
 have hxn : x = n.toNat := by omega
 subst hxn
 refine ⟨he0, Int.le_refl _, by omega, by omega, ⟨0, Nat.zero_le _, ⟨rfl, trivial⟩, ⟨rfl, allNil_rep _⟩, rfl, trivial⟩, fun x (hx : x ≤ e.toNat) => ⟨limS (by omega), fun hlt => ?_, fun hge => ?_⟩⟩
 ·have hxe : x < e.toNat := by omega
  have hfi : fiP n.toNat (pmQ n.toNat sz x) sz := ⟨by omega, by rw [hN]; exact hf, pmQ_len _ _ _, ⟨_, pm_sq h1 h64 hf (by omega)⟩⟩
  have hsq := pm_sq (e := x) h1 h64 hf (by omega)
  have hnh : noHole (pmQ n.toNat sz x) := by rw [hsq.eq]; exact sq_noHole _ _
  have hML := pmQ_len n.toNat sz x
  have hMt : List.take n.toNat (pmQ n.toNat sz x) = pmQ n.toNat sz x := tk hML
  have hs0 := fit_pos h1 hf
  have hsn : sz.len ≤ 64 := by have := (fit_sum hf (Nat.le_refl sz.len)).1; have := (fit_sum hf (Nat.le_refl sz.len)).2; omega
  have hev := fun j (hj : j ≤ sz.len) => ft_ok hfi.fit hfi.len j hj
  have hkn : ∀ j, j < sz.len → nAt sz j ≤ n := fun j hj => by have := fit_le hf hj; have := (fit_sum hf (Nat.le_of_lt hj)).1; omega
  -- one guest more
  have guest : ∀ j x2 : Nat, j < sz.len → (x2 : Int) < nAt sz j →
    (0 : Nat) + n.toNat ≤ (pmQ n.toNat sz x).length ∧ (0 : Nat) + n.toNat ≤ (flS (pmQ n.toNat sz x) (ftS (pmQ n.toNat sz x) sz j) x2).length ∧
    List.take n.toNat (flS (pmQ n.toNat sz x) (ftS (pmQ n.toNat sz x) sz j) x2) = flS (pmQ n.toNat sz x) (ftS (pmQ n.toNat sz x) sz j) x2 ∧
    List.take x2 (flG (pmQ n.toNat sz x) (ftS (pmQ n.toNat sz x) sz j) x2) = flG (pmQ n.toNat sz x) (ftS (pmQ n.toNat sz x) sz j) x2 ∧
    (flG (pmQ n.toNat sz x) (ftS (pmQ n.toNat sz x) sz j) x2).length = x2 ∧
    nxO (.list (pmQ n.toNat sz x)) (.list (flS (pmQ n.toNat sz x) (ftS (pmQ n.toNat sz x) sz j) x2)) (listD (flG (pmQ n.toNat sz x) (ftS (pmQ n.toNat sz x) sz j) x2)) ∧
    (0 ≤ nxB (pmQ n.toNat sz x) (flS (pmQ n.toNat sz x) (ftS (pmQ n.toNat sz x) sz j) x2) (flG (pmQ n.toNat sz x) (ftS (pmQ n.toNat sz x) sz j) x2) (pmQ n.toNat sz x).length ∧
     nxB (pmQ n.toNat sz x) (flS (pmQ n.toNat sz x) (ftS (pmQ n.toNat sz x) sz j) x2) (flG (pmQ n.toNat sz x) (ftS (pmQ n.toNat sz x) sz j) x2) (pmQ n.toNat sz x).length < (n.toNat : Int) ∧
     (nxB (pmQ n.toNat sz x) (flS (pmQ n.toNat sz x) (ftS (pmQ n.toNat sz x) sz j) x2) (flG (pmQ n.toNat sz x) (ftS (pmQ n.toNat sz x) sz j) x2) (pmQ n.toNat sz x).length).toNat < (flS (pmQ n.toNat sz x) (ftS (pmQ n.toNat sz x) sz j) x2).length) := fun j x2 hj hx2 => by
   obtain ⟨a1, a2, a3⟩ := fi_nx hfi (x := x2) hj (by omega)
   obtain ⟨w, hw, ew⟩ := fi_w hfi hj hx2
   refine ⟨by omega, by omega, tk a1, tk a2, a2, a3, ?_⟩
   rw [ew]; exact ⟨by omega, by omega, by omega⟩
  have inner : ∀ j, j < sz.len → innC n (pmQ n.toNat sz x) sz j := fun j hj => by
   have hk1 := one_pos hf hj
   have hkn1 := hkn j hj
   refine ⟨.inl ⟨0, rfl, ⟨rfl, trivial, trivial⟩, rfl, trivial⟩, fun x2 h0 => ⟨limS (by omega), fun hl2 => ?_, fun hl2 => (hl2 (by omega)).elim⟩, fun x2 ⟨hp2, hx2⟩ => ⟨limS (by omega), fun hl2 => ?_, fun hl2 => ?_⟩⟩
   ·subst h0
    obtain ⟨a1, a2, a3, a4, a5, a6, a7⟩ := guest j 0 hj hl2
    rw [hMt, a3]
    exact ⟨a1, hnh, sl22, a2, a6, a7.1, a7.2.1, a7.2.2, Nat.le_refl _, by decide, ⟨by decide, by decide⟩, .inr ⟨1, ⟨by decide, by omega⟩, by omega, ⟨rfl, ⟨rfl, rfl, trivial⟩, trivial⟩, rfl, rfl, trivial⟩⟩
   ·obtain ⟨a1, a2, a3, a4, a5, a6, a7⟩ := guest j x2 hj hl2
    rw [hMt, a3, a4]
    have a6 : nxO (.list (pmQ n.toNat sz x)) (.list (flS (pmQ n.toNat sz x) (ftS (pmQ n.toNat sz x) sz j) x2)) (.list (flG (pmQ n.toNat sz x) (ftS (pmQ n.toNat sz x) sz j) x2)) := by
     rw [← listD_cons_of (l := flG (pmQ n.toNat sz x) (ftS (pmQ n.toNat sz x) sz j) x2) (by rw [a5]; exact hp2)]; exact a6
    exact ⟨a1, hnh, sl22, a2, by omega, a6, a7.1, a7.2.1, a7.2.2, Nat.le_refl _, by omega, by omega, ⟨by omega, by omega⟩, .inr ⟨x2 + 1, ⟨by omega, by omega⟩, by omega, ⟨by omega, ⟨rfl, rfl, trivial⟩, trivial⟩, rfl, rfl, trivial⟩⟩
   ·have := not_of hl2
    have e : x2 = (nAt sz j).toNat := by omega
    subst e
    exact ⟨(), trivial, ⟨⟨rfl, rfl, trivial⟩, trivial⟩, rfl, rfl, trivial⟩
  have gl : ∀ j, j < sz.len → (flG (pmQ n.toNat sz x) (ftS (pmQ n.toNat sz x) sz j) (nAt sz j).toNat).length = (nAt sz j).toNat := fun j hj => by
   have := one_pos hf hj
   exact (fi_nx hfi (x := (nAt sz j).toNat) hj (by omega)).2.1
  refine ⟨by omega, Int.le_refl _, by omega, by omega, ⟨.inl ⟨0, rfl, ⟨rfl, trivial, trivial⟩, ?_, trivial⟩, fun j h0 => ⟨limS (by omega), fun hj => ⟨by omega, hj, inner j (by omega), fun _ _ => ?_⟩, fun hj => (hj (by omega)).elim⟩, fun j ⟨hp, hj0⟩ => ⟨limS (by omega), fun hj => ⟨by omega, hj, inner j (by omega), fun _ _ => ?_⟩, fun hj => ?_⟩⟩, fun _ _ => ?_⟩
  ·show _ = List.replicate _ _; rw [hML]
  ·subst h0
   have hg := gl 0 hs0
   rw [tk hg]
   exact ⟨by omega, Nat.le_refl _, by decide, ⟨by decide, by decide⟩, .inr ⟨1, ⟨by decide, by omega⟩, by omega, ⟨rfl, ⟨rfl, rfl, trivial⟩, trivial⟩, rfl, rfl, trivial⟩⟩
  ·have hg := gl j (by omega)
   have ht := (hev j (by omega)).len
   rw [tk hg, tk ht]
   exact ⟨by omega, Nat.le_refl _, by omega, by omega, ⟨by omega, by omega⟩, .inr ⟨j + 1, ⟨by omega, by omega⟩, by omega, ⟨by omega, ⟨rfl, rfl, trivial⟩, trivial⟩, rfl, rfl, trivial⟩⟩
  ·have := not_of hj
   have e : j = sz.len := by omega
   subst e
   exact ⟨(), trivial, ⟨⟨rfl, rfl, trivial⟩, trivial⟩, rfl, rfl, trivial⟩
  ·have hTl : (ftT (pmQ n.toNat sz x) sz sz.len).length = sz.len := (hev sz.len (Nat.le_refl _)).len
   have hLl : (pnL n.toNat sz x ++ List.replicate (e.toNat - x) D.nil).length = e.toNat := by rw [List.length_append, pnL_len, List.length_replicate]; omega
   have hLx : nthD ((pnL n.toNat sz x ++ List.replicate (e.toNat - x) D.nil).set x (.list (ftT (pmQ n.toNat sz x) sz sz.len))) x = .list (ftT (pmQ n.toNat sz x) sz sz.len) := by
    rw [nthD_set _ _ _ _ (by rw [hLl]; exact hxe), if_pos rfl]
   have hst := (hev sz.len (Nat.le_refl _)).st
   have htb : ∀ j, j < sz.len → (el (.list (ftT (pmQ n.toNat sz x) sz sz.len)) j).len ≤ 64 ∧ ∀ k, k < (el (.list (ftT (pmQ n.toNat sz x) sz sz.len)) j).len → 0 ≤ nAt (el (.list (ftT (pmQ n.toNat sz x) sz sz.len)) j) k ∧ nAt (el (.list (ftT (pmQ n.toNat sz x) sz sz.len)) j) k < (n.toNat : Int) := fun j hj => by
    obtain ⟨l, h3, h4⟩ := (hev sz.len (Nat.le_refl _)).tab j hj
    have e1 : el (.list (ftT (pmQ n.toNat sz x) sz sz.len)) j = .list l := h3
    have := hkn j hj
    rw [e1]
    refine ⟨by show l.length ≤ 64; omega, fun k hk => ?_⟩
    have hk : k < l.length := hk
    have hm : nthD l k ∈ flt (ftT (pmQ n.toNat sz x) sz sz.len) := List.mem_flatten.2 ⟨l, List.mem_map.2 ⟨.list l, by rw [← h3]; exact nthD_mem (by rw [hTl]; exact hj), rfl⟩, nthD_mem hk⟩
    obtain ⟨v, hv, ev⟩ := hst.rng _ hm
    have e2 : nAt (.list l) k = (v : Nat) := by show (nthD l k).asInt = _; rw [ev]; rfl
    rw [e2]; omega
   rw [hLx, hTl]
   have hset : ∀ y, y = x + 1 → (pnL n.toNat sz x ++ List.replicate (e.toNat - x) D.nil).set x (.list (ftT (pmQ n.toNat sz x) sz sz.len)) = pnL n.toNat sz y ++ List.replicate (e.toNat - y) D.nil := fun y hy => by
    subst hy
    rw [pnL_succ, List.set_append_right _ _ (by rw [pnL_len]; exact Nat.le_refl _), pnL_len, Nat.sub_self]
    obtain ⟨k, hk⟩ : ∃ k, e.toNat - x = k + 1 := ⟨e.toNat - x - 1, by omega⟩
    rw [hk, show e.toNat - (x + 1) = k by omega, List.append_assoc]; rfl
   have hpm : pqE (pmQ n.toNat sz x) (.list (ftT (pmQ n.toNat sz x) sz sz.len)) sz.len = pmQ n.toNat sz (x + 1) := by rw [pm_step, hTl]
   refine ⟨by omega, hlt, by omega, trivial, rfl, rfl, trivial, by omega, hlt, by rw [List.length_set]; omega, fun h => (by cases h), fun r hr => ?_, fun _ h => by cases h⟩
   cases hr
   refine ⟨⟨0, Nat.zero_le _, ⟨rfl, trivial⟩, rfl, trivial⟩, fun j (hj : j ≤ sz.len) => ⟨limS (by omega), fun hlt3 => ?_, fun hge3 => ?_⟩⟩
   ·have hj2 : j < sz.len := by omega
    have hj3 : j < (D.list (ftT (pmQ n.toNat sz x) sz sz.len)).len := by show j < (ftT _ _ _).length; omega
    have hEq := pqE_sq (ev := .list (ftT (pmQ n.toNat sz x) sz sz.len)) (L := 64) hsq (fun j hj => htb j (by rw [← hTl]; exact hj)) j (Nat.le_of_lt hj3)
    refine ⟨⟨by omega, hlt3, by rw [List.length_set]; omega, by show (j : Int) < ((ftT (pmQ n.toNat sz x) sz sz.len).length : Int); omega, by rw [List.length_set]; omega, hj3, _, rfl, ⟨rfl, trivial⟩, trivial⟩, fun t ht => ?_⟩
    have ht : t = el (.list (ftT (pmQ n.toNat sz x) sz sz.len)) j := ht
    obtain ⟨htl, htr⟩ := htb j hj2
    rw [← ht] at htl htr
    refine ⟨⟨0, Nat.zero_le _, ⟨rfl, trivial⟩, rfl, trivial⟩, fun z (hz2 : z ≤ t.len) => ⟨limS (by omega), fun hlt4 => ?_, fun hge4 => ?_⟩⟩
    ·have hNq := pqN_sq (L := 64) hEq htr htl z hz2
     have hz3 : z < t.len := by omega
     have hsl := sub_len (t := t) hz2
     refine ⟨by omega, hlt4, Int.le_refl _, by omega, by omega, ⟨0, Nat.zero_le _, ⟨rfl, trivial⟩, rfl, trivial⟩, fun w (hw : w ≤ z) => ?_⟩
     have hIq := pqI_sq hNq htr hz3 w hw
     refine ⟨limS (by omega), fun hlt5 => ?_, fun hge5 => ?_⟩
     ·have hw2 : w < z := by omega
      have ea := sub_at (t := t) hw2
      have r1 := htr w (by omega)
      have r2 := htr z hz3
      rw [ea]
      exact ⟨by omega, hlt5, wr_ok hIq (by omega) r1 r2 (wr_ok (incZ_sq hIq r1 r2) (by omega) r2 r1 ⟨⟨by omega, by omega⟩, w + 1, by show w + 1 ≤ _; omega, by omega, ⟨by omega, trivial⟩, rfl, trivial⟩)⟩
     ·have hge5 := not_of hge5
      have ew : w = z := by omega
      subst ew
      exact ⟨⟨by omega, by omega⟩, w + 1, by show w + 1 ≤ _; omega, by omega, ⟨by omega, trivial⟩, rfl, trivial⟩
    ·have hge4 := not_of hge4
     have ez : z = t.len := by omega
     subst ez
     refine ⟨⟨by omega, by omega⟩, j + 1, by show j + 1 ≤ _; omega, by omega, ⟨by omega, trivial⟩, ?_, trivial⟩
     show _ = pqN (pqE _ _ j) (el (.list (ftT (pmQ n.toNat sz x) sz sz.len)) j) (el (.list (ftT (pmQ n.toNat sz x) sz sz.len)) j).len
     rw [← ht]
   ·have hge3 := not_of hge3
    have ej : j = sz.len := by omega
    subst ej
    exact ⟨⟨by omega, by omega⟩, x + 1, by show x + 1 ≤ _; omega, by omega, ⟨by omega, trivial⟩, hset _ rfl, hpm, trivial⟩
 ·have hge := not_of hge
  have ex : x = e.toNat := by omega
  subst ex
  have hLl := pnL_len n.toNat sz e.toNat
  have hnh : noHole (pnL n.toNat sz e.toNat) := ⟨fun m hm => by
   obtain ⟨i, hi, h⟩ := mem_nthD hm
   rw [pnL_at (by rw [← hLl]; exact hi)] at h; cases h⟩
  have hd : planD n sz e = .list (pnL n.toNat sz e.toNat) := by unfold planD; rw [if_pos ⟨hok, he0, he⟩]
  have hx0 : planX n sz e = 0 := by unfold planX; rw [if_neg (fun k => k hok), if_neg (fun k => k ⟨he0, he⟩)]
  rw [hd, hx0, Nat.sub_self]
  have e0 : pnL n.toNat sz e.toNat ++ List.replicate 0 D.nil = pnL n.toNat sz e.toNat := List.append_nil _
  rw [e0, tk hLl]
  exact ⟨⟨by omega, hnh, sl41, rfl⟩, rfl, trivial⟩
end Go.Ev

end

section
open Go.Proofs
namespace Go.Ev
set_option maxRecDepth 100000
set_option maxHeartbeats 4000000
structure eqN (a b : D) : Prop where
 out : a.len = b.len ∧ ∀ i, i < a.len → nAt a i = nAt b i
noncomputable def con39 : Con := fun | [.int .i64 n, .dat 22 l] => some (l.len ≤ 16777216, .prop (okS n l)) | _ => none
noncomputable def ebmAnn : FuncId → Nat → Option Ann
 | 10, 4 => some { τ := Nat, slots := fun _ _ x => [(13, .int .i64 x)], blks := fun _ _ _ => [], inv := fun S _ x => x ≤ (slD S 0).len ∧ ∀ i, i < x → nAt (slD S 0) i = nAt (slD S 1) i, meas := fun S _ x => (slD S 0).len - x }
 | 24, 3 => some { τ := Nat, slots := fun S _ x => [(11, .int .i64 x), (5, .int .i64 (slI S 0 - sumZ (slD S 1) x))], blks := fun _ _ _ => [], inv := fun S _ x => x ≤ (slD S 1).len ∧ (∀ i, i < x → 1 ≤ nAt (slD S 1) i) ∧ 0 ≤ sumZ (slD S 1) x ∧ sumZ (slD S 1) x ≤ slI S 0, meas := fun S _ x => (slD S 1).len - x }
 | 41, 4 => some { τ := Nat, slots := fun S _ x => [(20, .int .i64 x), (4, .int .i64 (triS (slD S 1) x))], blks := fun _ _ _ => [], inv := fun S _ x => x ≤ (slD S 1).len, meas := fun S _ x => (slD S 1).len - x }
 | 30, 3 => some { τ := Nat, slots := fun S _ x => [(6, .int .i64 x), (5, .int .i64 (sumZ (slD S 1) x))], blks := fun _ _ _ => [], inv := fun S _ x => x ≤ (slD S 1).len ∧ (∀ i, i < x → 1 ≤ nAt (slD S 1) i) ∧ 0 ≤ sumZ (slD S 1) x ∧ sumZ (slD S 1) x ≤ 128, meas := fun S _ x => (slD S 1).len - x }
 | _, _ => none
theorem vc19 : ∀ (a b : D), symFun (ctx cc0 ebmAnn) 3 (10 : FuncId) [V.dat (22 : TypeId) a, V.dat (22 : TypeId) b] (V.prop (eqN a b)) = ((((a.len : Int) = (b.len : Int) → False) → (false = true ↔ eqN a b)) ∧ ((((a.len :
Int) = (b.len : Int) → False) → False) → (∃ (x : Nat), (x ≤ a.len ∧ ∀ (i : Nat), i < x → nAt a i = nAt b i) ∧ (0 = (x : Int) ∧ True) ∧ True) ∧ ∀ (x : Nat), (x ≤ a.len ∧ ∀ (i : Nat), i < x → nAt a i = nAt b i) → a.len - x
< LIM ∧ ((x : Int) < (a.len : Int) → 0 ≤ (x : Int) ∧ (x : Int) < (a.len : Int) ∧ 0 ≤ (x : Int) ∧ (x : Int) < (b.len : Int) ∧ ((nAt a x = nAt b x → False) → (false = true ↔ eqN a b)) ∧ (((nAt a x = nAt b x → False) →
False) → fits64 ((x : Int) + 1) ∧ ∃ (y : Nat), (y ≤ a.len ∧ ∀ (i : Nat), i < y → nAt a i = nAt b i) ∧ a.len - y < a.len - x ∧ ((x : Int) + 1 = (y : Int) ∧ True) ∧ True)) ∧ (((x : Int) < (a.len : Int) → False) → (true =
true ↔ eqN a b)))) := by intros; kernel_rfl
theorem vc39 : ∀ (n : Int) (l : D), symFun (ctx cc0 ebmAnn) 3 (30 : FuncId) [V.int IntKind.i64 n, V.dat (22 : TypeId) l] (V.prop (okS n l)) = ((∃ (x : Nat), (x ≤ l.len ∧ (∀ (i : Nat), i < x → 1 ≤ nAt l i) ∧ 0 ≤ sumZ l x
∧ sumZ l x ≤ 128) ∧ (0 = (x : Int) ∧ 0 = sumZ l x ∧ True) ∧ True) ∧ ∀ (x : Nat), x ≤ l.len ∧ (∀ (i : Nat), i < x → 1 ≤ nAt l i) ∧ 0 ≤ sumZ l x ∧ sumZ l x ≤ 128 → l.len - x < LIM ∧ ((x : Int) < (l.len : Int) → 0 ≤ (x :
Int) ∧ (x : Int) < (l.len : Int) ∧ ((nAt l x < 1 → False) → 0 ≤ (x : Int) ∧ (x : Int) < (l.len : Int) ∧ ((64 < nAt l x → False) → (64 < sumZ l x → (false = true ↔ okS n l)) ∧ ((64 < sumZ l x → False) → 0 ≤ (x : Int) ∧ (x
: Int) < (l.len : Int) ∧ fits64 (sumZ l x + nAt l x) ∧ fits64 ((x : Int) + 1) ∧ ∃ (y : Nat), (y ≤ l.len ∧ (∀ (i : Nat), i < y → 1 ≤ nAt l i) ∧ 0 ≤ sumZ l y ∧ sumZ l y ≤ 128) ∧ l.len - y < l.len - x ∧ ((x : Int) + 1 = (y
: Int) ∧ sumZ l x + nAt l x = sumZ l y ∧ True) ∧ True)) ∧ (64 < nAt l x → (false = true ↔ okS n l))) ∧ (nAt l x < 1 → (false = true ↔ okS n l))) ∧ (((x : Int) < (l.len : Int) → False) → (1 ≤ n → (n ≤ 64 → (sumZ l x = n ↔
okS n l)) ∧ ((n ≤ 64 → False) → (false = true ↔ okS n l))) ∧ ((1 ≤ n → False) → (false = true ↔ okS n l)))) := by intros; kernel_rfl
theorem s19 (a b : D) (ha : a.len ≤ 16777216) : symFun (ctx cc0 ebmAnn) 3 10 [.dat 22 a, .dat 22 b] (.prop (eqN a b)) := by
 rw [vc19]
 refine ⟨fun h => iff_of_false (fun h => (by cases h)) fun h' => h (by have := h'.out.1; omega), fun h => ?_⟩
 have he := Classical.not_not.1 h
 refine ⟨⟨0, ⟨Nat.zero_le _, fun i hi => absurd hi (Nat.not_lt_zero _)⟩, ⟨rfl, trivial⟩, trivial⟩, fun x hx => ⟨?_, fun hlt => ⟨by omega, by omega, by omega, by omega, fun hn => iff_of_false (fun h => (by cases h)) fun h' => hn (h'.out.2 x (by omega)), fun hn => ⟨⟨by omega, by omega⟩, x + 1, ⟨by omega, fun i hi => ?_⟩, by omega, ⟨by omega, trivial⟩, trivial⟩⟩, fun hge => ?_⟩⟩
 ·unfold LIM; omega
 ·rcases Nat.lt_or_ge i x with h' | h'
  ·exact hx.2 i h'
  ·rw [show i = x by omega]; exact Classical.not_not.1 hn
 ·have hge := not_of hge
  exact iff_of_true rfl ⟨by omega, fun i hi => hx.2 i (by omega)⟩
theorem s39 (n : Int) (l : D) (hl : l.len ≤ 16777216) : symFun (ctx cc0 ebmAnn) 3 30 [.int .i64 n, .dat 22 l] (.prop (okS n l)) := by
 rw [vc39]
 have no : ∀ {p : Prop}, ¬ p → (false = true ↔ p) := fun h => iff_of_false (fun h => (by cases h)) h
 refine And.intro ⟨0, ⟨Nat.zero_le _, fun i hi => absurd hi (Nat.not_lt_zero _), Int.le_refl _, by show (0 : Int) ≤ 128; omega⟩, ⟨rfl, rfl, trivial⟩, trivial⟩ (fun x hx => ⟨by unfold LIM; omega, fun hlt => ⟨by omega, by omega, fun hs => ⟨by omega, by omega, fun hb => ⟨fun hc => no fun h => ?_, fun hc => ?_⟩, fun hb => no fun h => ?_⟩, fun hs => no fun h => ?_⟩, fun hge => ⟨fun h1 => ⟨fun h2 => ?_, fun h2 => no fun h => h2 h.n2⟩, fun h1 => no fun h => h1 h.n1⟩⟩)
 ·have := fit_sum h.fit (x := x) (by omega); have := h.n2; omega
 ·have hs := not_of hs; have hb := not_of hb; have hc := not_of hc
  have e : sumZ l (x + 1) = sumZ l x + nAt l x := rfl
  refine ⟨by omega, by omega, ⟨by omega, by omega⟩, ⟨by omega, by omega⟩, x + 1, ⟨by omega, fun i hi => ?_, by omega, by omega⟩, by omega, ⟨by omega, by omega, trivial⟩, trivial⟩
  rcases Nat.lt_or_ge i x with h' | h'
  ·exact hx.2.1 i h'
  ·rw [show i = x by omega]; omega
 ·have := (ok_siz h).2 x (by omega); have := h.n2; omega
 ·have := (ok_siz h).2 x (by omega); omega
 ·have hge := not_of hge
  have e : x = l.len := by omega
  subst e
  exact ⟨fun h => ⟨h1, h2, ⟨hx.2.1, h⟩⟩, fun h => h.fit.out.2⟩
structure eqNN (a b : D) : Prop where
 out : a.len = b.len ∧ ∀ i, i < a.len → eqN (el a i) (el b i)
structure eqS3 (a b : D) : Prop where
 out : a.len = b.len ∧ ∀ i, i < a.len → eqNN (el a i) (el b i)
noncomputable def con67 : Con := fun | [.dat 22 a, .dat 22 b] => some (a.len ≤ 16777216, .prop (eqN a b)) | _ => none
noncomputable def con47 : Con := fun | [.dat 41 a, .dat 41 b] => some (smE a, .prop (eqNN a b)) | _ => none
noncomputable def con66 : Con := fun | [.dat 41 ev, .int .i64 x] => some (smE ev, .int .i64 (cntF (flatL ev ev.len) x)) | _ => none
noncomputable def emAnn : FuncId → Nat → Option Ann
 | 54, 4 => some { τ := Nat, slots := fun _ _ x => [(5, .int .i64 x)], blks := fun _ _ _ => [], inv := fun S _ x => x ≤ (slD S 0).len ∧ ∀ i, i < x → nAt (slD S 0) i = nAt (slD S 1) i, meas := fun S _ x => (slD S 0).len - x }
 | 36, 4 => some { τ := Nat, slots := fun _ _ x => [(5, .int .i64 x)], blks := fun _ _ _ => [], inv := fun S _ x => x ≤ (slD S 0).len ∧ ∀ i, i < x → eqN (el (slD S 0) i) (el (slD S 1) i), meas := fun S _ x => (slD S 0).len - x }
 | 34, 4 => some { τ := Nat, slots := fun _ _ x => [(17, .int .i64 x)], blks := fun _ _ _ => [], inv := fun S _ x => x ≤ (slD S 0).len ∧ ∀ i, i < x → eqNN (el (slD S 0) i) (el (slD S 1) i), meas := fun S _ x => (slD S 0).len - x }
 | 12, 6 => some { τ := Nat, slots := fun _ _ x => [(32, .int .i64 x)], blks := fun _ _ _ => [], inv := fun S _ x => x ≤ (slD S 2).len ∧ scanK (slI S 0) (slD S 1) (slD S 2) ((slD S 2).len - x) x = scanK (slI S 0) (slD S 1) (slD S 2) (slD S 2).len 0, meas := fun S _ x => (slD S 2).len - x }
 | 31, 3 => some { τ := Nat, slots := fun S _ x => [(6, .int .i64 x), (5, .int .i64 (cntF (flatL (slD S 0) x) (slI S 1)))], blks := fun _ _ _ => [], inv := fun S _ x => x ≤ (slD S 0).len, meas := fun S _ x => (slD S 0).len - x }
 | 31, 6 => some { τ := Nat, slots := fun S _ x => [(7, .int .i64 x), (5, .int .i64 (slI S 5 + cntF ((el (slD S 0) (slI S 6).toNat).asList.take x) (slI S 1)))], blks := fun _ _ _ => [], inv := fun S _ x => x ≤ (el (slD S 0) (slI S 6).toNat).len, meas := fun S _ x => (el (slD S 0) (slI S 6).toNat).len - x }
 | _, _ => none
noncomputable def ck1 : FuncId → Option Con
 | 54 => some con67
 | _ => none
noncomputable def ck2 : FuncId → Option Con
 | 36 => some con47
 | _ => none
theorem vc67 : ∀ (a b : D), symFun (ctx cc0 emAnn) 3 (54 : FuncId) [V.dat (22 : TypeId) a, V.dat (22 : TypeId) b] (V.prop (eqN a b)) = ((((a.len : Int) = (b.len : Int) → False) → (false = true ↔ eqN a b)) ∧ ((((a.len :
Int) = (b.len : Int) → False) → False) → (∃ (x : Nat), (x ≤ a.len ∧ ∀ (i : Nat), i < x → nAt a i = nAt b i) ∧ (0 = (x : Int) ∧ True) ∧ True) ∧ ∀ (x : Nat), (x ≤ a.len ∧ ∀ (i : Nat), i < x → nAt a i = nAt b i) → a.len - x
< LIM ∧ ((x : Int) < (a.len : Int) → 0 ≤ (x : Int) ∧ (x : Int) < (a.len : Int) ∧ 0 ≤ (x : Int) ∧ (x : Int) < (b.len : Int) ∧ ((nAt a x = nAt b x → False) → (false = true ↔ eqN a b)) ∧ (((nAt a x = nAt b x → False) →
False) → fits64 ((x : Int) + 1) ∧ ∃ (y : Nat), (y ≤ a.len ∧ ∀ (i : Nat), i < y → nAt a i = nAt b i) ∧ a.len - y < a.len - x ∧ ((x : Int) + 1 = (y : Int) ∧ True) ∧ True)) ∧ (((x : Int) < (a.len : Int) → False) → (true =
true ↔ eqN a b)))) := by intros; kernel_rfl
theorem vc47 : ∀ (a b : D), symFun (ctx ck1 emAnn) 3 (36 : FuncId) [V.dat (41 : TypeId) a, V.dat (41 : TypeId) b] (V.prop (eqNN a b)) = ((((a.len : Int) = (b.len : Int) → False) → (false = true ↔ eqNN a b)) ∧ ((((a.len :
Int) = (b.len : Int) → False) → False) → (∃ (x : Nat), (x ≤ a.len ∧ ∀ (i : Nat), i < x → eqN (el a i) (el b i)) ∧ (0 = (x : Int) ∧ True) ∧ True) ∧ ∀ (x : Nat), (x ≤ a.len ∧ ∀ (i : Nat), i < x → eqN (el a i) (el b i)) →
a.len - x < LIM ∧ ((x : Int) < (a.len : Int) → 0 ≤ (x : Int) ∧ (x : Int) < (a.len : Int) ∧ 0 ≤ (x : Int) ∧ (x : Int) < (b.len : Int) ∧ (el a x).len ≤ 16777216 ∧ ((eqN (el a x) (el b x) → False) → (false = true ↔ eqNN a
b)) ∧ (((eqN (el a x) (el b x) → False) → False) → fits64 ((x : Int) + 1) ∧ ∃ (y : Nat), (y ≤ a.len ∧ ∀ (i : Nat), i < y → eqN (el a i) (el b i)) ∧ a.len - y < a.len - x ∧ ((x : Int) + 1 = (y : Int) ∧ True) ∧ True)) ∧
(((x : Int) < (a.len : Int) → False) → (true = true ↔ eqNN a b)))) := by intros; kernel_rfl
theorem vc24 : ∀ (a b : D), symFun (ctx ck2 emAnn) 5 (9 : FuncId) [V.dat (25 : TypeId) a, V.dat (25 : TypeId) b] (V.prop (eqS3 a b)) = ((((a.len : Int) = (b.len : Int) → False) → (false = true ↔ eqS3 a b)) ∧ ((((a.len :
Int) = (b.len : Int) → False) → False) → (∃ (x : Nat), (x ≤ a.len ∧ ∀ (i : Nat), i < x → eqNN (el a i) (el b i)) ∧ (0 = (x : Int) ∧ True) ∧ True) ∧ ∀ (x : Nat), (x ≤ a.len ∧ ∀ (i : Nat), i < x → eqNN (el a i) (el b i)) →
a.len - x < LIM ∧ ((x : Int) < (a.len : Int) → 0 ≤ (x : Int) ∧ (x : Int) < (a.len : Int) ∧ 0 ≤ (x : Int) ∧ (x : Int) < (b.len : Int) ∧ smE (el a x) ∧ ((eqNN (el a x) (el b x) → False) → (false = true ↔ eqS3 a b)) ∧
(((eqNN (el a x) (el b x) → False) → False) → fits64 ((x : Int) + 1) ∧ ∃ (y : Nat), (y ≤ a.len ∧ ∀ (i : Nat), i < y → eqNN (el a i) (el b i)) ∧ a.len - y < a.len - x ∧ ((x : Int) + 1 = (y : Int) ∧ True) ∧ True)) ∧ (((x :
Int) < (a.len : Int) → False) → (true = true ↔ eqS3 a b)))) := by intros; kernel_rfl
theorem vc66 : ∀ (ev : D) (x : Int), symFun (ctx cc0 emAnn) 3 (31 : FuncId) [V.dat (41 : TypeId) ev, V.int IntKind.i64 x] (V.int IntKind.i64 (cntF (flatL ev ev.len) x)) = ((∃ (x_1 : Nat), x_1.le ev.len ∧ (0 = (x_1 : Int)
∧ 0 = cntF (flatL ev x_1) x ∧ True) ∧ True) ∧ ∀ (x_1 : Nat), x_1.le ev.len → ev.len - x_1 < LIM ∧ ((x_1 : Int) < (ev.len : Int) → (∃ (x_2 : Nat), x_2.le (el ev x_1).len ∧ (0 = (x_2 : Int) ∧ cntF (flatL ev x_1) x = cntF
(flatL ev x_1) x + cntF (List.take x_2 (el ev x_1).asList) x ∧ True) ∧ True) ∧ ∀ (x_2 : Nat), x_2.le (el ev x_1).len → (el ev x_1).len - x_2 < LIM ∧ 0 ≤ (x_1 : Int) ∧ (x_1 : Int) < (ev.len : Int) ∧ ((x_2 : Int) < (↑(el
ev x_1).len : Int) → 0 ≤ (x_1 : Int) ∧ (x_1 : Int) < (ev.len : Int) ∧ 0 ≤ (x_2 : Int) ∧ (x_2 : Int) < (↑(el ev x_1).len : Int) ∧ (nAt (el ev x_1) x_2 = x → fits64 (cntF (flatL ev x_1) x + cntF (List.take x_2 (el ev
x_1).asList) x + 1) ∧ fits64 ((x_2 : Int) + 1) ∧ ∃ (y : Nat), y.le (el ev x_1).len ∧ (el ev x_1).len - y < (el ev x_1).len - x_2 ∧ ((x_2 : Int) + 1 = (y : Int) ∧ cntF (flatL ev x_1) x + cntF (List.take x_2 (el ev
x_1).asList) x + 1 = cntF (flatL ev x_1) x + cntF (List.take y (el ev x_1).asList) x ∧ True) ∧ True) ∧ ((nAt (el ev x_1) x_2 = x → False) → fits64 ((x_2 : Int) + 1) ∧ ∃ (y : Nat), y.le (el ev x_1).len ∧ (el ev x_1).len -
y < (el ev x_1).len - x_2 ∧ ((x_2 : Int) + 1 = (y : Int) ∧ cntF (flatL ev x_1) x + cntF (List.take x_2 (el ev x_1).asList) x = cntF (flatL ev x_1) x + cntF (List.take y (el ev x_1).asList) x ∧ True) ∧ True)) ∧ (((x_2 :
Int) < (↑(el ev x_1).len : Int) → False) → fits64 ((x_1 : Int) + 1) ∧ ∃ (y : Nat), y.le ev.len ∧ ev.len - y < ev.len - x_1 ∧ ((x_1 : Int) + 1 = (y : Int) ∧ cntF (flatL ev x_1) x + cntF (List.take x_2 (el ev x_1).asList)
x = cntF (flatL ev y) x ∧ True) ∧ True)) ∧ (((x_1 : Int) < (ev.len : Int) → False) → cntF (flatL ev x_1) x = cntF (flatL ev ev.len) x)) := by intros; kernel_rfl
theorem s67 (a b : D) (ha : a.len ≤ 16777216) : symFun (ctx cc0 emAnn) 3 54 [.dat 22 a, .dat 22 b] (.prop (eqN a b)) := by
 rw [vc67]
 refine ⟨fun h => no_of fun h' => h (by have := h'.out.1; omega), fun h => ?_⟩
 have he := Classical.not_not.1 h
 refine ⟨⟨0, ⟨Nat.zero_le _, fun i hi => absurd hi (Nat.not_lt_zero _)⟩, ⟨rfl, trivial⟩, trivial⟩, fun x hx => ⟨?_, fun hlt => ⟨by omega, by omega, by omega, by omega, fun hn => no_of fun h' => hn (h'.out.2 x (by omega)), fun hn => ⟨⟨by omega, by omega⟩, x + 1, ⟨by omega, fun i hi => ?_⟩, by omega, ⟨by omega, trivial⟩, trivial⟩⟩, fun hge => ?_⟩⟩
 ·unfold LIM; omega
 ·rcases Nat.lt_or_ge i x with h' | h'
  ·exact hx.2 i h'
  ·rw [show i = x by omega]; exact Classical.not_not.1 hn
 ·have hge := not_of hge
  exact iff_of_true rfl ⟨by omega, fun i hi => hx.2 i (by omega)⟩
theorem s47 (a b : D) (ha : smE a) : symFun (ctx ck1 emAnn) 3 36 [.dat 41 a, .dat 41 b] (.prop (eqNN a b)) := by
 rw [vc47]
 have hl := ha.out.1
 refine ⟨fun h => no_of fun h' => h (by have := h'.out.1; omega), fun h => ?_⟩
 have he := Classical.not_not.1 h
 refine ⟨⟨0, ⟨Nat.zero_le _, fun i hi => absurd hi (Nat.not_lt_zero _)⟩, ⟨rfl, trivial⟩, trivial⟩, fun x hx => ⟨?_, fun hlt => ⟨by omega, by omega, by omega, by omega, by have := ha.out.2 x (by omega); omega, fun hn => no_of fun h' => hn (h'.out.2 x (by omega)), fun hn => ⟨⟨by omega, by omega⟩, x + 1, ⟨by omega, fun i hi => ?_⟩, by omega, ⟨by omega, trivial⟩, trivial⟩⟩, fun hge => ?_⟩⟩
 ·unfold LIM; omega
 ·rcases Nat.lt_or_ge i x with h' | h'
  ·exact hx.2 i h'
  ·rw [show i = x by omega]; exact Classical.not_not.1 hn
 ·have hge := not_of hge
  exact iff_of_true rfl ⟨by omega, fun i hi => hx.2 i (by omega)⟩
theorem s24 (a b : D) (ha : bigP a) : symFun (ctx ck2 emAnn) 5 9 [.dat 25 a, .dat 25 b] (.prop (eqS3 a b)) := by
 rw [vc24]
 have hl := ha.out.1
 refine ⟨fun h => no_of fun h' => h (by have := h'.out.1; omega), fun h => ?_⟩
 have he := Classical.not_not.1 h
 refine ⟨⟨0, ⟨Nat.zero_le _, fun i hi => absurd hi (Nat.not_lt_zero _)⟩, ⟨rfl, trivial⟩, trivial⟩, fun x hx => ⟨?_, fun hlt => ⟨by omega, by omega, by omega, by omega, ha.out.2 x (by omega), fun hn => no_of fun h' => hn (h'.out.2 x (by omega)), fun hn => ⟨⟨by omega, by omega⟩, x + 1, ⟨by omega, fun i hi => ?_⟩, by omega, ⟨by omega, trivial⟩, trivial⟩⟩, fun hge => ?_⟩⟩
 ·unfold LIM; omega
 ·rcases Nat.lt_or_ge i x with h' | h'
  ·exact hx.2 i h'
  ·rw [show i = x by omega]; exact Classical.not_not.1 hn
 ·have hge := not_of hge
  exact iff_of_true rfl ⟨by omega, fun i hi => hx.2 i (by omega)⟩
theorem s66 (ev : D) (x : Int) (h : smE ev) : symFun (ctx cc0 emAnn) 3 31 [.dat 41 ev, .int .i64 x] (.int .i64 (cntF (flatL ev ev.len) x)) := by
 rw [vc66]
 have hl := h.out.1
 refine And.intro ⟨0, Nat.zero_le _, ⟨rfl, rfl, trivial⟩, trivial⟩ (fun i hi => ?_)
 have hi : i ≤ ev.len := hi
 refine ⟨lim_of (by omega), fun hlt => ?_, fun hge => ?_⟩
 ·have h2 := h.out.2 i (by omega)
  have c1 := cntF_rng (flatL ev i) x
  have c2 := tot_le h.out.2 i hi
  rw [flat_len] at c1
  refine And.intro ⟨0, Nat.zero_le _, ⟨rfl, by show _ = _ + (0 : Int); omega, trivial⟩, trivial⟩ (fun j hj => ?_)
  have hj : j ≤ (el ev i).len := hj
  have c3 := cntF_rng (List.take j (el ev i).asList) x
  have c4 : (List.take j (el ev i).asList).length ≤ j := by rw [List.length_take]; omega
  refine ⟨lim_of (by omega), by omega, by omega, fun hlt2 => ⟨by omega, by omega, by omega, by omega, fun he => ?_, fun he => ?_⟩, fun hge => ?_⟩
  ·have k : cntF ((el ev i).asList.take (j + 1)) x = cntF ((el ev i).asList.take j) x + (if nAt (el ev i) j = x then 1 else 0) := cntF_succ (l := (el ev i).asList) (i := j) (show j < (el ev i).len by omega) x
   rw [if_pos he] at k
   exact ⟨⟨by omega, by omega⟩, ⟨by omega, by omega⟩, j + 1, show j + 1 ≤ (el ev i).len by omega, by omega, ⟨by omega, by omega, trivial⟩, trivial⟩
  ·have k : cntF ((el ev i).asList.take (j + 1)) x = cntF ((el ev i).asList.take j) x + (if nAt (el ev i) j = x then 1 else 0) := cntF_succ (l := (el ev i).asList) (i := j) (show j < (el ev i).len by omega) x
   rw [if_neg he] at k
   exact ⟨⟨by omega, by omega⟩, j + 1, show j + 1 ≤ (el ev i).len by omega, by omega, ⟨by omega, by omega, trivial⟩, trivial⟩
  ·have hge := not_of hge
   have e : List.take j (el ev i).asList = (el ev i).asList := List.take_of_length_le (by show (el ev i).len ≤ j; omega)
   have e2 : cntF (flatL ev (i + 1)) x = cntF (flatL ev i) x + cntF (el ev i).asList x := cntF_app _ _ _
   exact ⟨⟨by omega, by omega⟩, i + 1, show i + 1 ≤ ev.len by omega, by omega, ⟨by omega, by rw [e, e2], trivial⟩, trivial⟩
 ·have hge := not_of hge
  rw [show i = ev.len by omega]
end Go.Ev

end
