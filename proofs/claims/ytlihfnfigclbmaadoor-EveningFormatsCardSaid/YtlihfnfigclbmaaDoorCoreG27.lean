/-
  Part of the engine that the claim is proved with: it states nothing of the document by itself.
-/
import Derived.Test.YtlihfnfigclbmaaDoorCoreG26

section
open Go.Proofs
namespace Go.Ev
set_option maxRecDepth 100000
set_option maxHeartbeats 4000000
def tailC (l : D) (s : List UInt8) : Prop :=
(∃ (x : Nat), x.le (l.len - (1 : Nat)) ∧ ((0 : Int) = (↑x : Int) ∧ True) ∧ (True ∧ ((0 : Nat) = (0 : Nat) ∧ (sAt l (0 : Nat)).length = (sAt l (0 : Nat) ++ catB l s x).length ∧ True) ∧ True) ∧ strD
(sAt l (0 : Nat)) = strD (sAt l (0 : Nat) ++ catB l s x) ∧ True) ∧ ∀ (x : Nat), x.le (l.len - (1 : Nat)) → l.len - x < LIM ∧ ((↑x : Int) < (↑(l.sub (Int.toNat (1 : Int)) (l.len - Int.toNat (1 :
Int))).len : Int) → (0 : Int) ≤ (↑x : Int) ∧ (↑x : Int) < (↑(l.sub (Int.toNat (1 : Int)) (l.len - Int.toNat (1 : Int))).len : Int) ∧ (0 : Nat) < s.length ∧ (0 : Nat) + (sAt l (0 : Nat) ++ catB l s
x).length ≤ (strD (sAt l (0 : Nat) ++ catB l s x)).length ∧ (sAt l (0 : Nat) ++ catB l s x).length + s.length ≤ (16777216 : Nat) ∧ (0 : Nat) < (sAt (l.sub (Int.toNat (1 : Int)) (l.len - Int.toNat (1 :
Int))) x).length ∧ (0 : Nat) + ((sAt l (0 : Nat) ++ catB l s x).length + s.length) ≤ (List.take (sAt l (0 : Nat) ++ catB l s x).length (strD (sAt l (0 : Nat) ++ catB l s x)) ++ strD s).length ∧ (sAt l
(0 : Nat) ++ catB l s x).length + s.length + (sAt (l.sub (Int.toNat (1 : Int)) (l.len - Int.toNat (1 : Int))) x).length ≤ (16777216 : Nat) ∧ ((-9223372036854775808 : Int) ≤ (↑x : Int) + (1 : Int) ∧
(↑x : Int) + (1 : Int) < (9223372036854775808 : Int)) ∧ ∃ (y : Nat), y.le (l.len - (1 : Nat)) ∧ l.len - y < l.len - x ∧ ((↑x : Int) + (1 : Int) = (↑y : Int) ∧ True) ∧ (True ∧ ((0 : Nat) = (0 : Nat) ∧
(sAt l (0 : Nat) ++ catB l s x).length + s.length + (sAt (l.sub (Int.toNat (1 : Int)) (l.len - Int.toNat (1 : Int))) x).length = (sAt l (0 : Nat) ++ catB l s y).length ∧ True) ∧ True) ∧ List.take
((sAt l (0 : Nat) ++ catB l s x).length + s.length) (List.take (sAt l (0 : Nat) ++ catB l s x).length (strD (sAt l (0 : Nat) ++ catB l s x)) ++ strD s) ++ strD (sAt (l.sub (Int.toNat (1 : Int)) (l.len
- Int.toNat (1 : Int))) x) = strD (sAt l (0 : Nat) ++ catB l s y) ∧ True) ∧ (((↑x : Int) < (↑(l.sub (Int.toNat (1 : Int)) (l.len - Int.toNat (1 : Int))).len : Int) → False) → ((sAt l (0 : Nat) ++ catB
l s x).length = (0 : Nat) → False) ∧ (0 : Int) ≤ (↑(sAt l (0 : Nat) ++ catB l s x).length : Int) ∧ (0 : Nat) < (sAt l (0 : Nat) ++ catB l s x).length ∧ (sAt l (0 : Nat) ++ catB l s x).length ≤
(16777216 : Nat) ∧ (0 : Nat) + (sAt l (0 : Nat) ++ catB l s x).length ≤ (strD (sAt l (0 : Nat) ++ catB l s x)).length ∧ byteL (List.take (sAt l (0 : Nat) ++ catB l s x).length (strD (sAt l (0 : Nat)
++ catB l s x))) ∧ bytesD (List.take (sAt l (0 : Nat) ++ catB l s x).length (strD (sAt l (0 : Nat) ++ catB l s x))) = joinB l s)
theorem vc70 : ∀ (l : D) (s : List UInt8), symFun (ctx cc0 efAnn) (8 : Nat) (70 : FuncId) [V.dat (90 : TypeId) l, V.str s] (V.str (joinB l s)) = (((↑l.len : Int) = (0 : Int) → [] = joinB l s) ∧
(((↑l.len : Int) = (0 : Int) → False) → ((↑l.len : Int) = (1 : Int) → (0 : Int) ≤ (0 : Int) ∧ (0 : Int) < (↑l.len : Int) ∧ (sAt l (0 : Nat)) = joinB l s) ∧ (((↑l.len : Int) = (1 : Int) → False) → ((0
: Int) < (↑s.length : Int) → ((-9223372036854775808 : Int) ≤ (↑l.len : Int) - (1 : Int) ∧ (↑l.len : Int) - (1 : Int) < (9223372036854775808 : Int)) ∧ ((↑l.len : Int) - (1 : Int) = (0 : Int) → False) ∧
((-9223372036854775808 : Int) ≤ Int.tdiv (9223372036854775807 : Int) ((↑l.len : Int) - (1 : Int)) ∧ Int.tdiv (9223372036854775807 : Int) ((↑l.len : Int) - (1 : Int)) < (9223372036854775808 : Int)) ∧
(Int.tdiv (9223372036854775807 : Int) ((↑l.len : Int) - (1 : Int)) ≤ (↑s.length : Int) → False) ∧ ((Int.tdiv (9223372036854775807 : Int) ((↑l.len : Int) - (1 : Int)) ≤ (↑s.length : Int) → False) →
((-9223372036854775808 : Int) ≤ (↑l.len : Int) - (1 : Int) ∧ (↑l.len : Int) - (1 : Int) < (9223372036854775808 : Int)) ∧ ((-9223372036854775808 : Int) ≤ (↑s.length : Int) * ((↑l.len : Int) - (1 :
Int)) ∧ (↑s.length : Int) * ((↑l.len : Int) - (1 : Int)) < (9223372036854775808 : Int)) ∧ ((-9223372036854775808 : Int) ≤ (0 : Int) + (↑s.length : Int) * ((↑l.len : Int) - (1 : Int)) ∧ (0 : Int) +
(↑s.length : Int) * ((↑l.len : Int) - (1 : Int)) < (9223372036854775808 : Int)) ∧ (∃ (x : Nat × Int), (x.fst ≤ l.len ∧ (0 : Int) ≤ x.snd ∧ x.snd ≤ (10000 : Int) + (100 : Int) * (↑x.fst : Int) ∧ ((0 :
Nat) < x.fst → (1 : Int) ≤ x.snd)) ∧ ((0 : Int) = (↑x.fst : Int) ∧ (0 : Int) + (↑s.length : Int) * ((↑l.len : Int) - (1 : Int)) = x.snd ∧ True) ∧ True) ∧ ∀ (x : Nat × Int), x.fst ≤ l.len ∧ (0 : Int) ≤
x.snd ∧ x.snd ≤ (10000 : Int) + (100 : Int) * (↑x.fst : Int) ∧ ((0 : Nat) < x.fst → (1 : Int) ≤ x.snd) → l.len - x.fst < LIM ∧ ((↑x.fst : Int) < (↑l.len : Int) → (0 : Int) ≤ (↑x.fst : Int) ∧ (↑x.fst :
Int) < (↑l.len : Int) ∧ ((-9223372036854775808 : Int) ≤ (9223372036854775807 : Int) - x.snd ∧ (9223372036854775807 : Int) - x.snd < (9223372036854775808 : Int)) ∧ ((9223372036854775807 : Int) - x.snd
< (↑(sAt l x.fst).length : Int) → False) ∧ (((9223372036854775807 : Int) - x.snd < (↑(sAt l x.fst).length : Int) → False) → ((-9223372036854775808 : Int) ≤ x.snd + (↑(sAt l x.fst).length : Int) ∧
x.snd + (↑(sAt l x.fst).length : Int) < (9223372036854775808 : Int)) ∧ ((-9223372036854775808 : Int) ≤ (↑x.fst : Int) + (1 : Int) ∧ (↑x.fst : Int) + (1 : Int) < (9223372036854775808 : Int)) ∧ ∃ (y :
Nat × Int), (y.fst ≤ l.len ∧ (0 : Int) ≤ y.snd ∧ y.snd ≤ (10000 : Int) + (100 : Int) * (↑y.fst : Int) ∧ ((0 : Nat) < y.fst → (1 : Int) ≤ y.snd)) ∧ l.len - y.fst < l.len - x.fst ∧ ((↑x.fst : Int) + (1
: Int) = (↑y.fst : Int) ∧ x.snd + (↑(sAt l x.fst).length : Int) = y.snd ∧ True) ∧ True)) ∧ (((↑x.fst : Int) < (↑l.len : Int) → False) → (x.snd < (0 : Int) → False) ∧ ((x.snd < (0 : Int) → False) →
(Int.ofNat Nat.zero < x.snd → ((-9223372036854775808 : Int) ≤ Int.ofNat Nat.zero + x.snd ∧ Int.ofNat Nat.zero + x.snd < (9223372036854775808 : Int)) ∧ (0 : Int) ≤ Int.ofNat Nat.zero + x.snd ∧
Int.ofNat Nat.zero + x.snd ≤ (16777216 : Int) ∧ (0 : Int) ≤ (0 : Int) ∧ (0 : Int) ≤ (0 : Int) ∧ ((↑(Int.ofNat Nat.zero + x.snd).toNat : Int) - (0 : Int)).NonNeg ∧ (0 : Int) ≤ (0 : Int) ∧ (0 : Int) <
(↑l.len : Int) ∧ (0 : Nat) < (sAt l (0 : Nat)).length ∧ (0 : Nat) + (0 : Nat) + ((0 : Nat) - (0 : Nat)) ≤ ([] : List D).length ∧ (0 : Nat) - (0 : Nat) + (sAt l (0 : Nat)).length ≤ (16777216 : Nat) ∧
(0 : Int) ≤ (1 : Int) ∧ (1 : Int) ≤ (↑l.len : Int) ∧ (↑l.len : Int) ≤ (↑l.len : Int) ∧ tailC l s) ∧ ((Int.ofNat Nat.zero < x.snd → False) → (0 : Int) ≤ (0 : Int) ∧ (0 : Int) < (↑l.len : Int) ∧ (0 :
Nat) < (sAt l (0 : Nat)).length ∧ (sAt l (0 : Nat)).length ≤ (16777216 : Nat) ∧ (0 : Int) ≤ (1 : Int) ∧ (1 : Int) ≤ (↑l.len : Int) ∧ (↑l.len : Int) ≤ (↑l.len : Int) ∧ tailC l s))))) ∧ (((0 : Int) <
(↑s.length : Int) → False) → (∃ (x : Nat × Int), (x.fst ≤ l.len ∧ (0 : Int) ≤ x.snd ∧ x.snd ≤ (10000 : Int) + (100 : Int) * (↑x.fst : Int) ∧ ((0 : Nat) < x.fst → (1 : Int) ≤ x.snd)) ∧ ((0 : Int) =
(↑x.fst : Int) ∧ (0 : Int) = x.snd ∧ True) ∧ True) ∧ ∀ (x : Nat × Int), x.fst ≤ l.len ∧ (0 : Int) ≤ x.snd ∧ x.snd ≤ (10000 : Int) + (100 : Int) * (↑x.fst : Int) ∧ ((0 : Nat) < x.fst → (1 : Int) ≤
x.snd) → l.len - x.fst < LIM ∧ ((↑x.fst : Int) < (↑l.len : Int) → (0 : Int) ≤ (↑x.fst : Int) ∧ (↑x.fst : Int) < (↑l.len : Int) ∧ ((-9223372036854775808 : Int) ≤ (9223372036854775807 : Int) - x.snd ∧
(9223372036854775807 : Int) - x.snd < (9223372036854775808 : Int)) ∧ ((9223372036854775807 : Int) - x.snd < (↑(sAt l x.fst).length : Int) → False) ∧ (((9223372036854775807 : Int) - x.snd < (↑(sAt l
x.fst).length : Int) → False) → ((-9223372036854775808 : Int) ≤ x.snd + (↑(sAt l x.fst).length : Int) ∧ x.snd + (↑(sAt l x.fst).length : Int) < (9223372036854775808 : Int)) ∧ ((-9223372036854775808 :
Int) ≤ (↑x.fst : Int) + (1 : Int) ∧ (↑x.fst : Int) + (1 : Int) < (9223372036854775808 : Int)) ∧ ∃ (y : Nat × Int), (y.fst ≤ l.len ∧ (0 : Int) ≤ y.snd ∧ y.snd ≤ (10000 : Int) + (100 : Int) * (↑y.fst :
Int) ∧ ((0 : Nat) < y.fst → (1 : Int) ≤ y.snd)) ∧ l.len - y.fst < l.len - x.fst ∧ ((↑x.fst : Int) + (1 : Int) = (↑y.fst : Int) ∧ x.snd + (↑(sAt l x.fst).length : Int) = y.snd ∧ True) ∧ True)) ∧
(((↑x.fst : Int) < (↑l.len : Int) → False) → (x.snd < (0 : Int) → False) ∧ ((x.snd < (0 : Int) → False) → (Int.ofNat Nat.zero < x.snd → ((-9223372036854775808 : Int) ≤ Int.ofNat Nat.zero + x.snd ∧
Int.ofNat Nat.zero + x.snd < (9223372036854775808 : Int)) ∧ (0 : Int) ≤ Int.ofNat Nat.zero + x.snd ∧ Int.ofNat Nat.zero + x.snd ≤ (16777216 : Int) ∧ (0 : Int) ≤ (0 : Int) ∧ (0 : Int) ≤ (0 : Int) ∧
((↑(Int.ofNat Nat.zero + x.snd).toNat : Int) - (0 : Int)).NonNeg ∧ (0 : Int) ≤ (0 : Int) ∧ (0 : Int) < (↑l.len : Int) ∧ (0 : Nat) < (sAt l (0 : Nat)).length ∧ (0 : Nat) + (0 : Nat) + ((0 : Nat) - (0 :
Nat)) ≤ ([] : List D).length ∧ (0 : Nat) - (0 : Nat) + (sAt l (0 : Nat)).length ≤ (16777216 : Nat) ∧ (0 : Int) ≤ (1 : Int) ∧ (1 : Int) ≤ (↑l.len : Int) ∧ (↑l.len : Int) ≤ (↑l.len : Int) ∧ tailC l s) ∧
((Int.ofNat Nat.zero < x.snd → False) → (0 : Int) ≤ (0 : Int) ∧ (0 : Int) < (↑l.len : Int) ∧ (0 : Nat) < (sAt l (0 : Nat)).length ∧ (sAt l (0 : Nat)).length ≤ (16777216 : Nat) ∧ (0 : Int) ≤ (1 : Int)
∧ (1 : Int) ≤ (↑l.len : Int) ∧ (↑l.len : Int) ≤ (↑l.len : Int) ∧ tailC l s))))))) := by intros; kernel_rfl
theorem strD_app (a b : List UInt8) : strD (a ++ b) = strD a ++ strD b := List.map_append
theorem strD_len (a : List UInt8) : (strD a).length = a.length := List.length_map _
theorem strD_take (a : List UInt8) (n : Nat) (h : n = a.length) : List.take n (strD a) = strD a := List.take_of_length_le (by rw [strD_len]; omega)
theorem bytesD_strD : ∀ s : List UInt8, bytesD (strD s) = s
 | [] => rfl
 | b :: s => by
  have := bytesD_strD s
  unfold bytesD strD at this ⊢
  rw [List.map_cons, List.map_cons, this]
  congr 1
  show UInt8.ofNat (Int.toNat (b.toNat : Int)) = b
  rw [Int.toNat_natCast, UInt8.ofNat_toNat]
theorem byteL_strD (s : List UInt8) : byteL (strD s) := ⟨fun d hd => by
 obtain ⟨b, _, rfl⟩ := List.mem_map.1 hd
 exact ⟨b.toNat, b.toNat_lt, rfl⟩⟩
theorem cat_len (l : D) (s : List UInt8) (h : joinP l s) : ∀ x, x + 1 ≤ l.len → (catB l s x).length ≤ 200 * x
 | 0, _ => Nat.le_refl _
 | x + 1, hx => by
  have h1 := cat_len l s h x (by omega)
  have h2 := (h.out.2.2 (x + 1) (by omega)).2
  have h3 := h.out.2.1.2
  unfold catB
  rw [List.length_append, List.length_append]; omega
theorem sub1_len (l : D) (h : 1 ≤ l.len) : (l.sub (Int.toNat 1) (l.len - Int.toNat 1)).len = l.len - 1 := by
 cases l <;> simp [D.sub, D.len, D.asList] at h ⊢
theorem sub1_at (l : D) (x : Nat) (h : x + 1 < l.len) : sAt (l.sub (Int.toNat 1) (l.len - Int.toNat 1)) x = sAt l (x + 1) := by
 unfold sAt
 cases l with
 | list l =>
  simp only [D.sub, D.asList, nthD, D.len] at h ⊢
  rw [List.getElem?_take, if_pos (by show x < l.length - 1; omega), List.getElem?_drop, show Int.toNat 1 + x = x + 1 from Nat.add_comm 1 x]
 | _ => simp [D.len, D.asList] at h
theorem tail_ok (l : D) (s : List UInt8) (h : joinP l s) (h2 : 2 ≤ l.len) : tailC l s := by
 have hl := h.out.1
 have hs := h.out.2.1
 have hB : ∀ x, x + 1 ≤ l.len → 1 ≤ (sAt l 0 ++ catB l s x).length ∧ (sAt l 0 ++ catB l s x).length ≤ 100 + 200 * x := fun x hx => by
  have h1 := cat_len l s h x hx
  have h3 := h.out.2.2 0 (by omega)
  rw [List.length_append]; omega
 unfold tailC
 rw [sub1_len l (by omega)]
 refine ⟨⟨0, Nat.zero_le _, ⟨rfl, trivial⟩, ⟨trivial, ⟨rfl, by simp [catB], trivial⟩, trivial⟩, by rw [show catB l s 0 = [] from rfl, List.append_nil], trivial⟩, fun x hx => ?_⟩
 have hx : x ≤ l.len - 1 := hx
 have hb := hB x (by omega)
 refine ⟨by unfold LIM; omega, fun hlt => ?_, fun hge => ?_⟩
 ·have hlt : x + 1 < l.len := by omega
  have hb1 := hB (x + 1) (by omega)
  have he := h.out.2.2 (x + 1) (by omega)
  have e1 : sAt l 0 ++ catB l s (x + 1) = (sAt l 0 ++ catB l s x) ++ s ++ sAt l (x + 1) := by
   show sAt l 0 ++ (catB l s x ++ (s ++ sAt l (x + 1))) = _
   simp only [List.append_assoc]
  rw [sub1_at l x hlt]
  have el : (sAt l 0 ++ catB l s (x + 1)).length = (sAt l 0 ++ catB l s x).length + s.length + (sAt l (x + 1)).length := by rw [e1, List.length_append, List.length_append]
  refine ⟨by omega, by omega, by omega, by rw [strD_len]; omega, by omega, by omega, by simp only [List.length_append, List.length_take, strD_len]; omega, by omega, ⟨by omega, by omega⟩, x + 1, show x + 1 ≤ l.len - 1 by omega, by omega, ⟨by omega, trivial⟩, ⟨trivial, ⟨rfl, el.symm, trivial⟩, trivial⟩, ?_, trivial⟩
  rw [strD_take _ _ rfl, ← strD_app, strD_take _ _ List.length_append.symm, ← strD_app, e1]
 ·have hxl : x = l.len - 1 := by have : ¬ (x : Int) < ((l.len - 1 : Nat) : Int) := hge; omega
  subst hxl
  refine ⟨fun h => by omega, by omega, by omega, by omega, by rw [strD_len]; omega, by rw [strD_take _ _ rfl]; exact byteL_strD _, ?_⟩
  rw [strD_take _ _ rfl, bytesD_strD]
  unfold joinB; rw [if_neg (by omega)]
theorem s70 (l : D) (s : List UInt8) (h : joinP l s) : symFun (ctx cc0 efAnn) 8 70 [.dat 90 l, .str s] (.str (joinB l s)) := by
 obtain ⟨hl, hs, he⟩ := h.out
 rw [vc70]
 refine ⟨fun h0 => ?_, fun h0 => ⟨fun h1 => ⟨by omega, by omega, ?_⟩, fun h1 => ⟨fun hsp => ?_, fun hsp => absurd (by omega) hsp⟩⟩⟩
 ·unfold joinB; rw [if_pos (by omega)]
 ·unfold joinB; rw [if_neg (by omega), show l.len - 1 = 0 by omega]; simp [catB]
 ·have h0 : ¬ (l.len : Int) = 0 := h0
  have h1 : ¬ (l.len : Int) = 1 := h1
  have hT : 1000 ≤ Int.tdiv 9223372036854775807 ((l.len : Int) - 1) ∧ Int.tdiv 9223372036854775807 ((l.len : Int) - 1) ≤ 9223372036854775807 := by
   rw [Int.tdiv_eq_ediv_of_nonneg (by omega)]
   exact ⟨Int.le_ediv_of_mul_le (by omega) (by omega), Int.ediv_le_self _ (by omega)⟩
  have hM : 0 ≤ (s.length : Int) * ((l.len : Int) - 1) ∧ (s.length : Int) * ((l.len : Int) - 1) ≤ 100 * 100 :=
   ⟨Int.mul_nonneg (by omega) (by omega), Int.mul_le_mul (by omega) (by omega) (by omega) (by omega)⟩
  generalize Int.tdiv 9223372036854775807 ((l.len : Int) - 1) = T at *
  generalize (s.length : Int) * ((l.len : Int) - 1) = M at *
  refine ⟨⟨by omega, by omega⟩, fun h => by omega, ⟨by omega, by omega⟩, fun h => by omega, fun _ => ⟨⟨by omega, by omega⟩, ⟨by omega, by omega⟩, ⟨by omega, by omega⟩, ⟨(0, 0 + M), ⟨Nat.zero_le _, by show 0 ≤ 0 + M; omega, by show 0 + M ≤ 10000 + 100 * ((0 : Nat) : Int); omega, fun h => absurd h (Nat.lt_irrefl 0)⟩, ⟨rfl, rfl, trivial⟩, trivial⟩, fun x ⟨hx, q0, q1, q2⟩ => ⟨by unfold LIM; omega, fun hlt => ?_, fun hge => ?_⟩⟩⟩
  ·have hx1 := he x.1 (by omega)
   refine ⟨by omega, hlt, ⟨by omega, by omega⟩, fun h => by omega, fun _ => ⟨⟨by omega, by omega⟩, ⟨by omega, by omega⟩, (x.1 + 1, x.2 + ((sAt l x.1).length : Int)), ⟨by show x.1 + 1 ≤ l.len; omega, by show 0 ≤ x.2 + ((sAt l x.1).length : Int); omega, by show x.2 + ((sAt l x.1).length : Int) ≤ 10000 + 100 * ((x.1 + 1 : Nat) : Int); omega, fun _ => by show 1 ≤ x.2 + ((sAt l x.1).length : Int); omega⟩, by show l.len - (x.1 + 1) < l.len - x.1; omega, ⟨by show (x.1 : Int) + 1 = ((x.1 + 1 : Nat) : Int); omega, rfl, trivial⟩, trivial⟩⟩
  ·have hge : ¬ (x.1 : Int) < l.len := hge
   have q3 := q2 (by omega)
   have e0 := he 0 (by omega)
   refine ⟨fun h => by omega, fun _ => ⟨fun _ => ?_, fun h => absurd (show (0 : Int) < x.2 by omega) h⟩⟩
   have ez : Int.ofNat Nat.zero + x.2 = x.2 := Int.zero_add _
   rw [ez]
   refine ⟨⟨by omega, by omega⟩, by omega, by omega, by omega, by omega, ?_, by omega, by omega, by omega, by simp, by omega, by omega, by omega, by omega, tail_ok l s h (by omega)⟩
   show (0 : Int) ≤ ((x.2.toNat : Nat) : Int)
   omega
end Go.Ev

end

section
open Go.Proofs
namespace Go.Ev
set_option maxRecDepth 100000
set_option maxHeartbeats 4000000
theorem vc51 : ∀ (t : D), symFun (ctx ef1 efAnn) (4 : Nat) (51 : FuncId) [V.dat (24 : TypeId) t] (V.str (wrB t t.len)) = ((0 : Int) ≤ (↑t.len : Int) ∧ (↑t.len : Int) ≤ (↑t.len : Int) ∧ (↑t.len : Int)
 ≤ (16777216 : Int) ∧ (16 : Nat) * t.len ≤ (281474976710656 : Nat) ∧ (∃ (x : Nat × List D), (x.fst ≤ t.len ∧ x.snd.length = t.len ∧ List.take x.fst x.snd = wordsT t x.fst) ∧ ((0 : Int) = (↑x.fst : Int)
 ∧ True) ∧ List.replicate t.len (D.str []) = x.snd ∧ True) ∧ ∀ (x : Nat × List D), x.fst ≤ t.len ∧ x.snd.length = t.len ∧ List.take x.fst x.snd = wordsT t x.fst → t.len - x.fst < LIM ∧ ((↑x.fst : Int)
 < (↑t.len : Int) → (0 : Int) ≤ (↑x.fst : Int) ∧ (↑x.fst : Int) < (↑t.len : Int) ∧ ((0 : Int) ≤ nAt t x.fst ∧ nAt t x.fst ≤ (99 : Int)) ∧ (0 : Int) ≤ (↑x.fst : Int) ∧ (↑x.fst : Int) < (↑t.len : Int) ∧
 x.fst < x.snd.length ∧ ((-9223372036854775808 : Int) ≤ (↑x.fst : Int) + (1 : Int) ∧ (↑x.fst : Int) + (1 : Int) < (9223372036854775808 : Int)) ∧ ∃ (y : Nat × List D), (y.fst ≤ t.len ∧ y.snd.length =
 t.len ∧ List.take y.fst y.snd = wordsT t y.fst) ∧ t.len - y.fst < t.len - x.fst ∧ ((↑x.fst : Int) + (1 : Int) = (↑y.fst : Int) ∧ True) ∧ x.snd.set x.fst (D.str (decB (nAt t x.fst))) = y.snd ∧ True) ∧
 (((↑x.fst : Int) < (↑t.len : Int) → False) → (0 : Nat) + t.len ≤ x.snd.length ∧ joinP (D.list (List.take t.len x.snd)) [(32 : UInt8)] ∧ joinB (D.list (List.take t.len x.snd)) [(32 : UInt8)] = wrB t
 t.len)) := by intros; kernel_rfl
theorem vc26 : ∀ (s : D), symFun (ctxj ef1 efAnn efJoin) (4 : Nat) (26 : FuncId) [V.dat (33 : TypeId) s] (V.str (fmtS s s.len)) = ((∃ (x : Nat), x.le s.len ∧ ((0 : Int) = (↑x : Int) ∧ [] = fmtS s x ∧
 True) ∧ True) ∧ ∀ (x : Nat), x.le s.len → s.len - x < LIM ∧ ((↑x : Int) < (↑s.len : Int) → (∃ (x_1 : Nat), x_1.le (el s x).len ∧ ((0 : Int) = (↑x_1 : Int) ∧ fmtS s x = fmtS s x ++ eveB (el s x) x_1 ∧
 True) ∧ True) ∧ ∀ (x_1 : Nat), x_1.le (el s x).len → (el s x).len - x_1 < LIM ∧ (0 : Int) ≤ (↑x : Int) ∧ (↑x : Int) < (↑s.len : Int) ∧ ((↑x_1 : Int) < (↑(el s x).len : Int) → (((0 : Int) < (↑x_1 :
 Int) → (fmtS s x ++ eveB (el s x) x_1).length + [(32 : UInt8), (47 : UInt8), (32 : UInt8)].length < (9223372036854775808 : Nat) ∧ ∃ (_ : Unit), True ∧ (fmtS s x ++ eveB (el s x) x_1 ++ [(32 :
 UInt8), (47 : UInt8), (32 : UInt8)] = fmtS s x ++ eveB (el s x) x_1 ++ sepB x_1 ∧ True) ∧ True) ∧ (((0 : Int) < (↑x_1 : Int) → False) → ∃ (_ : Unit), True ∧ (fmtS s x ++ eveB (el s x) x_1 = fmtS s x
 ++ eveB (el s x) x_1 ++ sepB x_1 ∧ True) ∧ True)) ∧ ∀ (_ : Unit), True → (∃ (x_3 : Nat), x_3.le (el (el s x) x_1).len ∧ ((0 : Int) = (↑x_3 : Int) ∧ fmtS s x ++ eveB (el s x) x_1 ++ sepB x_1 = fmtS s
 x ++ eveB (el s x) x_1 ++ (sepB x_1 ++ wrB (el (el s x) x_1) x_3) ∧ True) ∧ True) ∧ ∀ (x_3 : Nat), x_3.le (el (el s x) x_1).len → (el (el s x) x_1).len - x_3 < LIM ∧ (0 : Int) ≤ (↑x : Int) ∧ (↑x :
 Int) < (↑s.len : Int) ∧ (0 : Int) ≤ (↑x_1 : Int) ∧ (↑x_1 : Int) < (↑(el s x).len : Int) ∧ ((↑x_3 : Int) < (↑(el (el s x) x_1).len : Int) → (((0 : Int) < (↑x_3 : Int) → (fmtS s x ++ eveB (el s x) x_1
 ++ (sepB x_1 ++ wrB (el (el s x) x_1) x_3)).length + [(32 : UInt8)].length < (9223372036854775808 : Nat) ∧ ∃ (_ : Unit), True ∧ (fmtS s x ++ eveB (el s x) x_1 ++ (sepB x_1 ++ wrB (el (el s x) x_1)
 x_3) ++ [(32 : UInt8)] = fmtS s x ++ eveB (el s x) x_1 ++ (sepB x_1 ++ (wrB (el (el s x) x_1) x_3 ++ spcB x_3)) ∧ True) ∧ True) ∧ (((0 : Int) < (↑x_3 : Int) → False) → ∃ (_ : Unit), True ∧ (fmtS s x
 ++ eveB (el s x) x_1 ++ (sepB x_1 ++ wrB (el (el s x) x_1) x_3) = fmtS s x ++ eveB (el s x) x_1 ++ (sepB x_1 ++ (wrB (el (el s x) x_1) x_3 ++ spcB x_3)) ∧ True) ∧ True)) ∧ ∀ (_ : Unit), True → (0 :
 Int) ≤ (↑x : Int) ∧ (↑x : Int) < (↑s.len : Int) ∧ (0 : Int) ≤ (↑x_1 : Int) ∧ (↑x_1 : Int) < (↑(el s x).len : Int) ∧ (0 : Int) ≤ (↑x_3 : Int) ∧ (↑x_3 : Int) < (↑(el (el s x) x_1).len : Int) ∧ ((0 :
 Int) ≤ nAt (el (el s x) x_1) x_3 ∧ nAt (el (el s x) x_1) x_3 ≤ (99 : Int)) ∧ (fmtS s x ++ eveB (el s x) x_1 ++ (sepB x_1 ++ (wrB (el (el s x) x_1) x_3 ++ spcB x_3))).length + (decB (nAt (el (el s x)
 x_1) x_3)).length < (9223372036854775808 : Nat) ∧ ((-9223372036854775808 : Int) ≤ (↑x_3 : Int) + (1 : Int) ∧ (↑x_3 : Int) + (1 : Int) < (9223372036854775808 : Int)) ∧ ∃ (y : Nat), y.le (el (el s x)
 x_1).len ∧ (el (el s x) x_1).len - y < (el (el s x) x_1).len - x_3 ∧ ((↑x_3 : Int) + (1 : Int) = (↑y : Int) ∧ fmtS s x ++ eveB (el s x) x_1 ++ (sepB x_1 ++ (wrB (el (el s x) x_1) x_3 ++ spcB x_3)) ++
 decB (nAt (el (el s x) x_1) x_3) = fmtS s x ++ eveB (el s x) x_1 ++ (sepB x_1 ++ wrB (el (el s x) x_1) y) ∧ True) ∧ True) ∧ (((↑x_3 : Int) < (↑(el (el s x) x_1).len : Int) → False) →
 ((-9223372036854775808 : Int) ≤ (↑x_1 : Int) + (1 : Int) ∧ (↑x_1 : Int) + (1 : Int) < (9223372036854775808 : Int)) ∧ ∃ (y : Nat), y.le (el s x).len ∧ (el s x).len - y < (el s x).len - x_1 ∧ ((↑x_1 :
 Int) + (1 : Int) = (↑y : Int) ∧ fmtS s x ++ eveB (el s x) x_1 ++ (sepB x_1 ++ wrB (el (el s x) x_1) x_3) = fmtS s x ++ eveB (el s x) y ∧ True) ∧ True)) ∧ (((↑x_1 : Int) < (↑(el s x).len : Int) →
 False) → (fmtS s x ++ eveB (el s x) x_1).length + [(10 : UInt8)].length < (9223372036854775808 : Nat) ∧ ((-9223372036854775808 : Int) ≤ (↑x : Int) + (1 : Int) ∧ (↑x : Int) + (1 : Int) <
 (9223372036854775808 : Int)) ∧ ∃ (y : Nat), y.le s.len ∧ s.len - y < s.len - x ∧ ((↑x : Int) + (1 : Int) = (↑y : Int) ∧ fmtS s x ++ eveB (el s x) x_1 ++ [(10 : UInt8)] = fmtS s y ∧ True) ∧ True)) ∧
 (((↑x : Int) < (↑s.len : Int) → False) → fmtS s x = fmtS s s.len)) := by intros; kernel_rfl
theorem vc25 : ∀ (n : Int) (s : D), symFun (ctx ef1 efAnn) (3 : Nat) (25 : FuncId) [V.int IntKind.i64 n, V.dat (33 : TypeId) s] (V.prop ((chk n D.nil s).snd = (0 : Int))) = (((0 : Nat) ≤ (1000 : Nat)
 ∧ bigP s) ∧ ((chk n D.nil s).snd = (0 : Int) ↔ (chk n D.nil s).snd = (0 : Int))) := by intros; kernel_rfl
theorem vc49 : ∀ (n : Int) (s : D), symFun (ctx ef1 efAnn) (3 : Nat) (49 : FuncId) [V.int IntKind.i64 n, V.dat (33 : TypeId) s] (V.prop ((chk n D.nil s).snd = (0 : Int))) = (((0 : Nat) ≤ (1000 : Nat)
 ∧ bigP s) ∧ ((chk n D.nil s).snd = (0 : Int) ↔ (chk n D.nil s).snd = (0 : Int))) := by intros; kernel_rfl
theorem vc7 : ∀ (n : Int) (s : D), symFun (ctx ef3 efAnn) (3 : Nat) (7 : FuncId) [V.int IntKind.i64 n, V.dat (33 : TypeId) s] (V.prop True) = ((((0 : Int) ≤ (400 : Int) ∧ (400 : Int) ≤ (100000 : Int))
 ∧ lensP s) ∧ ((fewP s (400 : Int) → False) → (true = true ↔ True)) ∧ (((fewP s (400 : Int) → False) → False) → bigP s ∧ bigP s ∧ ((chk n D.nil s).snd = (0 : Int) → wrP s ∧ bigP (cpS s) ∧ (textS n (cpS
 s) = fmtS s s.len → bigP (cpS s) ∧ (eqS3 (cpS s) s → (true = true ↔ True)) ∧ ((eqS3 (cpS s) s → False) → (false = true ↔ True))) ∧ ((textS n (cpS s) = fmtS s s.len → False) → (false = true ↔ True))) ∧
 (((chk n D.nil s).snd = (0 : Int) → False) → bigP (cpS s) ∧ (textS n (cpS s) = [] → bigP (cpS s) ∧ (eqS3 (cpS s) s → (true = true ↔ True)) ∧ ((eqS3 (cpS s) s → False) → (false = true ↔ True))) ∧
 ((textS n (cpS s) = [] → False) → (false = true ↔ True))))) := by intros; kernel_rfl
theorem dec_len (n : Int) : 1 ≤ (decB n).length ∧ (decB n).length ≤ 2 := by unfold decB; split <;> simp
theorem words_len (t : D) (n : Nat) : (wordsT t n).length = n := by unfold wordsT; rw [List.length_map, List.length_range]
theorem words_at (t : D) {n i : Nat} (h : i < n) : nthD (wordsT t n) i = .str (decB (nAt t i)) := el_map (α := D) (fun i => .str (decB (nAt t i))) n i h
theorem words_succ (t : D) (n : Nat) : wordsT t (n + 1) = wordsT t n ++ [.str (decB (nAt t n))] := by unfold wordsT; rw [List.range_succ, List.map_append]; rfl
theorem spc_pos {n : Nat} (h : 0 < n) : spcB n = [32] := by unfold spcB; rw [if_neg (by omega)]
theorem sep_pos {n : Nat} (h : 0 < n) : sepB n = [32, 47, 32] := by unfold sepB; rw [if_neg (by omega)]
theorem words_cat (t : D) (m : Nat) : ∀ k, k + 1 ≤ m → decB (nAt t 0) ++ catB (.list (wordsT t m)) [32] k = wrB t (k + 1)
 | 0, _ => by show decB (nAt t 0) ++ [] = [] ++ (spcB 0 ++ decB (nAt t 0)); rw [List.append_nil]; rfl
 | k + 1, h => by
  have ih := words_cat t m k (by omega)
  have e : sAt (.list (wordsT t m)) (k + 1) = decB (nAt t (k + 1)) := by
   show (nthD (wordsT t m) (k + 1)).asStr = _
   rw [words_at t (by omega)]; rfl
  show decB (nAt t 0) ++ (catB (.list (wordsT t m)) [32] k ++ ([32] ++ sAt (.list (wordsT t m)) (k + 1))) = wrB t (k + 1) ++ (spcB (k + 1) ++ decB (nAt t (k + 1)))
  rw [← ih, e, spc_pos (Nat.succ_pos k)]; simp only [List.append_assoc]
theorem words_join (t : D) : joinB (.list (wordsT t t.len)) [32] = wrB t t.len := by
 unfold joinB
 have hl : (D.list (wordsT t t.len)).len = t.len := words_len t t.len
 rw [hl]
 by_cases h : t.len = 0
 ·rw [if_pos h, h]; rfl
 ·rw [if_neg h]
  have e : sAt (.list (wordsT t t.len)) 0 = decB (nAt t 0) := by
   show (nthD (wordsT t t.len) 0).asStr = _
   rw [words_at t (by omega)]; rfl
  rw [e, words_cat t t.len (t.len - 1) (by omega), show t.len - 1 + 1 = t.len by omega]
theorem words_ok {t : D} (h : tabP t) : joinP (.list (wordsT t t.len)) [32] := by
 have hl : (D.list (wordsT t t.len)).len = t.len := words_len t t.len
 refine ⟨by rw [hl]; have := h.out.1; omega, ⟨Nat.le_refl 1, by show 1 ≤ 100; omega⟩, fun i hi => ?_⟩
 rw [hl] at hi
 have e : sAt (.list (wordsT t t.len)) i = decB (nAt t i) := by
  show (nthD (wordsT t t.len) i).asStr = _
  rw [words_at t hi]; rfl
 rw [e]
 have := dec_len (nAt t i)
 omega
theorem s51 (t : D) (h : tabP t) : symFun (ctx ef1 efAnn) 4 51 [.dat 24 t] (.str (wrB t t.len)) := by
 rw [vc51]
 have hl := h.out.1
 refine ⟨by omega, by omega, by omega, by omega, ⟨(0, List.replicate t.len (.str [])), ⟨Nat.zero_le _, List.length_replicate, rfl⟩, ⟨rfl, trivial⟩, rfl, trivial⟩, fun x ⟨hx, hxl, hxt⟩ => ⟨lim_of (by omega), fun hlt => ?_, fun hge => ?_⟩⟩
 ·have hv := h.out.2 x.1 (by omega)
  refine ⟨by omega, hlt, ⟨hv.1, by omega⟩, by omega, hlt, by omega, ⟨by omega, by omega⟩, (x.1 + 1, x.2.set x.1 (.str (decB (nAt t x.1)))), ⟨by show x.1 + 1 ≤ t.len; omega, by show (x.2.set x.1 _).length = _; rw [List.length_set]; exact hxl, ?_⟩, by show t.len - (x.1 + 1) < t.len - x.1; omega, ⟨by show (x.1 : Int) + 1 = ((x.1 + 1 : Nat) : Int); omega, trivial⟩, rfl, trivial⟩
  show (x.2.set x.1 _).take (x.1 + 1) = wordsT t (x.1 + 1)
  rw [take_succ_nth (by rw [List.length_set]; omega), List.take_set_of_le (Nat.le_refl _), hxt, nthD_set _ _ _ _ (by omega), if_pos rfl, words_succ]
 ·have hge := not_of hge
  have e : x.1 = t.len := by omega
  rw [e] at hxt
  rw [hxt]
  exact ⟨by omega, words_ok h, words_join t⟩
theorem wr_len (t : D) : ∀ n, (wrB t n).length ≤ 3 * n ∧ (0 < n → 1 ≤ (wrB t n).length)
 | 0 => ⟨Nat.le_refl _, fun h => absurd h (Nat.lt_irrefl 0)⟩
 | n + 1 => by
  have h1 := wr_len t n
  have h2 := dec_len (nAt t n)
  have h3 : (spcB n).length ≤ 1 := by unfold spcB; split <;> simp
  have e : (wrB t (n + 1)).length = (wrB t n).length + ((spcB n).length + (decB (nAt t n)).length) := by
   show (wrB t n ++ (spcB n ++ decB (nAt t n))).length = _
   rw [List.length_append, List.length_append]
  exact ⟨by omega, fun _ => by omega⟩
theorem sep_len (n : Nat) : (sepB n).length ≤ 3 := by unfold sepB; split <;> simp
theorem spc_len (n : Nat) : (spcB n).length ≤ 1 := by unfold spcB; split <;> simp
theorem eve_len {ev : D} {k : Nat} (h : ∀ j, j < k → 1 ≤ (el ev j).len ∧ tabP (el ev j)) : ∀ n, n ≤ k → (eveB ev n).length ≤ 195 * n ∧ (0 < n → 1 ≤ (eveB ev n).length)
 | 0, _ => ⟨Nat.le_refl _, fun h => absurd h (Nat.lt_irrefl 0)⟩
 | n + 1, hn => by
  have h1 := eve_len h n (by omega)
  have h2 := h n (by omega)
  have h3 := wr_len (el ev n) (el ev n).len
  have h4 := sep_len n
  have h5 := h2.2.out.1
  have h6 := h3.2 (by omega)
  have e : (eveB ev (n + 1)).length = (eveB ev n).length + ((sepB n).length + (wrB (el ev n) (el ev n).len).length) := by
   show (eveB ev n ++ (sepB n ++ wrB (el ev n) (el ev n).len)).length = _
   rw [List.length_append, List.length_append]
  exact ⟨by omega, fun _ => by omega⟩
theorem fmt_len {s : D} (h : wrP s) : ∀ n, n ≤ s.len → (fmtS s n).length ≤ 20000 * n ∧ (0 < n → 1 ≤ (fmtS s n).length)
 | 0, _ => ⟨Nat.le_refl _, fun h => absurd h (Nat.lt_irrefl 0)⟩
 | n + 1, hn => by
  have h1 := fmt_len h n (by omega)
  have h2 := h.out.2 n (by omega)
  have h3 := eve_len h2.2 (el s n).len (Nat.le_refl _)
  have e : (fmtS s (n + 1)).length = (fmtS s n).length + ((eveB (el s n) (el s n).len).length + 1) := by
   show (fmtS s n ++ (eveB (el s n) (el s n).len ++ [10])).length = _
   rw [List.length_append, List.length_append]; rfl
  exact ⟨by omega, fun _ => by omega⟩
theorem s26 (s : D) (h : wrP s) : symFun (ctxj ef1 efAnn efJoin) 4 26 [.dat 33 s] (.str (fmtS s s.len)) := by
 have hs := h.out.1
 have l1 : ([32] : List UInt8).length = 1 := rfl
 have l3 : ([32, 47, 32] : List UInt8).length = 3 := rfl
 have l10 : ([10] : List UInt8).length = 1 := rfl
 rw [vc26]
 refine ⟨⟨0, Nat.zero_le _, ⟨rfl, rfl, trivial⟩, trivial⟩, fun x hx => ?_⟩
 have hx : x ≤ s.len := hx
 have f1 := fmt_len h x hx
 refine ⟨lim_of (by omega), fun hlt => ⟨⟨0, Nat.zero_le _, ⟨rfl, (List.append_nil _).symm, trivial⟩, trivial⟩, fun y hy => ?_⟩, fun hge => ?_⟩
 ·have hy : y ≤ (el s x).len := hy
  have he := h.out.2 x (by omega)
  have f2 := eve_len he.2 y hy
  refine ⟨lim_of (by omega), by omega, hlt, fun hlt2 => ⟨⟨fun h0 => ⟨by rw [List.length_append, l3]; omega, (), trivial, ⟨by rw [sep_pos (by omega)], trivial⟩, trivial⟩, fun h0 => ⟨(), trivial, ⟨by have h0 := not_of h0; rw [show y = 0 by omega]; exact (List.append_nil _).symm, trivial⟩, trivial⟩⟩, fun _ _ => ⟨⟨0, Nat.zero_le _, ⟨rfl, by rw [show wrB (el (el s x) y) 0 = [] from rfl, List.append_nil], trivial⟩, trivial⟩, fun z hz => ?_⟩⟩, fun hge2 => ?_⟩
  ·have hz : z ≤ (el (el s x) y).len := hz
   have ht := he.2 y (by omega)
   have ht1 := ht.2.out.1
   have f3 := wr_len (el (el s x) y) z
   have f4 := sep_len y
   have f5 := spc_len z
   have f6 := dec_len (nAt (el (el s x) y) z)
   refine ⟨lim_of (by omega), by omega, hlt, by omega, hlt2, fun hlt3 => ⟨⟨fun h1 => ⟨by rw [List.length_append, List.length_append, List.length_append, l1]; omega, (), trivial, ⟨by rw [spc_pos (by omega)]; simp only [List.append_assoc], trivial⟩, trivial⟩, fun h1 => ⟨(), trivial, ⟨by have h1 := not_of h1; rw [show z = 0 by omega, show spcB 0 = [] from rfl, List.append_nil], trivial⟩, trivial⟩⟩, fun _ _ => ?_⟩, fun hge3 => ?_⟩
   ·have hv := ht.2.out.2 z (by omega)
    refine ⟨by omega, hlt, by omega, hlt2, by omega, hlt3, ⟨hv.1, by omega⟩, by simp only [List.length_append]; omega, ⟨by omega, by omega⟩, z + 1, show z + 1 ≤ (el (el s x) y).len by omega, by omega, ⟨by omega, ?_, trivial⟩, trivial⟩
    show _ = fmtS s x ++ eveB (el s x) y ++ (sepB y ++ (wrB (el (el s x) y) z ++ (spcB z ++ decB (nAt (el (el s x) y) z))))
    simp only [List.append_assoc]
   ·have hge3 := not_of hge3
    have e : z = (el (el s x) y).len := by omega
    subst e
    refine ⟨⟨by omega, by omega⟩, y + 1, show y + 1 ≤ (el s x).len by omega, by omega, ⟨by omega, ?_, trivial⟩, trivial⟩
    show _ = fmtS s x ++ (eveB (el s x) y ++ (sepB y ++ wrB (el (el s x) y) (el (el s x) y).len))
    simp only [List.append_assoc]
  ·have hge2 := not_of hge2
   have e : y = (el s x).len := by omega
   subst e
   refine ⟨by rw [List.length_append, l10]; omega, ⟨by omega, by omega⟩, x + 1, show x + 1 ≤ s.len by omega, by omega, ⟨by omega, ?_, trivial⟩, trivial⟩
   show _ = fmtS s x ++ (eveB (el s x) (el s x).len ++ [10])
   simp only [List.append_assoc]
 ·have hge := not_of hge
  rw [show x = s.len by omega]
theorem s25 (n : Int) (s : D) (hb : bigP s) : symFun (ctx ef1 efAnn) 3 25 [.int .i64 n, .dat 33 s] (.prop ((chk n .nil s).2 = 0)) := by
 rw [vc25]; exact ⟨⟨by omega, hb⟩, Iff.rfl⟩
theorem s49 (n : Int) (s : D) (hb : bigP s) : symFun (ctx ef1 efAnn) 3 49 [.int .i64 n, .dat 33 s] (.prop ((chk n .nil s).2 = 0)) := by
 rw [vc49]; exact ⟨⟨by omega, hb⟩, Iff.rfl⟩
theorem scan_0 {n : Int} {sz s : D} : ∀ f i, (scanK n sz s f i).2 = 0 → ∀ j, i ≤ j → j < i + f → errE n sz (el s j) = 0
 | 0, _, _, _, _, _ => by omega
 | f + 1, i, h, j, h1, h2 => by
  unfold scanK at h
  by_cases he : errE n sz (el s i) = 0
  ·rw [if_neg (fun h => h he)] at h
   by_cases hj : j = i
   ·rw [hj]; exact he
   ·exact scan_0 f (i + 1) h j (by omega) (by omega)
  ·rw [if_pos he] at h
   exact absurd h he
theorem errG_inv {n : Int} {l : List D} (h : errG n l = 0) : ¬ outP n l ∧ ∀ v : Nat, (v : Int) < n → cntF l v ≤ 1 := by
 unfold errG at h
 by_cases h1 : outP n l
 ·rw [if_pos h1] at h; omega
 ·rw [if_neg h1] at h
  by_cases h2 : ∃ x : Int, (0 ≤ x ∧ x < n) ∧ 1 < cntF l x
  ·rw [if_pos h2] at h; omega
  ·exact ⟨h1, fun v hv => Classical.byContradiction fun h3 => h2 ⟨v, ⟨by omega, hv⟩, by omega⟩⟩
theorem errE_inv {n : Int} {sz ev : D} (h : errE n sz ev = 0) : ¬ emptyP ev ∧ errG n (flatL ev ev.len) = 0 := by
 unfold errE at h
 by_cases h1 : emptyP ev ∨ (0 < sz.len ∧ ¬ sameSz ev sz)
 ·rw [if_pos h1] at h; omega
 ·rw [if_neg h1] at h
  exact ⟨fun k => h1 (.inl k), h⟩
theorem right_of {n : Int} {s : D} (hb : bigP s) (h : (chk n .nil s).2 = 0) : wrP s := by
 unfold chk at h
 by_cases h1 : ¬ (1 ≤ n ∧ n ≤ 64) ∨ (0 < (D.nil).len ∧ ¬ fitP n .nil)
 ·rw [if_pos h1] at h; exact absurd h (by decide)
 rw [if_neg h1] at h
 have hn : 1 ≤ n ∧ n ≤ 64 := Classical.byContradiction fun k => h1 (.inl k)
 by_cases h2 : 64 < s.len
 ·rw [if_pos h2] at h; exact absurd h (by decide)
 rw [if_neg h2] at h
 refine ⟨hb.out.1, fun i hi => ⟨(hb.out.2 i hi).out.1, fun j hj => ?_⟩⟩
 obtain ⟨k1, k2⟩ := errE_inv (scan_0 _ _ h i (Nat.zero_le _) (by omega))
 obtain ⟨k3, k4⟩ := errG_inv k2
 have q1 := sumC_all (n := n.toNat) (l := flatL (el s i) (el s i).len) (fun a ha => by have := in_of k3 a ha; omega)
 have q2 := sumC_le (l := flatL (el s i) (el s i).len) n.toNat (fun v hv => k4 v (by omega))
 have q3 := flat_len (el s i) (el s i).len
 have q4 := tot_at (el s i) hj
 have q5 : 1 ≤ (el (el s i) j).len := Classical.byContradiction fun k => k1 ⟨j, hj, by omega⟩
 refine ⟨q5, by omega, fun p hp => ?_⟩
 have m1 : nthD (el (el s i) j).asList p ∈ (el (el s i) j).asList := nthD_mem hp
 have m2 : nthD (el (el s i) j).asList p ∈ flatL (el s i) (el s i).len := flat_sub (el s i) (show j + 1 ≤ (el s i).len by omega) _ (List.mem_append_right _ m1)
 have := in_of k3 _ m2
 have e : nAt (el (el s i) j) p = (nthD (el (el s i) j).asList p).asInt := rfl
 omega
theorem cp_wr (t : D) : ∀ n, wrB (cpT t) n = wrB t n
 | 0 => rfl
 | n + 1 => by unfold wrB; rw [cp_wr t n]; rfl
theorem cp_eve (e : D) : ∀ n, n ≤ e.len → eveB (cpE e) n = eveB e n
 | 0, _ => rfl
 | n + 1, h => by unfold eveB; rw [cp_eve e n (by omega), cpE_el (by omega), cp_wr]; rfl
theorem cp_fmt (s : D) : ∀ n, n ≤ s.len → fmtS (cpS s) n = fmtS s n
 | 0, _ => rfl
 | n + 1, h => by unfold fmtS; rw [cp_fmt s n (by omega), cpS_el (by omega), cpE_len, cp_eve _ _ (Nat.le_refl _)]
theorem cp_text (n : Int) (s : D) : textS n (cpS s) = textS n s := by unfold textS; rw [cpS_chk, cpS_len, cp_fmt s s.len (Nat.le_refl _)]
theorem sl7 (n : Int) (s : D) (hs : lensP s) : symFun (ctx ef3 efAnn) 3 7 [.int .i64 n, .dat 33 s] (.prop True) := by
 rw [vc7, cp_text]
 have yes : (true = true ↔ True) := iff_of_true rfl trivial
 refine ⟨⟨⟨by omega, by omega⟩, hs⟩, fun _ => yes, fun hf => ?_⟩
 have hf := Classical.not_not.1 hf
 have hb := few_big (by decide) hf
 have hc := cpS_big hb
 have same : bigP (cpS s) ∧ (eqS3 (cpS s) s → (true = true ↔ True)) ∧ ((eqS3 (cpS s) s → False) → (false = true ↔ True)) := ⟨hc, fun _ => yes, fun h => absurd (cpS_same s) h⟩
 exact ⟨hb, hb, fun hv => ⟨right_of hb hv, hc, fun _ => same, fun h => absurd (by unfold textS; rw [if_pos hv]) h⟩, fun hv => ⟨hc, fun _ => same, fun h => absurd (by unfold textS; rw [if_neg hv]) h⟩⟩
end Go.Ev

end

section
open Go.Proofs
namespace Go.Ev
set_option maxRecDepth 100000
set_option maxHeartbeats 4000000
theorem vc27 : ∀ (n : Int) (s : D), symFun (ctx ef2 efAnn) (6 : Nat) (27 : FuncId) [V.int IntKind.i64 n, V.dat (33 : TypeId) s] (V.str (textS n s)) = (bigP s ∧ (((chk n D.nil s).snd = (0 : Int) →
False) → [] = textS n s) ∧ ((((chk n D.nil s).snd = (0 : Int) → False) → False) → ((∃ (x : Nat), x = (0 : Nat) ∧ ((0 : Int) = (0 : Int) ∧ True) ∧ (True ∧ True ∧ True) ∧ True) ∨ ∃ (x : Nat), ((0 : Nat)
< x ∧ x ≤ s.len) ∧ ((0 : Int) = (↑x : Int) ∧ True) ∧ (False ∧ False ∧ True) ∧ False ∧ True) ∧ (∀ (x : Nat), x = (0 : Nat) → s.len - x < LIM ∧ ((0 : Int) < (↑s.len : Int) → (0 : Int) ≤ (0 : Int) ∧ (0 :
Int) < (↑s.len : Int) ∧ ((∃ (x : Nat), (x = (0 : Nat) ∧ (0 : Int) = (0 : Int)) ∧ ((0 : Int) = (0 : Int) ∧ True) ∧ (True ∧ True ∧ True) ∧ True) ∨ ∃ (x : Nat), (((0 : Nat) < x ∨ (0 : Int) < (0 : Int)) ∧
x ≤ (el s (0 : Nat)).len) ∧ ((0 : Int) = (↑x : Int) ∧ True) ∧ (False ∧ False ∧ True) ∧ False ∧ True) ∧ (∀ (x_1 : Nat), x_1 = (0 : Nat) ∧ (0 : Int) = (0 : Int) → (el s (0 : Nat)).len - x_1 < LIM ∧ ((0
: Int) < (↑(el s (0 : Nat)).len : Int) → (0 : Int) ≤ (0 : Int) ∧ (0 : Int) < (↑(el s (0 : Nat)).len : Int) ∧ ((0 : Int) < (0 : Int) → [(32 : UInt8), (47 : UInt8), (32 : UInt8)].length ≤ (16777216 :
Nat) ∧ tabP (el (el s (0 : Nat)) (0 : Nat)) ∧ (0 : Nat) < (wrB (el (el s (0 : Nat)) (0 : Nat)) (el (el s (0 : Nat)) (0 : Nat)).len).length ∧ (0 : Nat) + [(32 : UInt8), (47 : UInt8), (32 :
UInt8)].length ≤ (strD [(32 : UInt8), (47 : UInt8), (32 : UInt8)]).length ∧ [(32 : UInt8), (47 : UInt8), (32 : UInt8)].length + (wrB (el (el s (0 : Nat)) (0 : Nat)) (el (el s (0 : Nat)) (0 :
Nat)).len).length ≤ (16777216 : Nat) ∧ ((-9223372036854775808 : Int) ≤ (0 : Int) + (1 : Int) ∧ (0 : Int) + (1 : Int) < (9223372036854775808 : Int)) ∧ ((∃ (y : Nat), (y = (0 : Nat) ∧ (0 : Int) = (0 :
Int)) ∧ (el s (0 : Nat)).len - y < (el s (0 : Nat)).len - x_1 ∧ ((0 : Int) + (1 : Int) = (0 : Int) ∧ True) ∧ (False ∧ False ∧ True) ∧ True) ∨ ∃ (y : Nat), (((0 : Nat) < y ∨ (0 : Int) < (0 : Int)) ∧ y
≤ (el s (0 : Nat)).len) ∧ (el s (0 : Nat)).len - y < (el s (0 : Nat)).len - x_1 ∧ ((0 : Int) + (1 : Int) = (↑y : Int) ∧ True) ∧ (True ∧ ((0 : Nat) = (0 : Nat) ∧ [(32 : UInt8), (47 : UInt8), (32 :
UInt8)].length + (wrB (el (el s (0 : Nat)) (0 : Nat)) (el (el s (0 : Nat)) (0 : Nat)).len).length = (fmtS s (0 : Nat) ++ eveB (el s (0 : Nat)) y).length ∧ True) ∧ True) ∧ List.take [(32 : UInt8), (47
: UInt8), (32 : UInt8)].length (strD [(32 : UInt8), (47 : UInt8), (32 : UInt8)]) ++ strD (wrB (el (el s (0 : Nat)) (0 : Nat)) (el (el s (0 : Nat)) (0 : Nat)).len) = strD (fmtS s (0 : Nat) ++ eveB (el
s (0 : Nat)) y) ∧ True)) ∧ (((0 : Int) < (0 : Int) → False) → tabP (el (el s (0 : Nat)) (0 : Nat)) ∧ (0 : Nat) < (wrB (el (el s (0 : Nat)) (0 : Nat)) (el (el s (0 : Nat)) (0 : Nat)).len).length ∧ (wrB
(el (el s (0 : Nat)) (0 : Nat)) (el (el s (0 : Nat)) (0 : Nat)).len).length ≤ (16777216 : Nat) ∧ ((-9223372036854775808 : Int) ≤ (0 : Int) + (1 : Int) ∧ (0 : Int) + (1 : Int) < (9223372036854775808 :
Int)) ∧ ((∃ (y : Nat), (y = (0 : Nat) ∧ (0 : Int) = (0 : Int)) ∧ (el s (0 : Nat)).len - y < (el s (0 : Nat)).len - x_1 ∧ ((0 : Int) + (1 : Int) = (0 : Int) ∧ True) ∧ (False ∧ False ∧ True) ∧ True) ∨ ∃
(y : Nat), (((0 : Nat) < y ∨ (0 : Int) < (0 : Int)) ∧ y ≤ (el s (0 : Nat)).len) ∧ (el s (0 : Nat)).len - y < (el s (0 : Nat)).len - x_1 ∧ ((0 : Int) + (1 : Int) = (↑y : Int) ∧ True) ∧ (True ∧ ((0 :
Nat) = (0 : Nat) ∧ (wrB (el (el s (0 : Nat)) (0 : Nat)) (el (el s (0 : Nat)) (0 : Nat)).len).length = (fmtS s (0 : Nat) ++ eveB (el s (0 : Nat)) y).length ∧ True) ∧ True) ∧ strD (wrB (el (el s (0 :
Nat)) (0 : Nat)) (el (el s (0 : Nat)) (0 : Nat)).len) = strD (fmtS s (0 : Nat) ++ eveB (el s (0 : Nat)) y) ∧ True))) ∧ (((0 : Int) < (↑(el s (0 : Nat)).len : Int) → False) → [(10 : UInt8)].length ≤
(16777216 : Nat) ∧ ((-9223372036854775808 : Int) ≤ (0 : Int) + (1 : Int) ∧ (0 : Int) + (1 : Int) < (9223372036854775808 : Int)) ∧ ((∃ (y : Nat), y = (0 : Nat) ∧ s.len - y < s.len - x ∧ ((0 : Int) + (1
: Int) = (0 : Int) ∧ True) ∧ (False ∧ False ∧ True) ∧ True) ∨ ∃ (y : Nat), ((0 : Nat) < y ∧ y ≤ s.len) ∧ s.len - y < s.len - x ∧ ((0 : Int) + (1 : Int) = (↑y : Int) ∧ True) ∧ (True ∧ ((0 : Nat) = (0 :
Nat) ∧ [(10 : UInt8)].length = (fmtS s y).length ∧ True) ∧ True) ∧ strD [(10 : UInt8)] = strD (fmtS s y) ∧ True))) ∧ ∀ (x_1 : Nat), ((0 : Nat) < x_1 ∨ (0 : Int) < (0 : Int)) ∧ x_1 ≤ (el s (0 :
Nat)).len → (el s (0 : Nat)).len - x_1 < LIM ∧ ((↑x_1 : Int) < (↑(el s (0 : Nat)).len : Int) → (0 : Int) ≤ (↑x_1 : Int) ∧ (↑x_1 : Int) < (↑(el s (0 : Nat)).len : Int) ∧ ((0 : Int) < (↑x_1 : Int) → (0
: Nat) + (fmtS s (0 : Nat) ++ eveB (el s (0 : Nat)) x_1).length ≤ (strD (fmtS s (0 : Nat) ++ eveB (el s (0 : Nat)) x_1)).length ∧ (fmtS s (0 : Nat) ++ eveB (el s (0 : Nat)) x_1).length + [(32 :
UInt8), (47 : UInt8), (32 : UInt8)].length ≤ (16777216 : Nat) ∧ tabP (el (el s (0 : Nat)) x_1) ∧ (0 : Nat) < (wrB (el (el s (0 : Nat)) x_1) (el (el s (0 : Nat)) x_1).len).length ∧ (0 : Nat) + ((fmtS s
(0 : Nat) ++ eveB (el s (0 : Nat)) x_1).length + [(32 : UInt8), (47 : UInt8), (32 : UInt8)].length) ≤ (List.take (fmtS s (0 : Nat) ++ eveB (el s (0 : Nat)) x_1).length (strD (fmtS s (0 : Nat) ++ eveB
(el s (0 : Nat)) x_1)) ++ strD [(32 : UInt8), (47 : UInt8), (32 : UInt8)]).length ∧ (fmtS s (0 : Nat) ++ eveB (el s (0 : Nat)) x_1).length + [(32 : UInt8), (47 : UInt8), (32 : UInt8)].length + (wrB
(el (el s (0 : Nat)) x_1) (el (el s (0 : Nat)) x_1).len).length ≤ (16777216 : Nat) ∧ ((-9223372036854775808 : Int) ≤ (↑x_1 : Int) + (1 : Int) ∧ (↑x_1 : Int) + (1 : Int) < (9223372036854775808 : Int))
∧ ((∃ (y : Nat), (y = (0 : Nat) ∧ (0 : Int) = (0 : Int)) ∧ (el s (0 : Nat)).len - y < (el s (0 : Nat)).len - x_1 ∧ ((↑x_1 : Int) + (1 : Int) = (0 : Int) ∧ True) ∧ (False ∧ False ∧ True) ∧ True) ∨ ∃ (y
: Nat), (((0 : Nat) < y ∨ (0 : Int) < (0 : Int)) ∧ y ≤ (el s (0 : Nat)).len) ∧ (el s (0 : Nat)).len - y < (el s (0 : Nat)).len - x_1 ∧ ((↑x_1 : Int) + (1 : Int) = (↑y : Int) ∧ True) ∧ (True ∧ ((0 :
Nat) = (0 : Nat) ∧ (fmtS s (0 : Nat) ++ eveB (el s (0 : Nat)) x_1).length + [(32 : UInt8), (47 : UInt8), (32 : UInt8)].length + (wrB (el (el s (0 : Nat)) x_1) (el (el s (0 : Nat)) x_1).len).length =
(fmtS s (0 : Nat) ++ eveB (el s (0 : Nat)) y).length ∧ True) ∧ True) ∧ List.take ((fmtS s (0 : Nat) ++ eveB (el s (0 : Nat)) x_1).length + [(32 : UInt8), (47 : UInt8), (32 : UInt8)].length) (List.take
(fmtS s (0 : Nat) ++ eveB (el s (0 : Nat)) x_1).length (strD (fmtS s (0 : Nat) ++ eveB (el s (0 : Nat)) x_1)) ++ strD [(32 : UInt8), (47 : UInt8), (32 : UInt8)]) ++ strD (wrB (el (el s (0 : Nat)) x_1)
(el (el s (0 : Nat)) x_1).len) = strD (fmtS s (0 : Nat) ++ eveB (el s (0 : Nat)) y) ∧ True)) ∧ (((0 : Int) < (↑x_1 : Int) → False) → tabP (el (el s (0 : Nat)) x_1) ∧ (0 : Nat) < (wrB (el (el s (0 :
Nat)) x_1) (el (el s (0 : Nat)) x_1).len).length ∧ (0 : Nat) + (fmtS s (0 : Nat) ++ eveB (el s (0 : Nat)) x_1).length ≤ (strD (fmtS s (0 : Nat) ++ eveB (el s (0 : Nat)) x_1)).length ∧ (fmtS s (0 :
Nat) ++ eveB (el s (0 : Nat)) x_1).length + (wrB (el (el s (0 : Nat)) x_1) (el (el s (0 : Nat)) x_1).len).length ≤ (16777216 : Nat) ∧ ((-9223372036854775808 : Int) ≤ (↑x_1 : Int) + (1 : Int) ∧ (↑x_1 :
Int) + (1 : Int) < (9223372036854775808 : Int)) ∧ ((∃ (y : Nat), (y = (0 : Nat) ∧ (0 : Int) = (0 : Int)) ∧ (el s (0 : Nat)).len - y < (el s (0 : Nat)).len - x_1 ∧ ((↑x_1 : Int) + (1 : Int) = (0 : Int)
∧ True) ∧ (False ∧ False ∧ True) ∧ True) ∨ ∃ (y : Nat), (((0 : Nat) < y ∨ (0 : Int) < (0 : Int)) ∧ y ≤ (el s (0 : Nat)).len) ∧ (el s (0 : Nat)).len - y < (el s (0 : Nat)).len - x_1 ∧ ((↑x_1 : Int) +
(1 : Int) = (↑y : Int) ∧ True) ∧ (True ∧ ((0 : Nat) = (0 : Nat) ∧ (fmtS s (0 : Nat) ++ eveB (el s (0 : Nat)) x_1).length + (wrB (el (el s (0 : Nat)) x_1) (el (el s (0 : Nat)) x_1).len).length = (fmtS
s (0 : Nat) ++ eveB (el s (0 : Nat)) y).length ∧ True) ∧ True) ∧ List.take (fmtS s (0 : Nat) ++ eveB (el s (0 : Nat)) x_1).length (strD (fmtS s (0 : Nat) ++ eveB (el s (0 : Nat)) x_1)) ++ strD (wrB
(el (el s (0 : Nat)) x_1) (el (el s (0 : Nat)) x_1).len) = strD (fmtS s (0 : Nat) ++ eveB (el s (0 : Nat)) y) ∧ True))) ∧ (((↑x_1 : Int) < (↑(el s (0 : Nat)).len : Int) → False) → (0 : Nat) + (fmtS s
(0 : Nat) ++ eveB (el s (0 : Nat)) x_1).length ≤ (strD (fmtS s (0 : Nat) ++ eveB (el s (0 : Nat)) x_1)).length ∧ (fmtS s (0 : Nat) ++ eveB (el s (0 : Nat)) x_1).length + [(10 : UInt8)].length ≤
(16777216 : Nat) ∧ ((-9223372036854775808 : Int) ≤ (0 : Int) + (1 : Int) ∧ (0 : Int) + (1 : Int) < (9223372036854775808 : Int)) ∧ ((∃ (y : Nat), y = (0 : Nat) ∧ s.len - y < s.len - x ∧ ((0 : Int) + (1
: Int) = (0 : Int) ∧ True) ∧ (False ∧ False ∧ True) ∧ True) ∨ ∃ (y : Nat), ((0 : Nat) < y ∧ y ≤ s.len) ∧ s.len - y < s.len - x ∧ ((0 : Int) + (1 : Int) = (↑y : Int) ∧ True) ∧ (True ∧ ((0 : Nat) = (0 :
Nat) ∧ (fmtS s (0 : Nat) ++ eveB (el s (0 : Nat)) x_1).length + [(10 : UInt8)].length = (fmtS s y).length ∧ True) ∧ True) ∧ List.take (fmtS s (0 : Nat) ++ eveB (el s (0 : Nat)) x_1).length (strD (fmtS
s (0 : Nat) ++ eveB (el s (0 : Nat)) x_1)) ++ strD [(10 : UInt8)] = strD (fmtS s y) ∧ True))) ∧ (((0 : Int) < (↑s.len : Int) → False) → [] = textS n s)) ∧ ∀ (x : Nat), (0 : Nat) < x ∧ x ≤ s.len →
s.len - x < LIM ∧ ((↑x : Int) < (↑s.len : Int) → (0 : Int) ≤ (↑x : Int) ∧ (↑x : Int) < (↑s.len : Int) ∧ ((∃ (x_1 : Nat), (x_1 = (0 : Nat) ∧ (↑x : Int) = (0 : Int)) ∧ ((0 : Int) = (0 : Int) ∧ True) ∧
(False ∧ False ∧ True) ∧ True) ∨ ∃ (x_1 : Nat), (((0 : Nat) < x_1 ∨ (0 : Int) < (↑x : Int)) ∧ x_1 ≤ (el s x).len) ∧ ((0 : Int) = (↑x_1 : Int) ∧ True) ∧ (True ∧ ((0 : Nat) = (0 : Nat) ∧ (fmtS s
x).length = (fmtS s x ++ eveB (el s x) x_1).length ∧ True) ∧ True) ∧ strD (fmtS s x) = strD (fmtS s x ++ eveB (el s x) x_1) ∧ True) ∧ (∀ (x_1 : Nat), x_1 = (0 : Nat) ∧ (↑x : Int) = (0 : Int) → (el s
x).len - x_1 < LIM ∧ ((0 : Int) < (↑(el s x).len : Int) → (0 : Int) ≤ (0 : Int) ∧ (0 : Int) < (↑(el s x).len : Int) ∧ ((0 : Int) < (0 : Int) → [(32 : UInt8), (47 : UInt8), (32 : UInt8)].length ≤
(16777216 : Nat) ∧ tabP (el (el s x) (0 : Nat)) ∧ (0 : Nat) < (wrB (el (el s x) (0 : Nat)) (el (el s x) (0 : Nat)).len).length ∧ (0 : Nat) + [(32 : UInt8), (47 : UInt8), (32 : UInt8)].length ≤ (strD
[(32 : UInt8), (47 : UInt8), (32 : UInt8)]).length ∧ [(32 : UInt8), (47 : UInt8), (32 : UInt8)].length + (wrB (el (el s x) (0 : Nat)) (el (el s x) (0 : Nat)).len).length ≤ (16777216 : Nat) ∧
((-9223372036854775808 : Int) ≤ (0 : Int) + (1 : Int) ∧ (0 : Int) + (1 : Int) < (9223372036854775808 : Int)) ∧ ((∃ (y : Nat), (y = (0 : Nat) ∧ (↑x : Int) = (0 : Int)) ∧ (el s x).len - y < (el s x).len
- x_1 ∧ ((0 : Int) + (1 : Int) = (0 : Int) ∧ True) ∧ (False ∧ False ∧ True) ∧ True) ∨ ∃ (y : Nat), (((0 : Nat) < y ∨ (0 : Int) < (↑x : Int)) ∧ y ≤ (el s x).len) ∧ (el s x).len - y < (el s x).len - x_1
∧ ((0 : Int) + (1 : Int) = (↑y : Int) ∧ True) ∧ (True ∧ ((0 : Nat) = (0 : Nat) ∧ [(32 : UInt8), (47 : UInt8), (32 : UInt8)].length + (wrB (el (el s x) (0 : Nat)) (el (el s x) (0 : Nat)).len).length =
(fmtS s x ++ eveB (el s x) y).length ∧ True) ∧ True) ∧ List.take [(32 : UInt8), (47 : UInt8), (32 : UInt8)].length (strD [(32 : UInt8), (47 : UInt8), (32 : UInt8)]) ++ strD (wrB (el (el s x) (0 :
Nat)) (el (el s x) (0 : Nat)).len) = strD (fmtS s x ++ eveB (el s x) y) ∧ True)) ∧ (((0 : Int) < (0 : Int) → False) → tabP (el (el s x) (0 : Nat)) ∧ (0 : Nat) < (wrB (el (el s x) (0 : Nat)) (el (el s
x) (0 : Nat)).len).length ∧ (wrB (el (el s x) (0 : Nat)) (el (el s x) (0 : Nat)).len).length ≤ (16777216 : Nat) ∧ ((-9223372036854775808 : Int) ≤ (0 : Int) + (1 : Int) ∧ (0 : Int) + (1 : Int) <
(9223372036854775808 : Int)) ∧ ((∃ (y : Nat), (y = (0 : Nat) ∧ (↑x : Int) = (0 : Int)) ∧ (el s x).len - y < (el s x).len - x_1 ∧ ((0 : Int) + (1 : Int) = (0 : Int) ∧ True) ∧ (False ∧ False ∧ True) ∧
True) ∨ ∃ (y : Nat), (((0 : Nat) < y ∨ (0 : Int) < (↑x : Int)) ∧ y ≤ (el s x).len) ∧ (el s x).len - y < (el s x).len - x_1 ∧ ((0 : Int) + (1 : Int) = (↑y : Int) ∧ True) ∧ (True ∧ ((0 : Nat) = (0 :
Nat) ∧ (wrB (el (el s x) (0 : Nat)) (el (el s x) (0 : Nat)).len).length = (fmtS s x ++ eveB (el s x) y).length ∧ True) ∧ True) ∧ strD (wrB (el (el s x) (0 : Nat)) (el (el s x) (0 : Nat)).len) = strD
(fmtS s x ++ eveB (el s x) y) ∧ True))) ∧ (((0 : Int) < (↑(el s x).len : Int) → False) → [(10 : UInt8)].length ≤ (16777216 : Nat) ∧ ((-9223372036854775808 : Int) ≤ (↑x : Int) + (1 : Int) ∧ (↑x : Int)
+ (1 : Int) < (9223372036854775808 : Int)) ∧ ((∃ (y : Nat), y = (0 : Nat) ∧ s.len - y < s.len - x ∧ ((↑x : Int) + (1 : Int) = (0 : Int) ∧ True) ∧ (False ∧ False ∧ True) ∧ True) ∨ ∃ (y : Nat), ((0 :
Nat) < y ∧ y ≤ s.len) ∧ s.len - y < s.len - x ∧ ((↑x : Int) + (1 : Int) = (↑y : Int) ∧ True) ∧ (True ∧ ((0 : Nat) = (0 : Nat) ∧ [(10 : UInt8)].length = (fmtS s y).length ∧ True) ∧ True) ∧ strD [(10 :
UInt8)] = strD (fmtS s y) ∧ True))) ∧ ∀ (x_1 : Nat), ((0 : Nat) < x_1 ∨ (0 : Int) < (↑x : Int)) ∧ x_1 ≤ (el s x).len → (el s x).len - x_1 < LIM ∧ ((↑x_1 : Int) < (↑(el s x).len : Int) → (0 : Int) ≤
(↑x_1 : Int) ∧ (↑x_1 : Int) < (↑(el s x).len : Int) ∧ ((0 : Int) < (↑x_1 : Int) → (0 : Nat) + (fmtS s x ++ eveB (el s x) x_1).length ≤ (strD (fmtS s x ++ eveB (el s x) x_1)).length ∧ (fmtS s x ++ eveB
(el s x) x_1).length + [(32 : UInt8), (47 : UInt8), (32 : UInt8)].length ≤ (16777216 : Nat) ∧ tabP (el (el s x) x_1) ∧ (0 : Nat) < (wrB (el (el s x) x_1) (el (el s x) x_1).len).length ∧ (0 : Nat) +
((fmtS s x ++ eveB (el s x) x_1).length + [(32 : UInt8), (47 : UInt8), (32 : UInt8)].length) ≤ (List.take (fmtS s x ++ eveB (el s x) x_1).length (strD (fmtS s x ++ eveB (el s x) x_1)) ++ strD [(32 :
UInt8), (47 : UInt8), (32 : UInt8)]).length ∧ (fmtS s x ++ eveB (el s x) x_1).length + [(32 : UInt8), (47 : UInt8), (32 : UInt8)].length + (wrB (el (el s x) x_1) (el (el s x) x_1).len).length ≤
(16777216 : Nat) ∧ ((-9223372036854775808 : Int) ≤ (↑x_1 : Int) + (1 : Int) ∧ (↑x_1 : Int) + (1 : Int) < (9223372036854775808 : Int)) ∧ ((∃ (y : Nat), (y = (0 : Nat) ∧ (↑x : Int) = (0 : Int)) ∧ (el s
x).len - y < (el s x).len - x_1 ∧ False) ∨ ∃ (y : Nat), (((0 : Nat) < y ∨ (0 : Int) < (↑x : Int)) ∧ y ≤ (el s x).len) ∧ (el s x).len - y < (el s x).len - x_1 ∧ ((↑x_1 : Int) + (1 : Int) = (↑y : Int) ∧
True) ∧ (True ∧ ((0 : Nat) = (0 : Nat) ∧ (fmtS s x ++ eveB (el s x) x_1).length + [(32 : UInt8), (47 : UInt8), (32 : UInt8)].length + (wrB (el (el s x) x_1) (el (el s x) x_1).len).length = (fmtS s x
++ eveB (el s x) y).length ∧ True) ∧ True) ∧ List.take ((fmtS s x ++ eveB (el s x) x_1).length + [(32 : UInt8), (47 : UInt8), (32 : UInt8)].length) (List.take (fmtS s x ++ eveB (el s x) x_1).length
(strD (fmtS s x ++ eveB (el s x) x_1)) ++ strD [(32 : UInt8), (47 : UInt8), (32 : UInt8)]) ++ strD (wrB (el (el s x) x_1) (el (el s x) x_1).len) = strD (fmtS s x ++ eveB (el s x) y) ∧ True)) ∧ (((0 :
Int) < (↑x_1 : Int) → False) → tabP (el (el s x) x_1) ∧ (0 : Nat) < (wrB (el (el s x) x_1) (el (el s x) x_1).len).length ∧ (0 : Nat) + (fmtS s x ++ eveB (el s x) x_1).length ≤ (strD (fmtS s x ++ eveB
(el s x) x_1)).length ∧ (fmtS s x ++ eveB (el s x) x_1).length + (wrB (el (el s x) x_1) (el (el s x) x_1).len).length ≤ (16777216 : Nat) ∧ ((-9223372036854775808 : Int) ≤ (↑x_1 : Int) + (1 : Int) ∧
(↑x_1 : Int) + (1 : Int) < (9223372036854775808 : Int)) ∧ ((∃ (y : Nat), (y = (0 : Nat) ∧ (↑x : Int) = (0 : Int)) ∧ (el s x).len - y < (el s x).len - x_1 ∧ False) ∨ ∃ (y : Nat), (((0 : Nat) < y ∨ (0 :
Int) < (↑x : Int)) ∧ y ≤ (el s x).len) ∧ (el s x).len - y < (el s x).len - x_1 ∧ ((↑x_1 : Int) + (1 : Int) = (↑y : Int) ∧ True) ∧ (True ∧ ((0 : Nat) = (0 : Nat) ∧ (fmtS s x ++ eveB (el s x)
x_1).length + (wrB (el (el s x) x_1) (el (el s x) x_1).len).length = (fmtS s x ++ eveB (el s x) y).length ∧ True) ∧ True) ∧ List.take (fmtS s x ++ eveB (el s x) x_1).length (strD (fmtS s x ++ eveB (el
s x) x_1)) ++ strD (wrB (el (el s x) x_1) (el (el s x) x_1).len) = strD (fmtS s x ++ eveB (el s x) y) ∧ True))) ∧ (((↑x_1 : Int) < (↑(el s x).len : Int) → False) → (0 : Nat) + (fmtS s x ++ eveB (el s
x) x_1).length ≤ (strD (fmtS s x ++ eveB (el s x) x_1)).length ∧ (fmtS s x ++ eveB (el s x) x_1).length + [(10 : UInt8)].length ≤ (16777216 : Nat) ∧ ((-9223372036854775808 : Int) ≤ (↑x : Int) + (1 :
Int) ∧ (↑x : Int) + (1 : Int) < (9223372036854775808 : Int)) ∧ ((∃ (y : Nat), y = (0 : Nat) ∧ s.len - y < s.len - x ∧ ((↑x : Int) + (1 : Int) = (0 : Int) ∧ True) ∧ (False ∧ False ∧ True) ∧ True) ∨ ∃
(y : Nat), ((0 : Nat) < y ∧ y ≤ s.len) ∧ s.len - y < s.len - x ∧ ((↑x : Int) + (1 : Int) = (↑y : Int) ∧ True) ∧ (True ∧ ((0 : Nat) = (0 : Nat) ∧ (fmtS s x ++ eveB (el s x) x_1).length + [(10 :
UInt8)].length = (fmtS s y).length ∧ True) ∧ True) ∧ List.take (fmtS s x ++ eveB (el s x) x_1).length (strD (fmtS s x ++ eveB (el s x) x_1)) ++ strD [(10 : UInt8)] = strD (fmtS s y) ∧ True))) ∧ (((↑x
: Int) < (↑s.len : Int) → False) → ((fmtS s x).length = (0 : Nat) → False) ∧ (0 : Int) ≤ (↑(fmtS s x).length : Int) ∧ (0 : Nat) < (fmtS s x).length ∧ (fmtS s x).length ≤ (16777216 : Nat) ∧ (0 : Nat) +
(fmtS s x).length ≤ (strD (fmtS s x)).length ∧ byteL (List.take (fmtS s x).length (strD (fmtS s x))) ∧ bytesD (List.take (fmtS s x).length (strD (fmtS s x))) = textS n s))) := by intros; kernel_rfl
theorem app3 (a : List UInt8) : (a ++ [32, 47, 32]).length = a.length + 3 := List.length_append
theorem cat2 (a c : List UInt8) : List.take a.length (strD a) ++ strD c = strD (a ++ c) := by rw [strD_take _ _ rfl, ← strD_app]
theorem cat3 (a b c : List UInt8) : List.take (a.length + b.length) (List.take a.length (strD a) ++ strD b) ++ strD c = strD (a ++ b ++ c) := by
 rw [cat2, strD_take _ _ List.length_append.symm, ← strD_app]
theorem eve_first (A : List UInt8) (ev : D) : A ++ eveB ev 1 = A ++ wrB (el ev 0) (el ev 0).len := rfl
theorem eve_next (A : List UInt8) (ev : D) {y : Nat} (h : 0 < y) : A ++ eveB ev y ++ [32, 47, 32] ++ wrB (el ev y) (el ev y).len = A ++ eveB ev (y + 1) := by
 show _ = A ++ (eveB ev y ++ (sepB y ++ wrB (el ev y) (el ev y).len))
 rw [sep_pos h]; simp only [List.append_assoc]
theorem fmt_next (s : D) (x : Nat) : fmtS s x ++ eveB (el s x) (el s x).len ++ [10] = fmtS s (x + 1) := by
 show _ = fmtS s x ++ (eveB (el s x) (el s x).len ++ [10])
 simp only [List.append_assoc]
theorem len3 (a b c d : List UInt8) (h : a ++ b ++ c = d) : a.length + b.length + c.length = d.length := by rw [← h, List.length_append, List.length_append]
theorem len2 (a b d : List UInt8) (h : a ++ b = d) : a.length + b.length = d.length := by rw [← h, List.length_append]
theorem s27 (n : Int) (s : D) (hb : bigP s) : symFun (ctx ef2 efAnn) 6 27 [.int .i64 n, .dat 33 s] (.str (textS n s)) := by
 have l3 : ([32, 47, 32] : List UInt8).length = 3 := rfl
 have l10 : ([10] : List UInt8).length = 1 := rfl
 have hs := hb.out.1
 rw [vc27]
 refine ⟨hb, fun hv => by unfold textS; rw [if_neg hv], fun hv => ?_⟩
 have hv : (chk n .nil s).2 = 0 := Classical.byContradiction hv
 have h := right_of hb hv
 have ht : textS n s = fmtS s s.len := by unfold textS; rw [if_pos hv]
 rw [ht]
 refine ⟨.inl ⟨0, rfl, ⟨rfl, trivial⟩, ⟨trivial, trivial, trivial⟩, trivial⟩, fun x hx => ?_, fun x ⟨hx0, hx⟩ => ?_⟩
 ·subst hx
  refine ⟨lim_of (by omega), fun hlt => ⟨by omega, hlt, .inl ⟨0, ⟨rfl, rfl⟩, ⟨rfl, trivial⟩, ⟨trivial, trivial, trivial⟩, trivial⟩, fun y ⟨hy, _⟩ => ?_, fun y ⟨hy0, hy⟩ => ?_⟩, fun hge => ?_⟩
  ·subst hy
   have he := h.out.2 0 (by omega)
   refine ⟨lim_of (by omega), fun hlt2 => ⟨by omega, hlt2, fun h0 => absurd h0 (Int.lt_irrefl 0), fun _ => ?_⟩, fun hge2 => ?_⟩
   ·have q := he.2 0 (by omega)
    have q1 := wr_len (el (el s 0) 0) (el (el s 0) 0).len
    have q2 := q1.2 (by omega)
    have q3 := q.2.out.1
    have e : wrB (el (el s 0) 0) (el (el s 0) 0).len = fmtS s 0 ++ eveB (el s 0) 1 := rfl
    exact ⟨q.2, by omega, by omega, ⟨by omega, by omega⟩, .inr ⟨1, ⟨.inl (by omega), by omega⟩, by omega, ⟨rfl, trivial⟩, ⟨trivial, ⟨rfl, congrArg List.length e, trivial⟩, trivial⟩, congrArg strD e, trivial⟩⟩
   ·have hge2 := not_of hge2
    have e : [10] = fmtS s 1 := by
     rw [← fmt_next, show (el s 0).len = 0 by omega]; rfl
    exact ⟨by rw [l10]; omega, ⟨by omega, by omega⟩, .inr ⟨1, ⟨by omega, by omega⟩, by omega, ⟨rfl, trivial⟩, ⟨trivial, ⟨rfl, congrArg List.length e, trivial⟩, trivial⟩, congrArg strD e, trivial⟩⟩
  ·have hy0 : 0 < y := hy0.elim id fun h => absurd h (Int.lt_irrefl 0)
   have he := h.out.2 0 (by omega)
   have f2 := eve_len he.2 y hy
   have a2 : (fmtS s 0 ++ eveB (el s 0) y).length = (fmtS s 0).length + (eveB (el s 0) y).length := List.length_append
   have a0 : (fmtS s 0).length = 0 := rfl
   refine ⟨lim_of (by omega), fun hlt2 => ⟨by omega, hlt2, fun h0 => ?_, fun h0 => absurd (show (0 : Int) < (y : Int) by omega) h0⟩, fun hge2 => ?_⟩
   ·have q := he.2 y (by omega)
    have q1 := wr_len (el (el s 0) y) (el (el s 0) y).len
    have q2 := q1.2 (by omega)
    have q3 := q.2.out.1
    have e := eve_next (fmtS s 0) (el s 0) hy0
    have b1 : (strD (fmtS s 0 ++ eveB (el s 0) y)).length = (fmtS s 0 ++ eveB (el s 0) y).length := strD_len _
    refine ⟨by omega, by rw [l3]; omega, q.2, by omega, by rw [cat2, strD_len]; have := app3 (fmtS s 0 ++ eveB (el s 0) y); omega, by rw [l3]; omega, ⟨by omega, by omega⟩, .inr ⟨y + 1, ⟨.inl (by omega), by omega⟩, by omega, ⟨by omega, trivial⟩, ⟨trivial, ⟨rfl, len3 _ _ _ _ e, trivial⟩, trivial⟩, ?_, trivial⟩⟩
    rw [cat3, e]
   ·have hge2 := not_of hge2
    have ey : y = (el s 0).len := by omega
    subst ey
    have e := fmt_next s 0
    have b1 : (strD (fmtS s 0 ++ eveB (el s 0) (el s 0).len)).length = (fmtS s 0 ++ eveB (el s 0) (el s 0).len).length := strD_len _
    refine ⟨by omega, by rw [l10]; omega, ⟨by omega, by omega⟩, .inr ⟨1, ⟨by omega, by omega⟩, by omega, ⟨rfl, trivial⟩, ⟨trivial, ⟨rfl, len2 _ _ _ e, trivial⟩, trivial⟩, ?_, trivial⟩⟩
    rw [cat2, e]
  ·have hge := not_of hge
   rw [show s.len = 0 by omega]; rfl
 ·have f1 := fmt_len h x hx
  have f0 := f1.2 hx0
  refine ⟨lim_of (by omega), fun hlt => ⟨by omega, hlt, .inr ⟨0, ⟨.inr (by omega), Nat.zero_le _⟩, ⟨rfl, trivial⟩, ⟨trivial, ⟨rfl, by rw [show eveB (el s x) 0 = [] from rfl, List.append_nil], trivial⟩, trivial⟩, by rw [show eveB (el s x) 0 = [] from rfl, List.append_nil], trivial⟩, fun y ⟨_, hy⟩ => absurd hy (by omega), fun y ⟨hy0, hy⟩ => ?_⟩, fun hge => ?_⟩
  ·have he := h.out.2 x (by omega)
   have f2 := eve_len he.2 y hy
   have a2 : (fmtS s x ++ eveB (el s x) y).length = (fmtS s x).length + (eveB (el s x) y).length := List.length_append
   have b1 : (strD (fmtS s x ++ eveB (el s x) y)).length = (fmtS s x ++ eveB (el s x) y).length := strD_len _
   refine ⟨lim_of (by omega), fun hlt2 => ⟨by omega, hlt2, fun h0 => ?_, fun h0 => ?_⟩, fun hge2 => ?_⟩
   ·have q := he.2 y (by omega)
    have q1 := wr_len (el (el s x) y) (el (el s x) y).len
    have q2 := q1.2 (by omega)
    have q3 := q.2.out.1
    have e := eve_next (fmtS s x) (el s x) (show 0 < y by omega)
    refine ⟨by omega, by rw [l3]; omega, q.2, by omega, by rw [cat2, strD_len]; have := app3 (fmtS s x ++ eveB (el s x) y); omega, by rw [l3]; omega, ⟨by omega, by omega⟩, .inr ⟨y + 1, ⟨.inl (by omega), by omega⟩, by omega, ⟨by omega, trivial⟩, ⟨trivial, ⟨rfl, len3 _ _ _ _ e, trivial⟩, trivial⟩, ?_, trivial⟩⟩
    rw [cat3, e]
   ·have h0 := not_of h0
    have ey : y = 0 := by omega
    subst ey
    have q := he.2 0 (by omega)
    have q1 := wr_len (el (el s x) 0) (el (el s x) 0).len
    have q2 := q1.2 (by omega)
    have q3 := q.2.out.1
    have e : fmtS s x ++ eveB (el s x) 0 ++ wrB (el (el s x) 0) (el (el s x) 0).len = fmtS s x ++ eveB (el s x) 1 := by
     rw [eve_first, show eveB (el s x) 0 = [] from rfl, List.append_nil]
    refine ⟨q.2, by omega, by omega, by omega, ⟨by omega, by omega⟩, .inr ⟨1, ⟨.inl (by omega), by omega⟩, by omega, ⟨rfl, trivial⟩, ⟨trivial, ⟨rfl, len2 _ _ _ e, trivial⟩, trivial⟩, ?_, trivial⟩⟩
    rw [cat2, e]
   ·have hge2 := not_of hge2
    have ey : y = (el s x).len := by omega
    subst ey
    have e := fmt_next s x
    refine ⟨by omega, by rw [l10]; omega, ⟨by omega, by omega⟩, .inr ⟨x + 1, ⟨by omega, by omega⟩, by omega, ⟨by omega, trivial⟩, ⟨trivial, ⟨rfl, len2 _ _ _ e, trivial⟩, trivial⟩, ?_, trivial⟩⟩
    rw [cat2, e]
  ·have hge := not_of hge
   have ex : x = s.len := by omega
   subst ex
   exact ⟨fun h => by omega, by omega, by omega, by omega, by rw [strD_len]; omega, by rw [strD_take _ _ rfl]; exact byteL_strD _, by rw [strD_take _ _ rfl, bytesD_strD]⟩
end Go.Ev

end
