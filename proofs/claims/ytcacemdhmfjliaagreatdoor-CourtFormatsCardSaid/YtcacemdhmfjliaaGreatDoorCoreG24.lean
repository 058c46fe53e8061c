/-
  Part of the engine that the claim is proved with: it states nothing of the document by itself.
-/
import Derived.Test.YtcacemdhmfjliaaGreatDoorCoreCfA

section
open Go.Proofs
namespace Go.Ev
set_option maxRecDepth 100000
set_option maxHeartbeats 4000000
def tailC (l : D) (s : List UInt8) : Prop :=
(∃ (x : Nat), x.le (l.len - (1 : Nat)) ∧ ((0 : Int) = (↑x : Int) ∧ True) ∧ (True ∧ ((0 : Nat) = (0 : Nat) ∧ (sAt l (0 : Nat)).length = (sAt l (0 : Nat) ++ catB l s x).length ∧ True) ∧ True) ∧ strD
(sAt l (0 : Nat)) = strD (sAt l (0 : Nat) ++ catB l s x) ∧ True) ∧ ∀ (x : Nat), x.le (l.len - (1 : Nat)) → l.len - x < LIM ∧ ((↑x : Int) < (↑(l.sub (Int.toNat (1 : Int)) (l.len - Int.toNat (1 :
Int))).len : Int) → (0 : Int) ≤ (↑x : Int) ∧ (↑x : Int) < (↑(l.sub (Int.toNat (1 : Int)) (l.len - Int.toNat (1 : Int))).len : Int) ∧ (0 : Nat) < s.length ∧ (0 : Nat) + (sAt l (0 : Nat) ++ catB l s
x).length ≤ (strD (sAt l (0 : Nat) ++ catB l s x)).length ∧ (sAt l (0 : Nat) ++ catB l s x).length + s.length ≤ (16777216 : Nat) ∧ (0 : Nat) < (sAt (l.sub (Int.toNat (1 : Int)) (l.len - Int.toNat (1 :
Int))) x).length ∧ (0 : Nat) + ((sAt l (0 : Nat) ++ catB l s x).length + s.length) ≤ (List.take (sAt l (0 : Nat) ++ catB l s x).length (strD (sAt l (0 : Nat) ++ catB l s x)) ++ strD s).length ∧ (sAt l
(0 : Nat) ++ catB l s x).length + s.length + (sAt (l.sub (Int.toNat (1 : Int)) (l.len - Int.toNat (1 : Int))) x).length ≤ (16777216 : Nat) ∧ ((-9223372036854775808 : Int) ≤ (↑x : Int) + (1 : Int) ∧
(↑x : Int) + (1 : Int) < (9223372036854775808 : Int)) ∧ ∃ (y : Nat), y.le (l.len - (1 : Nat)) ∧ l.len - y < l.len - x ∧ ((↑x : Int) + (1 : Int) = (↑y : Int) ∧ True) ∧ (True ∧ ((0 : Nat) = (0 : Nat) ∧
(sAt l (0 : Nat) ++ catB l s x).length + s.length + (sAt (l.sub (Int.toNat (1 : Int)) (l.len - Int.toNat (1 : Int))) x).length = (sAt l (0 : Nat) ++ catB l s y).length ∧ True) ∧ True) ∧ List.take
((sAt l (0 : Nat) ++ catB l s x).length + s.length) (List.take (sAt l (0 : Nat) ++ catB l s x).length (strD (sAt l (0 : Nat) ++ catB l s x)) ++ strD s) ++ strD (sAt (l.sub (Int.toNat (1 : Int)) (l.len
- Int.toNat (1 : Int))) x) = strD (sAt l (0 : Nat) ++ catB l s y) ∧ True) ∧ (((↑x : Int) < (↑(l.sub (Int.toNat (1 : Int)) (l.len - Int.toNat (1 : Int))).len : Int) → False) → ((sAt l (0 : Nat) ++ catB
l s x).length = (0 : Nat) → False) ∧ (0 : Int) ≤ (↑(sAt l (0 : Nat) ++ catB l s x).length : Int) ∧ (0 : Nat) < (sAt l (0 : Nat) ++ catB l s x).length ∧ (sAt l (0 : Nat) ++ catB l s x).length ≤
(16777216 : Nat) ∧ (0 : Nat) + (sAt l (0 : Nat) ++ catB l s x).length ≤ (strD (sAt l (0 : Nat) ++ catB l s x)).length ∧ byteL (List.take (sAt l (0 : Nat) ++ catB l s x).length (strD (sAt l (0 : Nat)
++ catB l s x))) ∧ bytesD (List.take (sAt l (0 : Nat) ++ catB l s x).length (strD (sAt l (0 : Nat) ++ catB l s x))) = joinB l s)
theorem vc55 : ∀ (l : D) (s : List UInt8), symFun (ctx (fun _ => none) cfAnn) (8 : Nat) (55 : FuncId) [V.dat (32 : TypeId) l, V.str s] (V.str (joinB l s)) = (((↑l.len : Int) = (0 : Int) → [] = joinB l
s) ∧ (((↑l.len : Int) = (0 : Int) → False) → ((↑l.len : Int) = (1 : Int) → (0 : Int) ≤ (0 : Int) ∧ (0 : Int) < (↑l.len : Int) ∧ sAt l (0 : Nat) = joinB l s) ∧ (((↑l.len : Int) = (1 : Int) → False) →
((0 : Int) < (↑s.length : Int) → ((-9223372036854775808 : Int) ≤ (↑l.len : Int) - (1 : Int) ∧ (↑l.len : Int) - (1 : Int) < (9223372036854775808 : Int)) ∧ ((↑l.len : Int) - (1 : Int) = (0 : Int) →
False) ∧ ((-9223372036854775808 : Int) ≤ Int.tdiv (9223372036854775807 : Int) ((↑l.len : Int) - (1 : Int)) ∧ Int.tdiv (9223372036854775807 : Int) ((↑l.len : Int) - (1 : Int)) < (9223372036854775808 :
Int)) ∧ (Int.tdiv (9223372036854775807 : Int) ((↑l.len : Int) - (1 : Int)) ≤ (↑s.length : Int) → False) ∧ ((Int.tdiv (9223372036854775807 : Int) ((↑l.len : Int) - (1 : Int)) ≤ (↑s.length : Int) →
False) → ((-9223372036854775808 : Int) ≤ (↑l.len : Int) - (1 : Int) ∧ (↑l.len : Int) - (1 : Int) < (9223372036854775808 : Int)) ∧ ((-9223372036854775808 : Int) ≤ (↑s.length : Int) * ((↑l.len : Int) -
(1 : Int)) ∧ (↑s.length : Int) * ((↑l.len : Int) - (1 : Int)) < (9223372036854775808 : Int)) ∧ ((-9223372036854775808 : Int) ≤ (0 : Int) + (↑s.length : Int) * ((↑l.len : Int) - (1 : Int)) ∧ (0 : Int)
+ (↑s.length : Int) * ((↑l.len : Int) - (1 : Int)) < (9223372036854775808 : Int)) ∧ (∃ (x : Nat × Int), (x.fst ≤ l.len ∧ (0 : Int) ≤ x.snd ∧ x.snd ≤ (10000 : Int) + (100 : Int) * (↑x.fst : Int) ∧ ((0
: Nat) < x.fst → (1 : Int) ≤ x.snd)) ∧ ((0 : Int) = (↑x.fst : Int) ∧ (0 : Int) + (↑s.length : Int) * ((↑l.len : Int) - (1 : Int)) = x.snd ∧ True) ∧ True) ∧ ∀ (x : Nat × Int), x.fst ≤ l.len ∧ (0 : Int)
≤ x.snd ∧ x.snd ≤ (10000 : Int) + (100 : Int) * (↑x.fst : Int) ∧ ((0 : Nat) < x.fst → (1 : Int) ≤ x.snd) → l.len - x.fst < LIM ∧ ((↑x.fst : Int) < (↑l.len : Int) → (0 : Int) ≤ (↑x.fst : Int) ∧ (↑x.fst
: Int) < (↑l.len : Int) ∧ ((-9223372036854775808 : Int) ≤ (9223372036854775807 : Int) - x.snd ∧ (9223372036854775807 : Int) - x.snd < (9223372036854775808 : Int)) ∧ ((9223372036854775807 : Int) -
x.snd < (↑(sAt l x.fst).length : Int) → False) ∧ (((9223372036854775807 : Int) - x.snd < (↑(sAt l x.fst).length : Int) → False) → ((-9223372036854775808 : Int) ≤ x.snd + (↑(sAt l x.fst).length : Int)
∧ x.snd + (↑(sAt l x.fst).length : Int) < (9223372036854775808 : Int)) ∧ ((-9223372036854775808 : Int) ≤ (↑x.fst : Int) + (1 : Int) ∧ (↑x.fst : Int) + (1 : Int) < (9223372036854775808 : Int)) ∧ ∃ (y :
Nat × Int), (y.fst ≤ l.len ∧ (0 : Int) ≤ y.snd ∧ y.snd ≤ (10000 : Int) + (100 : Int) * (↑y.fst : Int) ∧ ((0 : Nat) < y.fst → (1 : Int) ≤ y.snd)) ∧ l.len - y.fst < l.len - x.fst ∧ ((↑x.fst : Int) + (1
: Int) = (↑y.fst : Int) ∧ x.snd + (↑(sAt l x.fst).length : Int) = y.snd ∧ True) ∧ True)) ∧ (((↑x.fst : Int) < (↑l.len : Int) → False) → (x.snd < (0 : Int) → False) ∧ ((x.snd < (0 : Int) → False) →
(Int.ofNat Nat.zero < x.snd → ((-9223372036854775808 : Int) ≤ Int.ofNat Nat.zero + x.snd ∧ Int.ofNat Nat.zero + x.snd < (9223372036854775808 : Int)) ∧ (0 : Int) ≤ Int.ofNat Nat.zero + x.snd ∧
Int.ofNat Nat.zero + x.snd ≤ (16777216 : Int) ∧ (0 : Int) ≤ (0 : Int) ∧ (0 : Int) ≤ (0 : Int) ∧ ((↑(Int.ofNat Nat.zero + x.snd).toNat : Int) - (0 : Int)).NonNeg ∧ (0 : Int) ≤ (0 : Int) ∧ (0 : Int) <
(↑l.len : Int) ∧ (0 : Nat) < (sAt l (0 : Nat)).length ∧ (0 : Nat) + (0 : Nat) + ((0 : Nat) - (0 : Nat)) ≤ ([] : List D).length ∧ (0 : Nat) - (0 : Nat) + (sAt l (0 : Nat)).length ≤ (16777216 : Nat) ∧
(0 : Int) ≤ (1 : Int) ∧ (1 : Int) ≤ (↑l.len : Int) ∧ (↑l.len : Int) ≤ (↑l.len : Int) ∧ tailC l s) ∧ ((Int.ofNat Nat.zero < x.snd → False) → (0 : Int) ≤ (0 : Int) ∧ (0 : Int) < (↑l.len : Int) ∧ (0 :
Nat) < (sAt l (0 : Nat)).length ∧ (sAt l (0 : Nat)).length ≤ (16777216 : Nat) ∧ (0 : Int) ≤ (1 : Int) ∧ (1 : Int) ≤ (↑l.len : Int) ∧ (↑l.len : Int) ≤ (↑l.len : Int) ∧ tailC l s))))) ∧ (((0 : Int) <
(↑s.length : Int) → False) → (∃ (x : Nat × Int), (x.fst ≤ l.len ∧ (0 : Int) ≤ x.snd ∧ x.snd ≤ (10000 : Int) + (100 : Int) * (↑x.fst : Int) ∧ ((0 : Nat) < x.fst → (1 : Int) ≤ x.snd)) ∧ ((0 : Int) =
(↑x.fst : Int) ∧ (0 : Int) = x.snd ∧ True) ∧ True) ∧ ∀ (x : Nat × Int), x.fst ≤ l.len ∧ (0 : Int) ≤ x.snd ∧ x.snd ≤ (10000 : Int) + (100 : Int) * (↑x.fst : Int) ∧ ((0 : Nat) < x.fst → (1 : Int) ≤
x.snd) → l.len - x.fst < LIM ∧ ((↑x.fst : Int) < (↑l.len : Int) → (0 : Int) ≤ (↑x.fst : Int) ∧ (↑x.fst : Int) < (↑l.len : Int) ∧ ((-9223372036854775808 : Int) ≤ (9223372036854775807 : Int) - x.snd ∧
(9223372036854775807 : Int) - x.snd < (9223372036854775808 : Int)) ∧ ((9223372036854775807 : Int) - x.snd < (↑(sAt l x.fst).length : Int) → False) ∧ (((9223372036854775807 : Int) - x.snd < (↑(sAt l
x.fst).length : Int) → False) → ((-9223372036854775808 : Int) ≤ x.snd + (↑(sAt l x.fst).length : Int) ∧ x.snd + (↑(sAt l x.fst).length : Int) < (9223372036854775808 : Int)) ∧ ((-9223372036854775808 :
Int) ≤ (↑x.fst : Int) + (1 : Int) ∧ (↑x.fst : Int) + (1 : Int) < (9223372036854775808 : Int)) ∧ ∃ (y : Nat × Int), (y.fst ≤ l.len ∧ (0 : Int) ≤ y.snd ∧ y.snd ≤ (10000 : Int) + (100 : Int) * (↑y.fst :
Int) ∧ ((0 : Nat) < y.fst → (1 : Int) ≤ y.snd)) ∧ l.len - y.fst < l.len - x.fst ∧ ((↑x.fst : Int) + (1 : Int) = (↑y.fst : Int) ∧ x.snd + (↑(sAt l x.fst).length : Int) = y.snd ∧ True) ∧ True)) ∧
(((↑x.fst : Int) < (↑l.len : Int) → False) → (x.snd < (0 : Int) → False) ∧ ((x.snd < (0 : Int) → False) → (Int.ofNat Nat.zero < x.snd → ((-9223372036854775808 : Int) ≤ Int.ofNat Nat.zero + x.snd ∧
Int.ofNat Nat.zero + x.snd < (9223372036854775808 : Int)) ∧ (0 : Int) ≤ Int.ofNat Nat.zero + x.snd ∧ Int.ofNat Nat.zero + x.snd ≤ (16777216 : Int) ∧ (0 : Int) ≤ (0 : Int) ∧ (0 : Int) ≤ (0 : Int) ∧
((↑(Int.ofNat Nat.zero + x.snd).toNat : Int) - (0 : Int)).NonNeg ∧ (0 : Int) ≤ (0 : Int) ∧ (0 : Int) < (↑l.len : Int) ∧ (0 : Nat) < (sAt l (0 : Nat)).length ∧ (0 : Nat) + (0 : Nat) + ((0 : Nat) - (0 :
Nat)) ≤ ([] : List D).length ∧ (0 : Nat) - (0 : Nat) + (sAt l (0 : Nat)).length ≤ (16777216 : Nat) ∧ (0 : Int) ≤ (1 : Int) ∧ (1 : Int) ≤ (↑l.len : Int) ∧ (↑l.len : Int) ≤ (↑l.len : Int) ∧ tailC l s) ∧
((Int.ofNat Nat.zero < x.snd → False) → (0 : Int) ≤ (0 : Int) ∧ (0 : Int) < (↑l.len : Int) ∧ (0 : Nat) < (sAt l (0 : Nat)).length ∧ (sAt l (0 : Nat)).length ≤ (16777216 : Nat) ∧ (0 : Int) ≤ (1 : Int)
∧ (1 : Int) ≤ (↑l.len : Int) ∧ (↑l.len : Int) ≤ (↑l.len : Int) ∧ tailC l s))))))) := by intros; kernel_rfl
theorem strD_app (a b : List UInt8) : strD (a ++ b) = strD a ++ strD b := List.map_append
theorem strD_len (a : List UInt8) : (strD a).length = a.length := List.length_map _
theorem strD_take (a : List UInt8) (n : Nat) (h : n = a.length) : List.take n (strD a) = strD a := List.take_of_length_le (by rw [strD_len]; omega)
theorem bytesD_strD : ∀ s : List UInt8, bytesD (strD s) = s
 | [] => rfl
 | b :: s => by
  have := bytesD_strD s
  unfold bytesD strD at this ⊢
  rw [List.map_cons, List.map_cons, this]
  congr 1
  show UInt8.ofNat (Int.toNat (b.toNat : Int)) = b
  rw [Int.toNat_natCast, UInt8.ofNat_toNat]
theorem byteL_strD (s : List UInt8) : byteL (strD s) := ⟨fun d hd => by
 obtain ⟨b, _, rfl⟩ := List.mem_map.1 hd
 exact ⟨b.toNat, b.toNat_lt, rfl⟩⟩
theorem cat_len (l : D) (s : List UInt8) (h : joinP l s) : ∀ x, x + 1 ≤ l.len → (catB l s x).length ≤ 200 * x
 | 0, _ => Nat.le_refl _
 | x + 1, hx => by
  have h1 := cat_len l s h x (by omega)
  have h2 := (h.out.2.2 (x + 1) (by omega)).2
  have h3 := h.out.2.1.2
  unfold catB
  rw [List.length_append, List.length_append]; omega
theorem sub1_len (l : D) (h : 1 ≤ l.len) : (l.sub (Int.toNat 1) (l.len - Int.toNat 1)).len = l.len - 1 := by
 cases l <;> simp [D.sub, D.len, D.asList] at h ⊢
theorem sub1_at (l : D) (x : Nat) (h : x + 1 < l.len) : sAt (l.sub (Int.toNat 1) (l.len - Int.toNat 1)) x = sAt l (x + 1) := by
 unfold sAt
 cases l with
 | list l =>
  simp only [D.sub, D.asList, nthD, D.len] at h ⊢
  rw [List.getElem?_take, if_pos (by show x < l.length - 1; omega), List.getElem?_drop, show Int.toNat 1 + x = x + 1 from Nat.add_comm 1 x]
 | _ => simp [D.len, D.asList] at h
theorem tail_ok (l : D) (s : List UInt8) (h : joinP l s) (h2 : 2 ≤ l.len) : tailC l s := by
 have hl := h.out.1
 have hs := h.out.2.1
 have hB : ∀ x, x + 1 ≤ l.len → 1 ≤ (sAt l 0 ++ catB l s x).length ∧ (sAt l 0 ++ catB l s x).length ≤ 100 + 200 * x := fun x hx => by
  have h1 := cat_len l s h x hx
  have h3 := h.out.2.2 0 (by omega)
  rw [List.length_append]; omega
 unfold tailC
 rw [sub1_len l (by omega)]
 refine ⟨⟨0, Nat.zero_le _, ⟨rfl, trivial⟩, ⟨trivial, ⟨rfl, by simp [catB], trivial⟩, trivial⟩, by rw [show catB l s 0 = [] from rfl, List.append_nil], trivial⟩, fun x hx => ?_⟩
 have hx : x ≤ l.len - 1 := hx
 have hb := hB x (by omega)
 refine ⟨by unfold LIM; omega, fun hlt => ?_, fun hge => ?_⟩
 ·have hlt : x + 1 < l.len := by omega
  have hb1 := hB (x + 1) (by omega)
  have he := h.out.2.2 (x + 1) (by omega)
  have e1 : sAt l 0 ++ catB l s (x + 1) = (sAt l 0 ++ catB l s x) ++ s ++ sAt l (x + 1) := by
   show sAt l 0 ++ (catB l s x ++ (s ++ sAt l (x + 1))) = _
   simp only [List.append_assoc]
  rw [sub1_at l x hlt]
  have el : (sAt l 0 ++ catB l s (x + 1)).length = (sAt l 0 ++ catB l s x).length + s.length + (sAt l (x + 1)).length := by rw [e1, List.length_append, List.length_append]
  refine ⟨by omega, by omega, by omega, by rw [strD_len]; omega, by omega, by omega, by simp only [List.length_append, List.length_take, strD_len]; omega, by omega, ⟨by omega, by omega⟩, x + 1, show x + 1 ≤ l.len - 1 by omega, by omega, ⟨by omega, trivial⟩, ⟨trivial, ⟨rfl, el.symm, trivial⟩, trivial⟩, ?_, trivial⟩
  rw [strD_take _ _ rfl, ← strD_app, strD_take _ _ List.length_append.symm, ← strD_app, e1]
 ·have hxl : x = l.len - 1 := by have : ¬ (x : Int) < ((l.len - 1 : Nat) : Int) := hge; omega
  subst hxl
  refine ⟨fun h => by omega, by omega, by omega, by omega, by rw [strD_len]; omega, by rw [strD_take _ _ rfl]; exact byteL_strD _, ?_⟩
  rw [strD_take _ _ rfl, bytesD_strD]
  unfold joinB; rw [if_neg (by omega)]
theorem s55 (l : D) (s : List UInt8) (h : joinP l s) : symFun (ctx (fun _ => none) cfAnn) 8 55 [.dat 32 l, .str s] (.str (joinB l s)) := by
 obtain ⟨hl, hs, he⟩ := h.out
 rw [vc55]
 refine ⟨fun h0 => ?_, fun h0 => ⟨fun h1 => ⟨by omega, by omega, ?_⟩, fun h1 => ⟨fun hsp => ?_, fun hsp => absurd (by omega) hsp⟩⟩⟩
 ·unfold joinB; rw [if_pos (by omega)]
 ·unfold joinB; rw [if_neg (by omega), show l.len - 1 = 0 by omega]; simp [catB]
 ·have h0 : ¬ (l.len : Int) = 0 := h0
  have h1 : ¬ (l.len : Int) = 1 := h1
  have hT : 1000 ≤ Int.tdiv 9223372036854775807 ((l.len : Int) - 1) ∧ Int.tdiv 9223372036854775807 ((l.len : Int) - 1) ≤ 9223372036854775807 := by
   rw [Int.tdiv_eq_ediv_of_nonneg (by omega)]
   exact ⟨Int.le_ediv_of_mul_le (by omega) (by omega), Int.ediv_le_self _ (by omega)⟩
  have hM : 0 ≤ (s.length : Int) * ((l.len : Int) - 1) ∧ (s.length : Int) * ((l.len : Int) - 1) ≤ 100 * 100 :=
   ⟨Int.mul_nonneg (by omega) (by omega), Int.mul_le_mul (by omega) (by omega) (by omega) (by omega)⟩
  generalize Int.tdiv 9223372036854775807 ((l.len : Int) - 1) = T at *
  generalize (s.length : Int) * ((l.len : Int) - 1) = M at *
  refine ⟨⟨by omega, by omega⟩, fun h => by omega, ⟨by omega, by omega⟩, fun h => by omega, fun _ => ⟨⟨by omega, by omega⟩, ⟨by omega, by omega⟩, ⟨by omega, by omega⟩, ⟨(0, 0 + M), ⟨Nat.zero_le _, by show 0 ≤ 0 + M; omega, by show 0 + M ≤ 10000 + 100 * ((0 : Nat) : Int); omega, fun h => absurd h (Nat.lt_irrefl 0)⟩, ⟨rfl, rfl, trivial⟩, trivial⟩, fun x ⟨hx, q0, q1, q2⟩ => ⟨by unfold LIM; omega, fun hlt => ?_, fun hge => ?_⟩⟩⟩
  ·have hx1 := he x.1 (by omega)
   refine ⟨by omega, hlt, ⟨by omega, by omega⟩, fun h => by omega, fun _ => ⟨⟨by omega, by omega⟩, ⟨by omega, by omega⟩, (x.1 + 1, x.2 + ((sAt l x.1).length : Int)), ⟨by show x.1 + 1 ≤ l.len; omega, by show 0 ≤ x.2 + ((sAt l x.1).length : Int); omega, by show x.2 + ((sAt l x.1).length : Int) ≤ 10000 + 100 * ((x.1 + 1 : Nat) : Int); omega, fun _ => by show 1 ≤ x.2 + ((sAt l x.1).length : Int); omega⟩, by show l.len - (x.1 + 1) < l.len - x.1; omega, ⟨by show (x.1 : Int) + 1 = ((x.1 + 1 : Nat) : Int); omega, rfl, trivial⟩, trivial⟩⟩
  ·have hge : ¬ (x.1 : Int) < l.len := hge
   have q3 := q2 (by omega)
   have e0 := he 0 (by omega)
   refine ⟨fun h => by omega, fun _ => ⟨fun _ => ?_, fun h => absurd (show (0 : Int) < x.2 by omega) h⟩⟩
   have ez : Int.ofNat Nat.zero + x.2 = x.2 := Int.zero_add _
   rw [ez]
   refine ⟨⟨by omega, by omega⟩, by omega, by omega, by omega, by omega, ?_, by omega, by omega, by omega, by simp, by omega, by omega, by omega, by omega, tail_ok l s h (by omega)⟩
   show (0 : Int) ≤ ((x.2.toNat : Nat) : Int)
   omega
end Go.Ev

end

section
open Go.Proofs
namespace Go.Ev
set_option maxRecDepth 100000
set_option maxHeartbeats 4000000
def joinT (s : List UInt8) (R : List D) : List UInt8 := (R.map fun d => s ++ d.asStr).flatten
theorem joinT_app (s : List UInt8) (A B : List D) : joinT s (A ++ B) = joinT s A ++ joinT s B := by unfold joinT; rw [List.map_append, List.flatten_append]
theorem cat_eq (s : List UInt8) (d : D) (R : List D) : ∀ n, n ≤ R.length → catB (.list (d :: R)) s n = joinT s (R.take n)
 | 0, _ => rfl
 | n + 1, h => by
  unfold catB
  rw [cat_eq s d R n (by omega), List.take_succ_eq_append_getElem (by omega), joinT_app]
  congr 1
  show s ++ (nthD (d :: R) (n + 1)).asStr = (([R[n]]).map fun d => s ++ d.asStr).flatten
  rw [nthD_succ]
  simp [nthD, List.getElem?_eq_getElem (show n < R.length by omega)]
theorem join_cons (s : List UInt8) (d : D) (R : List D) : joinB (.list (d :: R)) s = d.asStr ++ joinT s R := by
 unfold joinB
 rw [if_neg (by show ¬ R.length + 1 = 0; omega), show (D.list (d :: R)).len - 1 = R.length from rfl, cat_eq s d R R.length (Nat.le_refl _), List.take_length]
 rfl
theorem names_eq (nm : D) : ∀ n, n ≤ nm.len → namesB nm n = joinT spB (nm.asList.take n)
 | 0, _ => rfl
 | n + 1, h => by
  unfold namesB
  have h' : n < nm.asList.length := h
  rw [names_eq nm n (by omega), List.take_succ_eq_append_getElem h', joinT_app]
  congr 1
  show spB ++ (nthD nm.asList n).asStr = (([nm.asList[n]]).map fun d => spB ++ d.asStr).flatten
  simp [nthD, List.getElem?_eq_getElem h']
noncomputable def bodyB (x : D) : List UInt8 := joinB (.list (wordsL (cK x) (cA x) (cL x) (cNm x) (cN x))) [32]
theorem joinT_if (s : List UInt8) (p : Prop) [Decidable p] (A B : List D) : joinT s (if p then A else B) = if p then joinT s A else joinT s B := by split <;> rfl
theorem vc30 : ∀ (c : D), symFun (ctxF cf2) (6 : Nat) (30 : FuncId) [V.dat (22 : TypeId) c] (V.str (textD c)) = (smallC c ∧ (((badZ c).snd = (0 : Int) → False) → [] = textD c) ∧ ((((badZ c).snd = (0 :
Int) → False) → False) → ((∃ (x : Nat), x = (0 : Nat) ∧ ((0 : Int) = (0 : Int) ∧ True) ∧ (True ∧ True ∧ True) ∧ True) ∨ ∃ (x : Nat), ((0 : Nat) < x ∧ x ≤ c.len) ∧ ((0 : Int) = (↑x : Int) ∧ True) ∧
(False ∧ False ∧ True) ∧ False ∧ True) ∧ (∀ (x : Nat), x = (0 : Nat) → c.len - x < LIM ∧ ((0 : Int) < (↑c.len : Int) → (0 : Int) ≤ (0 : Int) ∧ (0 : Int) < (↑c.len : Int) ∧ rightC (cK (el c (0 : Nat)))
(cA (el c (0 : Nat))) (cL (el c (0 : Nat))) (cNm (el c (0 : Nat))) (cN (el c (0 : Nat))) ∧ joinP (D.list (wordsL (cK (el c (0 : Nat))) (cA (el c (0 : Nat))) (cL (el c (0 : Nat))) (cNm (el c (0 :
Nat))) (cN (el c (0 : Nat))))) [(32 : UInt8)] ∧ (bodyB (el c (0 : Nat))).length + [(10 : UInt8)].length < (9223372036854775808 : Nat) ∧ (0 : Nat) < (bodyB (el c (0 : Nat)) ++ [(10 : UInt8)]).length ∧
(bodyB (el c (0 : Nat)) ++ [(10 : UInt8)]).length ≤ (16777216 : Nat) ∧ ((-9223372036854775808 : Int) ≤ (0 : Int) + (1 : Int) ∧ (0 : Int) + (1 : Int) < (9223372036854775808 : Int)) ∧ ((∃ (y : Nat), y =
(0 : Nat) ∧ c.len - y < c.len - x ∧ ((0 : Int) + (1 : Int) = (0 : Int) ∧ True) ∧ (False ∧ False ∧ True) ∧ True) ∨ ∃ (y : Nat), ((0 : Nat) < y ∧ y ≤ c.len) ∧ c.len - y < c.len - x ∧ ((0 : Int) + (1 :
Int) = (↑y : Int) ∧ True) ∧ (True ∧ ((0 : Nat) = (0 : Nat) ∧ (bodyB (el c (0 : Nat)) ++ [(10 : UInt8)]).length = (fmtL c y).length ∧ True) ∧ True) ∧ strD (bodyB (el c (0 : Nat)) ++ [(10 : UInt8)]) =
strD (fmtL c y) ∧ True)) ∧ (((0 : Int) < (↑c.len : Int) → False) → [] = textD c)) ∧ ∀ (x : Nat), (0 : Nat) < x ∧ x ≤ c.len → c.len - x < LIM ∧ ((↑x : Int) < (↑c.len : Int) → (0 : Int) ≤ (↑x : Int) ∧
(↑x : Int) < (↑c.len : Int) ∧ rightC (cK (el c x)) (cA (el c x)) (cL (el c x)) (cNm (el c x)) (cN (el c x)) ∧ joinP (D.list (wordsL (cK (el c x)) (cA (el c x)) (cL (el c x)) (cNm (el c x)) (cN (el c
x)))) [(32 : UInt8)] ∧ (bodyB (el c x)).length + [(10 : UInt8)].length < (9223372036854775808 : Nat) ∧ (0 : Nat) < (bodyB (el c x) ++ [(10 : UInt8)]).length ∧ (0 : Nat) + (fmtL c x).length ≤ (strD
(fmtL c x)).length ∧ (fmtL c x).length + (bodyB (el c x) ++ [(10 : UInt8)]).length ≤ (16777216 : Nat) ∧ ((-9223372036854775808 : Int) ≤ (↑x : Int) + (1 : Int) ∧ (↑x : Int) + (1 : Int) <
(9223372036854775808 : Int)) ∧ ((∃ (y : Nat), y = (0 : Nat) ∧ c.len - y < c.len - x ∧ ((↑x : Int) + (1 : Int) = (0 : Int) ∧ True) ∧ (False ∧ False ∧ True) ∧ True) ∨ ∃ (y : Nat), ((0 : Nat) < y ∧ y ≤
c.len) ∧ c.len - y < c.len - x ∧ ((↑x : Int) + (1 : Int) = (↑y : Int) ∧ True) ∧ (True ∧ ((0 : Nat) = (0 : Nat) ∧ (fmtL c x).length + (bodyB (el c x) ++ [(10 : UInt8)]).length = (fmtL c y).length ∧
True) ∧ True) ∧ List.take (fmtL c x).length (strD (fmtL c x)) ++ strD (bodyB (el c x) ++ [(10 : UInt8)]) = strD (fmtL c y) ∧ True)) ∧ (((↑x : Int) < (↑c.len : Int) → False) → ((fmtL c x).length = (0 :
Nat) → False) ∧ (0 : Int) ≤ (↑(fmtL c x).length : Int) ∧ (0 : Nat) < (fmtL c x).length ∧ (fmtL c x).length ≤ (16777216 : Nat) ∧ (0 : Nat) + (fmtL c x).length ≤ (strD (fmtL c x)).length ∧ byteL
(List.take (fmtL c x).length (strD (fmtL c x))) ∧ bytesD (List.take (fmtL c x).length (strD (fmtL c x))) = textD c))) := by intros; kernel_rfl
theorem vc35 : ∀ (c : D), symFun (ctxF cf2) (4 : Nat) (35 : FuncId) [V.dat (22 : TypeId) c] (V.str (fmtL c c.len)) = ((∃ (x : Nat), x.le c.len ∧ ((0 : Int) = (↑x : Int) ∧ [] = fmtL c x ∧ True) ∧ True)
∧ ∀ (x : Nat), x.le c.len → c.len - x < LIM ∧ ((↑x : Int) < (↑c.len : Int) → ((0 : Int) ≤ (↑x : Int) ∧ (↑x : Int) < (↑c.len : Int) ∧ ((cA (el c x) = [] → False) → (fmtL c x).length + [(97 : UInt8),
(109 : UInt8), (111 : UInt8), (110 : UInt8), (103 : UInt8), (32 : UInt8)].length < (9223372036854775808 : Nat) ∧ (0 : Int) ≤ (↑x : Int) ∧ (↑x : Int) < (↑c.len : Int) ∧ (fmtL c x ++ [(97 : UInt8), (109
: UInt8), (111 : UInt8), (110 : UInt8), (103 : UInt8), (32 : UInt8)]).length + (cA (el c x)).length < (9223372036854775808 : Nat) ∧ (fmtL c x ++ [(97 : UInt8), (109 : UInt8), (111 : UInt8), (110 :
UInt8), (103 : UInt8), (32 : UInt8)] ++ cA (el c x)).length + [(32 : UInt8)].length < (9223372036854775808 : Nat) ∧ ∃ (x_1 : Unit), True ∧ (fmtL c x ++ [(97 : UInt8), (109 : UInt8), (111 : UInt8),
(110 : UInt8), (103 : UInt8), (32 : UInt8)] ++ cA (el c x) ++ [(32 : UInt8)] = fmtL c x ++ amongB (cA (el c x)) ∧ True) ∧ True) ∧ (((cA (el c x) = [] → False) → False) → ∃ (x_1 : Unit), True ∧ (fmtL c
x = fmtL c x ++ amongB (cA (el c x)) ∧ True) ∧ True)) ∧ ∀ (x_1 : Unit), True → (0 : Int) ≤ (↑x : Int) ∧ (↑x : Int) < (↑c.len : Int) ∧ ((1 : Int) ≤ IntKind.i64.wrap (cK (el c x)) ∧ IntKind.i64.wrap (cK
(el c x)) ≤ (10 : Int)) ∧ (fmtL c x ++ amongB (cA (el c x))).length + (wordB (IntKind.i64.wrap (cK (el c x)))).length < (9223372036854775808 : Nat) ∧ ((0 : Int) ≤ (↑x : Int) ∧ (↑x : Int) < (↑c.len :
Int) ∧ ((cK (el c x) = (4 : Int) → False) → (0 : Int) ≤ (↑x : Int) ∧ (↑x : Int) < (↑c.len : Int) ∧ (cK (el c x) = (10 : Int) → (fmtL c x ++ amongB (cA (el c x)) ++ wordB (IntKind.i64.wrap (cK (el c
x)))).length + [(32 : UInt8)].length < (9223372036854775808 : Nat) ∧ (0 : Int) ≤ (↑x : Int) ∧ (↑x : Int) < (↑c.len : Int) ∧ ((0 : Int) ≤ cN (el c x) ∧ cN (el c x) ≤ (99 : Int)) ∧ (fmtL c x ++ amongB
(cA (el c x)) ++ wordB (IntKind.i64.wrap (cK (el c x))) ++ [(32 : UInt8)]).length + (decB (cN (el c x))).length < (9223372036854775808 : Nat) ∧ ∃ (x_2 : Unit), True ∧ (fmtL c x ++ amongB (cA (el c x))
++ wordB (IntKind.i64.wrap (cK (el c x))) ++ [(32 : UInt8)] ++ decB (cN (el c x)) = fmtL c x ++ head2 (el c x) ∧ True) ∧ True) ∧ ((cK (el c x) = (10 : Int) → False) → ∃ (x_2 : Unit), True ∧ (fmtL c x
++ amongB (cA (el c x)) ++ wordB (IntKind.i64.wrap (cK (el c x))) = fmtL c x ++ head2 (el c x) ∧ True) ∧ True)) ∧ (cK (el c x) = (4 : Int) → (fmtL c x ++ amongB (cA (el c x)) ++ wordB
(IntKind.i64.wrap (cK (el c x)))).length + [(32 : UInt8)].length < (9223372036854775808 : Nat) ∧ (0 : Int) ≤ (↑x : Int) ∧ (↑x : Int) < (↑c.len : Int) ∧ ((0 : Int) ≤ cN (el c x) ∧ cN (el c x) ≤ (99 :
Int)) ∧ (fmtL c x ++ amongB (cA (el c x)) ++ wordB (IntKind.i64.wrap (cK (el c x))) ++ [(32 : UInt8)]).length + (decB (cN (el c x))).length < (9223372036854775808 : Nat) ∧ ∃ (x_2 : Unit), True ∧ (fmtL
c x ++ amongB (cA (el c x)) ++ wordB (IntKind.i64.wrap (cK (el c x))) ++ [(32 : UInt8)] ++ decB (cN (el c x)) = fmtL c x ++ head2 (el c x) ∧ True) ∧ True)) ∧ ∀ (x_2 : Unit), True → ((0 : Int) ≤ (↑x :
Int) ∧ (↑x : Int) < (↑c.len : Int) ∧ ((4 : Int) ≤ cK (el c x) → (0 : Int) ≤ (↑x : Int) ∧ (↑x : Int) < (↑c.len : Int) ∧ (cK (el c x) ≤ (7 : Int) → (0 : Int) ≤ (↑x : Int) ∧ (↑x : Int) < (↑c.len : Int) ∧
(cL (el c x) → (fmtL c x ++ head2 (el c x)).length + [(32 : UInt8), (108 : UInt8), (97 : UInt8), (115 : UInt8), (116 : UInt8)].length < (9223372036854775808 : Nat) ∧ ∃ (x_3 : Unit), True ∧ (fmtL c x
++ head2 (el c x) ++ [(32 : UInt8), (108 : UInt8), (97 : UInt8), (115 : UInt8), (116 : UInt8)] = fmtL c x ++ head3 (el c x) ∧ True) ∧ True) ∧ ((cL (el c x) → False) → (fmtL c x ++ head2 (el c
x)).length + [(32 : UInt8), (102 : UInt8), (105 : UInt8), (114 : UInt8), (115 : UInt8), (116 : UInt8)].length < (9223372036854775808 : Nat) ∧ ∃ (x_3 : Unit), True ∧ (fmtL c x ++ head2 (el c x) ++ [(32
: UInt8), (102 : UInt8), (105 : UInt8), (114 : UInt8), (115 : UInt8), (116 : UInt8)] = fmtL c x ++ head3 (el c x) ∧ True) ∧ True)) ∧ ((cK (el c x) ≤ (7 : Int) → False) → ∃ (x_3 : Unit), True ∧ (fmtL c
x ++ head2 (el c x) = fmtL c x ++ head3 (el c x) ∧ True) ∧ True)) ∧ (((4 : Int) ≤ cK (el c x) → False) → ∃ (x_3 : Unit), True ∧ (fmtL c x ++ head2 (el c x) = fmtL c x ++ head3 (el c x) ∧ True) ∧
True)) ∧ ∀ (x_3 : Unit), True → (∃ (x_4 : Nat), x_4.le (cNm (el c x)).len ∧ ((0 : Int) = (↑x_4 : Int) ∧ fmtL c x ++ head3 (el c x) = fmtL c x ++ (head3 (el c x) ++ namesB (cNm (el c x)) x_4) ∧ True) ∧
True) ∧ ∀ (x_4 : Nat), x_4.le (cNm (el c x)).len → (cNm (el c x)).len - x_4 < LIM ∧ (0 : Int) ≤ (↑x : Int) ∧ (↑x : Int) < (↑c.len : Int) ∧ ((↑x_4 : Int) < (↑(cNm (el c x)).len : Int) → (fmtL c x ++
(head3 (el c x) ++ namesB (cNm (el c x)) x_4)).length + [(32 : UInt8)].length < (9223372036854775808 : Nat) ∧ (0 : Int) ≤ (↑x : Int) ∧ (↑x : Int) < (↑c.len : Int) ∧ (0 : Int) ≤ (↑x_4 : Int) ∧ (↑x_4 :
Int) < (↑(cNm (el c x)).len : Int) ∧ (fmtL c x ++ (head3 (el c x) ++ namesB (cNm (el c x)) x_4) ++ [(32 : UInt8)]).length + (sAt (cNm (el c x)) x_4).length < (9223372036854775808 : Nat) ∧
((-9223372036854775808 : Int) ≤ (↑x_4 : Int) + (1 : Int) ∧ (↑x_4 : Int) + (1 : Int) < (9223372036854775808 : Int)) ∧ ∃ (y : Nat), y.le (cNm (el c x)).len ∧ (cNm (el c x)).len - y < (cNm (el c x)).len
- x_4 ∧ ((↑x_4 : Int) + (1 : Int) = (↑y : Int) ∧ fmtL c x ++ (head3 (el c x) ++ namesB (cNm (el c x)) x_4) ++ [(32 : UInt8)] ++ sAt (cNm (el c x)) x_4 = fmtL c x ++ (head3 (el c x) ++ namesB (cNm (el
c x)) y) ∧ True) ∧ True) ∧ (((↑x_4 : Int) < (↑(cNm (el c x)).len : Int) → False) → (fmtL c x ++ (head3 (el c x) ++ namesB (cNm (el c x)) x_4)).length + [(10 : UInt8)].length < (9223372036854775808 :
Nat) ∧ ((-9223372036854775808 : Int) ≤ (↑x : Int) + (1 : Int) ∧ (↑x : Int) + (1 : Int) < (9223372036854775808 : Int)) ∧ ∃ (y : Nat), y.le c.len ∧ c.len - y < c.len - x ∧ ((↑x : Int) + (1 : Int) = (↑y
: Int) ∧ fmtL c x ++ (head3 (el c x) ++ namesB (cNm (el c x)) x_4) ++ [(10 : UInt8)] = fmtL c y ∧ True) ∧ True)) ∧ (((↑x : Int) < (↑c.len : Int) → False) → fmtL c x = fmtL c c.len)) := by intros; kernel_rfl
theorem vc15 : ∀ (c : D), symFun (ctxF cf3) (4 : Nat) (15 : FuncId) [V.dat (22 : TypeId) c] (V.prop True) = (smallC c ∧ smallC c ∧ ((badZ c).snd = (0 : Int) → rightD c ∧ smallC (copyD c) ∧ (textD
(copyD c) = fmtL c c.len → smallC (copyD c) ∧ (sameAll (copyD c) c ↔ True)) ∧ ((textD (copyD c) = fmtL c c.len → False) → (false = true ↔ True))) ∧ (((badZ c).snd = (0 : Int) → False) → smallC (copyD
c) ∧ (textD (copyD c) = [] → smallC (copyD c) ∧ (sameAll (copyD c) c ↔ True)) ∧ ((textD (copyD c) = [] → False) → (false = true ↔ True)))) := by intros; kernel_rfl
theorem vc6 : ∀ (c : D), symFun (ctxF cf4) (4 : Nat) (6 : FuncId) [V.dat (22 : TypeId) c] (V.prop True) = (True ∧ (((fewD c → False) → False) → fewD c ∧ (True → (true = true ↔ True)) ∧ ((True → False)
→ (false = true ↔ True))) ∧ ((fewD c → False) → (true = true ↔ True))) := by intros; kernel_rfl
theorem line_eq (x : D) : bodyB x ++ [10] = lineB x := by
 classical
 unfold bodyB wordsL lineB head3 head2 head1 numB lastB amongB
 have tl : List.take (cNm x).len (cNm x).asList = (cNm x).asList := List.take_of_length_le (Nat.le_refl _)
 rw [names_eq (cNm x) (cNm x).len (Nat.le_refl _), tl]
 by_cases ha : cA x = []
 ·rw [if_pos ha, if_pos ha]
  simp only [List.nil_append, List.cons_append]
  rw [join_cons, joinT_app, joinT_app, joinT_if, joinT_if]
  have e1 : ∀ w, joinT [32] [.str w] = spB ++ w := fun w => by simp [joinT, spB, D.asStr]
  have e0 : joinT [32] [] = [] := rfl
  rw [e1, e1, e0]
  by_cases hl : cL x <;> simp only [hl, if_true, if_false, List.append_assoc] <;> rfl
 ·rw [if_neg ha, if_neg ha]
  simp only [List.nil_append, List.cons_append]
  rw [join_cons]
  have e1 : ∀ w, joinT [32] [.str w] = spB ++ w := fun w => by simp [joinT, spB, D.asStr]
  have e2 : ∀ w R, joinT [32] (.str w :: R) = spB ++ w ++ joinT [32] R := fun w R => by simp [joinT, spB, D.asStr]
  have e0 : joinT [32] [] = [] := rfl
  rw [e2, e2, joinT_app, joinT_app, joinT_if, joinT_if, e1, e1, e0]
  by_cases hl : cL x <;> simp only [hl, if_true, if_false, List.append_assoc] <;> rfl
theorem word_len (k : Int) (h : 1 ≤ k ∧ k ≤ 10) : 1 ≤ (wordB k).length ∧ (wordB k).length ≤ 6 := by
 have : k = 1 ∨ k = 2 ∨ k = 3 ∨ k = 4 ∨ k = 5 ∨ k = 6 ∨ k = 7 ∨ k = 8 ∨ k = 9 ∨ k = 10 := by omega
 rcases this with rfl | rfl | rfl | rfl | rfl | rfl | rfl | rfl | rfl | rfl <;> exact ⟨by decide, by decide⟩
theorem dec_len (n : Int) : 1 ≤ (decB n).length ∧ (decB n).length ≤ 2 := by unfold decB; split <;> simp
theorem nm_len {nm : D} (h : ¬ badNm nm) (i : Nat) (hi : i < nm.len) : 1 ≤ (sAt nm i).length ∧ (sAt nm i).length ≤ 12 := by
 have : nameP (sAt nm i) := Classical.byContradiction fun hn => h ⟨i, hi, hn⟩
 exact ⟨this.out.1, this.out.2.1⟩
theorem join_ok {k : Int} {a : List UInt8} {la : Prop} {nm : D} {n : Int} (h : rightC k a la nm n) : joinP (.list (wordsL k a la nm n)) [32] := by
 classical
 obtain ⟨hk, _, _, hm⟩ := formed_n h.out.1
 have hm' : nm.asList.length ≤ 16 := hm
 refine ⟨?_, by decide, fun i hi => ?_⟩
 ·show (wordsL k a la nm n).length ≤ 100
  unfold wordsL
  simp only [List.length_append]
  have q1 : (if a = [] then ([] : List D) else [.str amB, .str a]).length ≤ 2 := by split <;> simp
  have q2 : (if hasN k then [D.str (decB n)] else []).length ≤ 1 := by split <;> simp
  have q3 : (if hasL k then [D.str (if la then lastW else firstW)] else []).length ≤ 1 := by split <;> simp
  simp only [List.length_cons, List.length_nil] at q1 q2 q3 ⊢
  omega
 ·have hi : i < (wordsL k a la nm n).length := hi
  have hall : ∀ d ∈ wordsL k a la nm n, 1 ≤ d.asStr.length ∧ d.asStr.length ≤ 100 := fun d hd => by
   unfold wordsL at hd
   simp only [List.mem_append] at hd
   rcases hd with (((hd | hd) | hd) | hd) | hd
   ·split at hd
    ·cases hd
    ·rename_i ha
     rcases List.mem_cons.1 hd with rfl | hd
     ·exact ⟨by decide, by decide⟩
     ·rw [List.mem_singleton] at hd; subst hd
      have := (h.out.2.2.resolve_left ha).out
      exact ⟨this.1, Nat.le_trans this.2.1 (by decide)⟩
   ·rw [List.mem_singleton] at hd; subst hd
    have := word_len k hk
    exact ⟨this.1, Nat.le_trans this.2 (by decide)⟩
   ·split at hd
    ·rw [List.mem_singleton] at hd; subst hd
     have := dec_len n
     exact ⟨this.1, Nat.le_trans this.2 (by decide)⟩
    ·cases hd
   ·split at hd
    ·rw [List.mem_singleton] at hd; subst hd
     show 1 ≤ (if la then lastW else firstW).length ∧ (if la then lastW else firstW).length ≤ 100
     split <;> exact ⟨by decide, by decide⟩
    ·cases hd
   ·obtain ⟨j, hj, rfl⟩ := List.mem_iff_getElem.1 hd
    have := nm_len h.out.2.1 j hj
    have e : sAt nm j = (nm.asList[j]).asStr := by unfold sAt nthD; rw [List.getElem?_eq_getElem hj]; rfl
    rw [e] at this
    exact ⟨this.1, Nat.le_trans this.2 (by decide)⟩
  have e : sAt (.list (wordsL k a la nm n)) i = ((wordsL k a la nm n)[i]).asStr := by
   show (nthD (wordsL k a la nm n) i).asStr = _
   unfold nthD; rw [List.getElem?_eq_getElem hi]; rfl
  rw [e]
  exact hall _ (List.getElem_mem hi)
theorem scan_ok (l : D) : ∀ (f i : Nat), (scanZ l f i).2 = 0 → ∀ k, i ≤ k → k < i + f → err1 l k = 0
 | 0, i, _, k, h1, h2 => by omega
 | f + 1, i, h, k, h1, h2 => by
  unfold scanZ at h
  split at h
  ·rename_i hn; exact absurd h hn
  ·rename_i hn
   have hz : err1 l i = 0 := Classical.byContradiction hn
   by_cases e : k = i
   ·subst e; exact hz
   ·exact scan_ok l f (i + 1) h k (by omega) (by omega)
theorem right_err {c : D} {i : Nat} {k : Int} {a : List UInt8} {la : Prop} {nm : D} {n : Int} (h : errC c i k a la nm n = 0) : rightC k a la nm n := by
 unfold errC at h
 split at h
 ·cases h
 ·rename_i h1
  split at h
  ·cases h
  ·rename_i h2
   refine ⟨Classical.byContradiction h1, fun hb => h2 (.inl hb), ?_⟩
   by_cases ha : a = []
   ·exact .inl ha
   ·exact .inr (Classical.byContradiction fun hn => h2 (.inr ⟨ha, hn⟩))
theorem right_bad {c : D} (h : (badZ c).2 = 0) : ∀ i, i < c.len → rightC (cK (el c i)) (cA (el c i)) (cL (el c i)) (cNm (el c i)) (cN (el c i)) := fun i hi => by
 unfold badZ at h
 split at h
 ·cases h
 ·exact right_err (scan_ok c c.len 0 h i (Nat.zero_le _) (by omega))
theorem names_len {nm : D} (h : ¬ badNm nm) : ∀ n, n ≤ nm.len → (namesB nm n).length ≤ 13 * n
 | 0, _ => Nat.le_refl _
 | n + 1, hn => by
  have h1 := names_len h n (by omega)
  have h2 := nm_len h n (by omega)
  unfold namesB
  rw [List.length_append, List.length_append]
  have : spB.length = 1 := rfl
  omega
theorem among_len {a : List UInt8} (h : a = [] ∨ nameP a) : (amongB a).length ≤ 19 := by
 unfold amongB
 split
 ·simp
 ·rename_i ha
  have := (h.resolve_left ha).out.2.1
  simp only [List.length_append, show amB.length = 5 from rfl, show spB.length = 1 from rfl]; omega
theorem num_len (k n : Int) : (numB k n).length ≤ 3 := by
 unfold numB
 have := dec_len n
 split
 ·simp only [List.length_append, show spB.length = 1 from rfl]; omega
 ·simp
theorem last_len (k : Int) (la : Prop) : (lastB k la).length ≤ 6 := by
 unfold lastB
 split
 ·split <;> decide
 ·simp
theorem head_len {x : D} (h : rightC (cK x) (cA x) (cL x) (cNm x) (cN x)) : (amongB (cA x)).length ≤ 19 ∧ (wordB (cK x)).length ≤ 6 ∧ (head1 x).length ≤ 25 ∧ 1 ≤ (head1 x).length ∧ (head2 x).length ≤ 28 ∧ (head3 x).length ≤ 34 := by
 have h1 := among_len h.out.2.2
 have h2 := word_len (cK x) (formed_n h.out.1).1
 have h3 := num_len (cK x) (cN x)
 have h4 := last_len (cK x) (cL x)
 have e1 : (head1 x).length = (amongB (cA x)).length + (wordB (cK x)).length := List.length_append
 have e2 : (head2 x).length = (head1 x).length + (numB (cK x) (cN x)).length := List.length_append
 have e3 : (head3 x).length = (head2 x).length + (lastB (cK x) (cL x)).length := List.length_append
 omega
theorem line_len {x : D} (h : rightC (cK x) (cA x) (cL x) (cNm x) (cN x)) : 1 ≤ (lineB x).length ∧ (lineB x).length ≤ 300 := by
 have h1 := head_len h
 have h2 := names_len h.out.2.1 (cNm x).len (Nat.le_refl _)
 have h3 := (formed_n h.out.1).2.2.2
 unfold lineB
 rw [List.length_append, List.length_append]
 have : nlB.length = 1 := rfl
 omega
theorem fmt_len {c : D} (h : ∀ i, i < c.len → rightC (cK (el c i)) (cA (el c i)) (cL (el c i)) (cNm (el c i)) (cN (el c i))) : ∀ n, n ≤ c.len → (fmtL c n).length ≤ 300 * n ∧ (0 < n → 1 ≤ (fmtL c n).length)
 | 0, _ => ⟨Nat.le_refl _, fun h => absurd h (Nat.lt_irrefl 0)⟩
 | n + 1, hn => by
  have h1 := fmt_len h n (by omega)
  have h2 := line_len (h n (by omega))
  unfold fmtL
  rw [List.length_append]
  exact ⟨by omega, fun _ => by omega⟩
theorem s30 (c : D) (h : smallC c) : symFun (ctxF cf2) 6 30 [.dat 22 c] (.str (textD c)) := by
 have hlen := h.out.1
 rw [vc30]
 refine ⟨h, fun hb => ?_, fun hb => ?_⟩
 ·unfold textD; rw [if_neg hb]
 have hb : (badZ c).2 = 0 := Classical.byContradiction hb
 have hr := right_bad hb
 have hF := fmt_len hr
 have ht : textD c = fmtL c c.len := by unfold textD; rw [if_pos hb]
 have hbl : ∀ x, (bodyB x).length + 1 = (lineB x).length := fun x => by rw [← line_eq x, List.length_append]; rfl
 refine ⟨.inl ⟨0, rfl, ⟨rfl, trivial⟩, ⟨trivial, trivial, trivial⟩, trivial⟩, fun x hx => ?_, fun x ⟨hx0, hx⟩ => ?_⟩
 ·subst hx
  refine ⟨by unfold LIM; omega, fun hlt => ?_, fun hge => ?_⟩
  ·have hr0 := hr 0 (by omega)
   have b := line_len hr0
   have b2 := hbl (el c 0)
   rw [line_eq]
   have e1 : fmtL c 1 = lineB (el c 0) := by show [] ++ lineB (el c 0) = _; rw [List.nil_append]
   refine ⟨by omega, hlt, hr0, join_ok hr0, ?_, by omega, by omega, ⟨by omega, by omega⟩, .inr ⟨1, ⟨by omega, by omega⟩, by omega, ⟨rfl, trivial⟩, ⟨trivial, ⟨rfl, by rw [e1], trivial⟩, trivial⟩, by rw [e1], trivial⟩⟩
   show (bodyB (el c 0)).length + 1 < 9223372036854775808
   omega
  ·rw [ht, show c.len = 0 by have : ¬ (0 : Int) < c.len := hge; omega]; rfl
 ·have hf := hF x hx
  refine ⟨by unfold LIM; omega, fun hlt => ?_, fun hge => ?_⟩
  ·have hr0 := hr x (by omega)
   have b := line_len hr0
   have b2 := hbl (el c x)
   rw [line_eq]
   have e1 : fmtL c (x + 1) = fmtL c x ++ lineB (el c x) := rfl
   refine ⟨by omega, hlt, hr0, join_ok hr0, ?_, by omega, by rw [strD_len]; omega, by omega, ⟨by omega, by omega⟩, .inr ⟨x + 1, ⟨by omega, by omega⟩, by omega, ⟨by omega, trivial⟩, ⟨trivial, ⟨rfl, by rw [e1, List.length_append], trivial⟩, trivial⟩, by rw [strD_take _ _ rfl, ← strD_app, e1], trivial⟩⟩
   show (bodyB (el c x)).length + 1 < 9223372036854775808
   omega
  ·have hxl : x = c.len := by have : ¬ (x : Int) < c.len := hge; omega
   subst hxl
   have := hf.2 hx0
   refine ⟨fun h => by omega, by omega, by omega, by omega, by rw [strD_len]; omega, by rw [strD_take _ _ rfl]; exact byteL_strD _, by rw [strD_take _ _ rfl, bytesD_strD, ht]⟩
theorem num_yes {k n : Int} (h : hasN k) : numB k n = spB ++ decB n := by unfold numB; rw [if_pos h]
theorem num_no {k n : Int} (h : ¬ hasN k) : numB k n = [] := by unfold numB; rw [if_neg h]
theorem last_no {k : Int} {la : Prop} (h : ¬ hasL k) : lastB k la = [] := by unfold lastB; rw [if_neg h]
theorem s35 (c : D) (h : rightD c) : symFun (ctxF cf2) 4 35 [.dat 22 c] (.str (fmtL c c.len)) := by
 have hlen := h.out.1.out.1
 have hF := fmt_len h.out.2
 rw [vc35]
 refine ⟨⟨0, Nat.zero_le _, ⟨rfl, rfl, trivial⟩, trivial⟩, fun x hx => ?_⟩
 have hx : x ≤ c.len := hx
 refine ⟨by unfold LIM; omega, fun hlt => ?_, fun hge => ?_⟩
 ·have hr := h.out.2 x (by omega)
  have hk := (formed_n hr.out.1).1
  have hn := (formed_n hr.out.1).2
  have hf := hF x hx
  have hh := head_len hr
  have hd := dec_len (cN (el c x))
  have hw : IntKind.i64.wrap (cK (el c x)) = cK (el c x) := wrapI (by omega) (by omega)
  have hA : (cA (el c x)).length ≤ 12 := by
   rcases hr.out.2.2 with h | h
   ·rw [h]; simp
   ·exact h.out.2.1
  have e1 : head1 (el c x) = amongB (cA (el c x)) ++ wordB (cK (el c x)) := rfl
  have e2 : head2 (el c x) = head1 (el c x) ++ numB (cK (el c x)) (cN (el c x)) := rfl
  have e3 : head3 (el c x) = head2 (el c x) ++ lastB (cK (el c x)) (cL (el c x)) := rfl
  rw [hw]
  have l1 : ([32] : List UInt8).length = 1 := rfl
  have l6 : ([97, 109, 111, 110, 103, 32] : List UInt8).length = 6 := rfl
  have l5 : ([32, 108, 97, 115, 116] : List UInt8).length = 5 := rfl
  have l5' : ([32, 102, 105, 114, 115, 116] : List UInt8).length = 6 := rfl
  have l10 : ([10] : List UInt8).length = 1 := rfl
  simp only [List.length_append, l1, l6, l5, l5', l10]
  have l2 : (amongB (cA (el c x))).length ≤ 19 := hh.1
  refine ⟨⟨by omega, hlt, fun ha => ⟨by omega, by omega, hlt, by omega, by omega, (), trivial, ⟨?_, trivial⟩, trivial⟩, fun ha => ⟨(), trivial, ⟨?_, trivial⟩, trivial⟩⟩, fun _ _ => ⟨by omega, hlt, ⟨by omega, by omega⟩, by omega, ⟨by omega, hlt, fun h4 => ⟨by omega, hlt, fun h10 => ⟨by omega, by omega, hlt, ⟨by omega, by omega⟩, by omega, (), trivial, ⟨?_, trivial⟩, trivial⟩, fun h10 => ⟨(), trivial, ⟨?_, trivial⟩, trivial⟩⟩, fun h4 => ⟨by omega, by omega, hlt, ⟨by omega, by omega⟩, by omega, (), trivial, ⟨?_, trivial⟩, trivial⟩⟩, fun _ _ => ⟨⟨by omega, hlt, fun h4 => ⟨by omega, hlt, fun h7 => ⟨by omega, hlt, fun hla => ⟨by omega, (), trivial, ⟨?_, trivial⟩, trivial⟩, fun hla => ⟨by omega, (), trivial, ⟨?_, trivial⟩, trivial⟩⟩, fun h7 => ⟨(), trivial, ⟨?_, trivial⟩, trivial⟩⟩, fun h4 => ⟨(), trivial, ⟨?_, trivial⟩, trivial⟩⟩, fun _ _ => ⟨⟨0, Nat.zero_le _, ⟨rfl, by rw [show namesB (cNm (el c x)) 0 = [] from rfl, List.append_nil], trivial⟩, trivial⟩, fun j hj => ?_⟩⟩⟩⟩
  ·unfold amongB; rw [if_neg ha]; simp only [List.append_assoc]; rfl
  ·have ha : cA (el c x) = [] := Classical.byContradiction ha
   unfold amongB; rw [if_pos ha, List.append_nil]
  ·rw [e2, e1, num_yes (show hasN (cK (el c x)) from .inr h10)]; simp only [List.append_assoc]; rfl
  ·rw [e2, e1, num_no (show ¬ hasN (cK (el c x)) from fun hh => hh.elim h4 h10)]; simp only [List.append_assoc, List.append_nil]
  ·rw [e2, e1, num_yes (show hasN (cK (el c x)) from .inl h4)]; simp only [List.append_assoc]; rfl
  ·rw [e3]; unfold lastB; rw [if_pos (show hasL (cK (el c x)) from ⟨h4, h7⟩), if_pos hla]; simp only [List.append_assoc]; rfl
  ·rw [e3]; unfold lastB; rw [if_pos (show hasL (cK (el c x)) from ⟨h4, h7⟩), if_neg hla]; simp only [List.append_assoc]; rfl
  ·rw [e3, last_no (show ¬ hasL (cK (el c x)) from fun hh => h7 hh.2), List.append_nil]
  ·rw [e3, last_no (show ¬ hasL (cK (el c x)) from fun hh => h4 hh.1), List.append_nil]
  ·have hj : j ≤ (cNm (el c x)).len := hj
   have hnl := names_len hr.out.2.1 j hj
   have hm := (formed_n hr.out.1).2.2.2
   refine ⟨by unfold LIM; omega, by omega, hlt, fun hjl => ?_, fun hje => ?_⟩
   ·have hs := nm_len hr.out.2.1 j (by omega)
    refine ⟨by omega, by omega, hlt, by omega, hjl, by omega, ⟨by omega, by omega⟩, j + 1, show j + 1 ≤ (cNm (el c x)).len by omega, by omega, ⟨by omega, ?_, trivial⟩, trivial⟩
    show _ = fmtL c x ++ (head3 (el c x) ++ (namesB (cNm (el c x)) j ++ (spB ++ sAt (cNm (el c x)) j)))
    simp only [List.append_assoc]; rfl
   ·have hjl : j = (cNm (el c x)).len := by have : ¬ (j : Int) < (cNm (el c x)).len := hje; omega
    subst hjl
    refine ⟨by omega, ⟨by omega, by omega⟩, x + 1, show x + 1 ≤ c.len by omega, by omega, ⟨by omega, ?_, trivial⟩, trivial⟩
    show _ = fmtL c x ++ (head3 (el c x) ++ namesB (cNm (el c x)) (cNm (el c x)).len ++ nlB)
    simp only [List.append_assoc]; rfl
 ·rw [show x = c.len by have : ¬ (x : Int) < c.len := hge; omega]
theorem c_among (l : D) (x : Nat) : cA (el (copyD l) x) = cA (el l x) := by rcases copy_el l x with ⟨_, h⟩ | ⟨h, h'⟩ <;> rw [h] <;> first | rfl | rw [h']
theorem c_last (l : D) (x : Nat) : cL (el (copyD l) x) = cL (el l x) := by rcases copy_el l x with ⟨_, h⟩ | ⟨h, h'⟩ <;> rw [h] <;> first | rfl | rw [h']
theorem c_num (l : D) (x : Nat) : cN (el (copyD l) x) = cN (el l x) := by rcases copy_el l x with ⟨_, h⟩ | ⟨h, h'⟩ <;> rw [h] <;> first | rfl | rw [h']
theorem names_list (nm : D) : ∀ n, namesB (.list nm.asList) n = namesB nm n
 | 0 => rfl
 | n + 1 => by unfold namesB; rw [names_list nm n]; rfl
theorem c_names (l : D) (x n : Nat) : namesB (cNm (el (copyD l) x)) n = namesB (cNm (el l x)) n := by
 rcases copy_el l x with ⟨_, h⟩ | ⟨h, h'⟩
 ·rw [h]; exact names_list _ n
 ·rw [h, h']
theorem c_line (l : D) (x : Nat) : lineB (el (copyD l) x) = lineB (el l x) := by
 unfold lineB head3 head2 head1
 rw [c_kind, c_among, c_last, c_num, c_len, c_names]
theorem c_fmt (l : D) : ∀ n, fmtL (copyD l) n = fmtL l n
 | 0 => rfl
 | n + 1 => by unfold fmtL; rw [c_fmt l n, c_line]
theorem c_text (l : D) : textD (copyD l) = textD l := by unfold textD; rw [c_bad, copy_dlen, c_fmt]
theorem s15 (c : D) (hf : fewD c) : symFun (ctxF cf3) 4 15 [.dat 22 c] (.prop True) := by
 have hs := few_small hf
 rw [vc15, c_text]
 refine ⟨hs, hs, fun hb => ⟨⟨hs, right_bad hb⟩, c_small hs, fun _ => ⟨c_small hs, fun _ => trivial, fun _ => c_same c⟩, fun hn => absurd (by unfold textD; rw [if_pos hb]) hn⟩, fun hb => ⟨c_small hs, fun _ => ⟨c_small hs, fun _ => trivial, fun _ => c_same c⟩, fun hn => absurd (by unfold textD; rw [if_neg hb]) hn⟩⟩
theorem sl6 (c : D) : symFun (ctxF cf4) 4 6 [.dat 22 c] (.prop True) := by
 rw [vc6]
 refine ⟨trivial, fun h => ⟨Classical.byContradiction h, fun _ => by simp, fun h => absurd trivial h⟩, fun _ => by simp⟩
end Go.Ev

end
