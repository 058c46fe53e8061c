/-
  Part of the engine that the claim is proved with: it states nothing of the document by itself.
-/
import Derived.Test.YtpcokmpipjcndaaGreatDoorCoreG25

section
open Go.Proofs
namespace Go.Ev
set_option maxRecDepth 100000
set_option maxHeartbeats 4000000
theorem vc5 : ∀ (s : List UInt8), symFun (ctx hp4 hpAnn) (4 : Nat) (5 : FuncId) [V.str s] (V.prop True) = ((s.length ≤ (4000 : Nat) ∨ (65536 : Nat) < s.length) ∧ (s.length ≤ (4000 : Nat) ∨ (65536 :
Nat) < s.length) ∧ smallD (parD s) ∧ (sameAll (parD s) (parD s) → (parL s = parL s → (parE s = parE s ↔ True)) ∧ ((parL s = parL s → False) → (false = true ↔ True))) ∧ ((sameAll (parD s) (parD s) →
False) → (false = true ↔ True))) := by intros; kernel_rfl
theorem vc3 : ∀ (s : List UInt8), symFun (ctx hp5 hpAnn) (4 : Nat) (3 : FuncId) [V.str s] (V.prop True) = (((4000 : Int) < (↑s.length : Int) → (((↑s.length : Int) ≤ (65536 : Int) → False) → (s.length
≤ (4000 : Nat) ∨ (65536 : Nat) < s.length) ∧ (True → (true = true ↔ True)) ∧ ((True → False) → (false = true ↔ True))) ∧ ((↑s.length : Int) ≤ (65536 : Int) → (true = true ↔ True))) ∧ (((4000 : Int) <
(↑s.length : Int) → False) → (s.length ≤ (4000 : Nat) ∨ (65536 : Nat) < s.length) ∧ (True → (true = true ↔ True)) ∧ ((True → False) → (false = true ↔ True)))) := by intros; kernel_rfl
theorem err16 (s : List UInt8) : errK s 16 ≠ 0 := by
 unfold errK
 split
 ·decide
 ·split
  ·assumption
  ·split
   ·decide
   ·rw [if_pos rfl]; decide
theorem scan_zero (s : List UInt8) : ∀ f i, (scanP s f i).2 = 0 → ∀ j, i ≤ j → j < i + f → errK s j = 0
 | 0, i, _, j, h1, h2 => by omega
 | f + 1, i, h, j, h1, h2 => by
  unfold scanP at h
  by_cases e : errK s i = 0
  ·rw [if_neg fun h => h e] at h
   by_cases ej : j = i
   ·subst ej; exact e
   ·exact scan_zero s f (i + 1) h j (by omega) (by omega)
  ·rw [if_pos e] at h; exact absurd h e
theorem small_par (s : List UInt8) : smallD (parD s) := by
 unfold parD
 split
 ·exact ⟨Nat.zero_le _, fun i hi => absurd hi (Nat.not_lt_zero _)⟩
 ·rename_i h1
  split
  ·exact ⟨Nat.zero_le _, fun i hi => absurd hi (Nat.not_lt_zero _)⟩
  ·rename_i h2
   have h2 : (scanP s (nLines s) 0).2 = 0 := Classical.not_not.1 h2
   have hz := scan_zero s (nLines s) 0 h2
   have hn : nLines s ≤ 16 := by
    rcases Nat.lt_or_ge 16 (nLines s) with h | h
    ·exact absurd (hz 16 (by omega) (by omega)) (err16 s)
    ·exact h
   have hl : (listD (tabsL s (nLines s))).len = nLines s := by rw [listD_len, tabs_len]
   refine ⟨by rw [hl]; omega, fun i hi => ?_⟩
   rw [hl] at hi
   unfold el; rw [listD_as, tabs_nth s hi]
   show (restD (lnAt s i)).len ≤ 100000
   have := rest_len True (lnAt s i) (Nat.le_trans (pAt_len 10 s i) (by omega))
   rw [pD_yes _ trivial] at this; exact this
theorem same_refl (d : D) : sameAll d d := ⟨rfl, fun i _ => ⟨rfl, rfl, rfl, rfl, rfl, rfl, rfl, fun j _ => rfl⟩⟩
theorem s5 (s : List UInt8) (hs : s.length ≤ 4000 ∨ 65536 < s.length) : symFun (ctx hp4 hpAnn) 4 5 [.str s] (.prop True) := by
 rw [vc5]
 exact ⟨hs, hs, small_par s, fun _ => ⟨fun _ => ⟨fun _ => trivial, fun _ => rfl⟩, fun h => absurd rfl h⟩, fun h => absurd (same_refl _) h⟩
theorem sl3 (s : List UInt8) : symFun (ctx hp5 hpAnn) 4 3 [.str s] (.prop True) := by
 rw [vc3]
 exact ⟨fun h1 => ⟨fun h2 => ⟨.inr (by have h2 : ¬ (s.length : Int) ≤ 65536 := h2; omega), fun _ => ⟨fun _ => trivial, fun _ => rfl⟩, fun h => absurd trivial h⟩, fun _ => ⟨fun _ => trivial, fun _ => rfl⟩⟩, fun h1 => ⟨.inl (by have h1 : ¬ (4000 : Int) < s.length := h1; omega), fun _ => ⟨fun _ => trivial, fun _ => rfl⟩, fun h => absurd trivial h⟩⟩
end Go.Ev

end

section
open Go.Proofs
namespace Go.Ev
set_option maxRecDepth 100000
set_option maxHeartbeats 4000000
theorem vc40 : ∀ (s : List UInt8), symFun (ctx hp1 hpAnn) (4 : Nat) (40 : FuncId) [V.str s] (V.tup [rowV (headP s) s, V.prop (lineP s)]) = (s.length ≤ (100000 : Nat) ∧ (((okW s → False) → False) →
(((↑(pD (okW s) (D.list (strsD (piecesOf (32 : UInt8) s)))).len : Int) < (7 : Int) → False) → (0 : Int) ≤ (0 : Int) ∧ (0 : Int) < (↑(pD (okW s) (D.list (strsD (piecesOf (32 : UInt8) s)))).len : Int) ∧
(((el (pD (okW s) (D.list (strsD (piecesOf (32 : UInt8) s)))) (Int.toNat (0 : Int))).asStr = [(116 : UInt8), (97 : UInt8), (98 : UInt8), (108 : UInt8), (101 : UInt8)] → False) → ([] = pS (headP s)
(wrd s (1 : Nat)) ∧ (0 : Int) = pI (headP s) (shapeZ (wrd s (2 : Nat))) ∧ (0 : Int) = pI (headP s) (nAt s (0 : Nat)) ∧ (0 : Int) = pI (headP s) (nAt s (1 : Nat)) ∧ D.nil = pD (headP s) (restD s) ∧ (0
: Int) = pI (headP s) (nAt s (2 : Nat)) ∧ (0 : Int) = pI (headP s) (nAt s (3 : Nat)) ∧ True) ∧ (false = true ↔ lineP s) ∧ True) ∧ ((((el (pD (okW s) (D.list (strsD (piecesOf (32 : UInt8) s))))
(Int.toNat (0 : Int))).asStr = [(116 : UInt8), (97 : UInt8), (98 : UInt8), (108 : UInt8), (101 : UInt8)] → False) → False) → (0 : Int) ≤ (1 : Int) ∧ (1 : Int) < (↑(pD (okW s) (D.list (strsD (piecesOf
(32 : UInt8) s)))).len : Int) ∧ (∃ (x : Nat), ((1 : Nat) ≤ x ∧ x ≤ (5 : Nat)) ∧ ((1 : Int) = (↑x : Int) ∧ True) ∧ ((el (pD (okW s) (D.list (strsD (piecesOf (32 : UInt8) s)))) (Int.toNat (1 :
Int))).asStr = wrd s (1 : Nat) ∧ (0 : Int) = shpN (wrd s (2 : Nat)) x ∧ (0 : Int) = (0 : Int) ∧ (0 : Int) = (0 : Int) ∧ True ∧ (0 : Int) = (0 : Int) ∧ (0 : Int) = (0 : Int) ∧ True) ∧ True) ∧ ∀ (x :
Nat), (1 : Nat) ≤ x ∧ x ≤ (5 : Nat) → (5 : Nat) - x < LIM ∧ ((↑x : Int) ≤ (4 : Int) → True ∧ (0 : Int) ≤ (2 : Int) ∧ (2 : Int) < (↑(pD (okW s) (D.list (strsD (piecesOf (32 : UInt8) s)))).len : Int) ∧
(shapeW (IntKind.u8.wrap (↑x : Int)) = (el (pD (okW s) (D.list (strsD (piecesOf (32 : UInt8) s)))) (Int.toNat (2 : Int))).asStr → ((-9223372036854775808 : Int) ≤ (↑x : Int) + (1 : Int) ∧ (↑x : Int) +
(1 : Int) < (9223372036854775808 : Int)) ∧ ∃ (y : Nat), ((1 : Nat) ≤ y ∧ y ≤ (5 : Nat)) ∧ (5 : Nat) - y < (5 : Nat) - x ∧ ((↑x : Int) + (1 : Int) = (↑y : Int) ∧ True) ∧ (wrd s (1 : Nat) = wrd s (1 :
Nat) ∧ IntKind.u8.wrap (↑x : Int) = shpN (wrd s (2 : Nat)) y ∧ (0 : Int) = (0 : Int) ∧ (0 : Int) = (0 : Int) ∧ True ∧ (0 : Int) = (0 : Int) ∧ (0 : Int) = (0 : Int) ∧ True) ∧ True) ∧ ((shapeW
(IntKind.u8.wrap (↑x : Int)) = (el (pD (okW s) (D.list (strsD (piecesOf (32 : UInt8) s)))) (Int.toNat (2 : Int))).asStr → False) → ((-9223372036854775808 : Int) ≤ (↑x : Int) + (1 : Int) ∧ (↑x : Int) +
(1 : Int) < (9223372036854775808 : Int)) ∧ ∃ (y : Nat), ((1 : Nat) ≤ y ∧ y ≤ (5 : Nat)) ∧ (5 : Nat) - y < (5 : Nat) - x ∧ ((↑x : Int) + (1 : Int) = (↑y : Int) ∧ True) ∧ (wrd s (1 : Nat) = wrd s (1 :
Nat) ∧ shpN (wrd s (2 : Nat)) x = shpN (wrd s (2 : Nat)) y ∧ (0 : Int) = (0 : Int) ∧ (0 : Int) = (0 : Int) ∧ True ∧ (0 : Int) = (0 : Int) ∧ (0 : Int) = (0 : Int) ∧ True) ∧ True)) ∧ (((↑x : Int) ≤ (4 :
Int) → False) → ((∃ (x : Nat × Prop), ((x.2 ↔ ∀ (j : Nat), (3 : Nat) ≤ j → j < (3 : Nat) + x.fst → numP (wrd s j)) ∧ (3 : Nat) + x.fst ≤ (piecesOf (32 : UInt8) s).length ∧ x.fst = (0 : Nat)) ∧ ((3 :
Int) = (3 : Int) ∧ (okW s ↔ x.2) ∧ True ∧ True) ∧ True) ∨ ∃ (x : Nat × Prop), ((x.2 ↔ ∀ (j : Nat), (3 : Nat) ≤ j → j < (3 : Nat) + x.fst → numP (wrd s j)) ∧ (3 : Nat) + x.fst ≤ (piecesOf (32 : UInt8)
s).length ∧ Nat.le (1 : Nat) x.fst) ∧ ((3 : Int) = (↑((3 : Nat) + x.fst) : Int) ∧ (okW s ↔ x.2) ∧ False ∧ True) ∧ False ∧ True) ∧ (∀ (x : Nat × Prop), (x.2 ↔ ∀ (j : Nat), (3 : Nat) ≤ j → j < (3 : Nat)
+ x.fst → numP (wrd s j)) ∧ (3 : Nat) + x.fst ≤ (piecesOf (32 : UInt8) s).length ∧ x.fst = (0 : Nat) → (piecesOf (32 : UInt8) s).length - x.fst < LIM ∧ ((3 : Int) < (↑(pD (okW s) (D.list (strsD
(piecesOf (32 : UInt8) s)))).len : Int) → (0 : Int) ≤ (3 : Int) ∧ (3 : Int) < (↑(pD (okW s) (D.list (strsD (piecesOf (32 : UInt8) s)))).len : Int) ∧ True ∧ (x.2 → (0 : Nat) + (1 : Nat) ≤ [D.int (numZ
(el (pD (okW s) (D.list (strsD (piecesOf (32 : UInt8) s)))) (Int.toNat (3 : Int))).asStr)].length ∧ (1 : Nat) ≤ (16777216 : Nat) ∧ ((-9223372036854775808 : Int) ≤ (3 : Int) + (1 : Int) ∧ (3 : Int) +
(1 : Int) < (9223372036854775808 : Int)) ∧ ((∃ (y : Nat × Prop), ((y.2 ↔ ∀ (j : Nat), (3 : Nat) ≤ j → j < (3 : Nat) + y.fst → numP (wrd s j)) ∧ (3 : Nat) + y.fst ≤ (piecesOf (32 : UInt8) s).length ∧
y.fst = (0 : Nat)) ∧ (piecesOf (32 : UInt8) s).length - y.fst < (piecesOf (32 : UInt8) s).length - x.fst ∧ ((3 : Int) + (1 : Int) = (3 : Int) ∧ (numP (el (pD (okW s) (D.list (strsD (piecesOf (32 :
UInt8) s)))) (Int.toNat (3 : Int))).asStr ↔ y.2) ∧ False ∧ True) ∧ True) ∨ ∃ (y : Nat × Prop), ((y.2 ↔ ∀ (j : Nat), (3 : Nat) ≤ j → j < (3 : Nat) + y.fst → numP (wrd s j)) ∧ (3 : Nat) + y.fst ≤
(piecesOf (32 : UInt8) s).length ∧ Nat.le (1 : Nat) y.fst) ∧ (piecesOf (32 : UInt8) s).length - y.fst < (piecesOf (32 : UInt8) s).length - x.fst ∧ ((3 : Int) + (1 : Int) = (↑((3 : Nat) + y.fst) : Int)
∧ (numP (el (pD (okW s) (D.list (strsD (piecesOf (32 : UInt8) s)))) (Int.toNat (3 : Int))).asStr ↔ y.2) ∧ ((0 : Nat) = (0 : Nat) ∧ (1 : Nat) = y.fst ∧ True) ∧ True) ∧ List.take (1 : Nat) [D.int (numZ
(el (pD (okW s) (D.list (strsD (piecesOf (32 : UInt8) s)))) (Int.toNat (3 : Int))).asStr)] = List.take y.fst (numsL s) ∧ True)) ∧ ((x.2 → False) → (0 : Nat) + (1 : Nat) ≤ [D.int (numZ (el (pD (okW s)
(D.list (strsD (piecesOf (32 : UInt8) s)))) (Int.toNat (3 : Int))).asStr)].length ∧ (1 : Nat) ≤ (16777216 : Nat) ∧ ((-9223372036854775808 : Int) ≤ (3 : Int) + (1 : Int) ∧ (3 : Int) + (1 : Int) <
(9223372036854775808 : Int)) ∧ ((∃ (y : Nat × Prop), ((y.2 ↔ ∀ (j : Nat), (3 : Nat) ≤ j → j < (3 : Nat) + y.fst → numP (wrd s j)) ∧ (3 : Nat) + y.fst ≤ (piecesOf (32 : UInt8) s).length ∧ y.fst = (0 :
Nat)) ∧ (piecesOf (32 : UInt8) s).length - y.fst < (piecesOf (32 : UInt8) s).length - x.fst ∧ ((3 : Int) + (1 : Int) = (3 : Int) ∧ (false = true ↔ y.2) ∧ False ∧ True) ∧ True) ∨ ∃ (y : Nat × Prop),
((y.2 ↔ ∀ (j : Nat), (3 : Nat) ≤ j → j < (3 : Nat) + y.fst → numP (wrd s j)) ∧ (3 : Nat) + y.fst ≤ (piecesOf (32 : UInt8) s).length ∧ Nat.le (1 : Nat) y.fst) ∧ (piecesOf (32 : UInt8) s).length - y.fst
< (piecesOf (32 : UInt8) s).length - x.fst ∧ ((3 : Int) + (1 : Int) = (↑((3 : Nat) + y.fst) : Int) ∧ (false = true ↔ y.2) ∧ ((0 : Nat) = (0 : Nat) ∧ (1 : Nat) = y.fst ∧ True) ∧ True) ∧ List.take (1 :
Nat) [D.int (numZ (el (pD (okW s) (D.list (strsD (piecesOf (32 : UInt8) s)))) (Int.toNat (3 : Int))).asStr)] = List.take y.fst (numsL s) ∧ True))) ∧ (((3 : Int) < (↑(pD (okW s) (D.list (strsD
(piecesOf (32 : UInt8) s)))).len : Int) → False) → False)) ∧ ∀ (x_1 : Nat × Prop), (x_1.2 ↔ ∀ (j : Nat), (3 : Nat) ≤ j → j < (3 : Nat) + x_1.fst → numP (wrd s j)) ∧ (3 : Nat) + x_1.fst ≤ (piecesOf (32
: UInt8) s).length ∧ Nat.le (1 : Nat) x_1.fst → (piecesOf (32 : UInt8) s).length - x_1.fst < LIM ∧ ((↑((3 : Nat) + x_1.fst) : Int) < (↑(pD (okW s) (D.list (strsD (piecesOf (32 : UInt8) s)))).len :
Int) → (0 : Int) ≤ (↑((3 : Nat) + x_1.fst) : Int) ∧ (↑((3 : Nat) + x_1.fst) : Int) < (↑(pD (okW s) (D.list (strsD (piecesOf (32 : UInt8) s)))).len : Int) ∧ True ∧ (x_1.2 → (0 : Nat) + (1 : Nat) ≤
[D.int (numZ (el (pD (okW s) (D.list (strsD (piecesOf (32 : UInt8) s)))) ((3 : Nat) + x_1.fst)).asStr)].length ∧ (0 : Nat) + x_1.fst ≤ (List.take x_1.fst (numsL s)).length ∧ x_1.fst + (1 : Nat) ≤
(16777216 : Nat) ∧ ((-9223372036854775808 : Int) ≤ (↑((3 : Nat) + x_1.fst) : Int) + (1 : Int) ∧ (↑((3 : Nat) + x_1.fst) : Int) + (1 : Int) < (9223372036854775808 : Int)) ∧ ((∃ (y : Nat × Prop), ((y.2
↔ ∀ (j : Nat), (3 : Nat) ≤ j → j < (3 : Nat) + y.fst → numP (wrd s j)) ∧ (3 : Nat) + y.fst ≤ (piecesOf (32 : UInt8) s).length ∧ y.fst = (0 : Nat)) ∧ (piecesOf (32 : UInt8) s).length - y.fst <
(piecesOf (32 : UInt8) s).length - x_1.fst ∧ ((↑((3 : Nat) + x_1.fst) : Int) + (1 : Int) = (3 : Int) ∧ (numP (el (pD (okW s) (D.list (strsD (piecesOf (32 : UInt8) s)))) ((3 : Nat) + x_1.fst)).asStr ↔
y.2) ∧ False ∧ True) ∧ True) ∨ ∃ (y : Nat × Prop), ((y.2 ↔ ∀ (j : Nat), (3 : Nat) ≤ j → j < (3 : Nat) + y.fst → numP (wrd s j)) ∧ (3 : Nat) + y.fst ≤ (piecesOf (32 : UInt8) s).length ∧ Nat.le (1 :
Nat) y.fst) ∧ (piecesOf (32 : UInt8) s).length - y.fst < (piecesOf (32 : UInt8) s).length - x_1.fst ∧ ((↑((3 : Nat) + x_1.fst) : Int) + (1 : Int) = (↑((3 : Nat) + y.fst) : Int) ∧ (numP (el (pD (okW s)
(D.list (strsD (piecesOf (32 : UInt8) s)))) ((3 : Nat) + x_1.fst)).asStr ↔ y.2) ∧ ((0 : Nat) = (0 : Nat) ∧ x_1.fst + (1 : Nat) = y.fst ∧ True) ∧ True) ∧ List.take x_1.fst (List.take x_1.fst (numsL s))
++ List.take (1 : Nat) [D.int (numZ (el (pD (okW s) (D.list (strsD (piecesOf (32 : UInt8) s)))) ((3 : Nat) + x_1.fst)).asStr)] = List.take y.fst (numsL s) ∧ True)) ∧ ((x_1.2 → False) → (0 : Nat) + (1
: Nat) ≤ [D.int (numZ (el (pD (okW s) (D.list (strsD (piecesOf (32 : UInt8) s)))) ((3 : Nat) + x_1.fst)).asStr)].length ∧ (0 : Nat) + x_1.fst ≤ (List.take x_1.fst (numsL s)).length ∧ x_1.fst + (1 :
Nat) ≤ (16777216 : Nat) ∧ ((-9223372036854775808 : Int) ≤ (↑((3 : Nat) + x_1.fst) : Int) + (1 : Int) ∧ (↑((3 : Nat) + x_1.fst) : Int) + (1 : Int) < (9223372036854775808 : Int)) ∧ ((∃ (y : Nat × Prop),
((y.2 ↔ ∀ (j : Nat), (3 : Nat) ≤ j → j < (3 : Nat) + y.fst → numP (wrd s j)) ∧ (3 : Nat) + y.fst ≤ (piecesOf (32 : UInt8) s).length ∧ y.fst = (0 : Nat)) ∧ (piecesOf (32 : UInt8) s).length - y.fst <
(piecesOf (32 : UInt8) s).length - x_1.fst ∧ ((↑((3 : Nat) + x_1.fst) : Int) + (1 : Int) = (3 : Int) ∧ (false = true ↔ y.2) ∧ False ∧ True) ∧ True) ∨ ∃ (y : Nat × Prop), ((y.2 ↔ ∀ (j : Nat), (3 : Nat)
≤ j → j < (3 : Nat) + y.fst → numP (wrd s j)) ∧ (3 : Nat) + y.fst ≤ (piecesOf (32 : UInt8) s).length ∧ Nat.le (1 : Nat) y.fst) ∧ (piecesOf (32 : UInt8) s).length - y.fst < (piecesOf (32 : UInt8)
s).length - x_1.fst ∧ ((↑((3 : Nat) + x_1.fst) : Int) + (1 : Int) = (↑((3 : Nat) + y.fst) : Int) ∧ (false = true ↔ y.2) ∧ ((0 : Nat) = (0 : Nat) ∧ x_1.fst + (1 : Nat) = y.fst ∧ True) ∧ True) ∧
List.take x_1.fst (List.take x_1.fst (numsL s)) ++ List.take (1 : Nat) [D.int (numZ (el (pD (okW s) (D.list (strsD (piecesOf (32 : UInt8) s)))) ((3 : Nat) + x_1.fst)).asStr)] = List.take y.fst (numsL
s) ∧ True))) ∧ (((↑((3 : Nat) + x_1.fst) : Int) < (↑(pD (okW s) (D.list (strsD (piecesOf (32 : UInt8) s)))).len : Int) → False) → (0 : Int) ≤ (0 : Int) ∧ (0 : Int) < (↑x_1.fst : Int) ∧ (0 : Nat) +
Int.toNat (0 : Int) < (List.take x_1.fst (numsL s)).length ∧ (0 : Int) ≤ (1 : Int) ∧ (1 : Int) < (↑x_1.fst : Int) ∧ (0 : Nat) + Int.toNat (1 : Int) < (List.take x_1.fst (numsL s)).length ∧ (0 : Int) ≤
(2 : Int) ∧ (2 : Int) < (↑x_1.fst : Int) ∧ (0 : Nat) + Int.toNat (2 : Int) < (List.take x_1.fst (numsL s)).length ∧ (0 : Int) ≤ (3 : Int) ∧ (3 : Int) < (↑x_1.fst : Int) ∧ (0 : Nat) + Int.toNat (3 :
Int) < (List.take x_1.fst (numsL s)).length ∧ (0 : Int) ≤ (4 : Int) ∧ (4 : Int) ≤ (↑x_1.fst : Int) ∧ ((↑x_1.fst : Int) - (↑x_1.fst : Int)).NonNeg ∧ (0 : Nat) + Int.toNat (4 : Int) + (x_1.fst -
Int.toNat (4 : Int)) ≤ (List.take x_1.fst (numsL s)).length ∧ (x_1.fst - Int.toNat (4 : Int) = (0 : Nat) → (x_1.2 → (wrd s (1 : Nat) = pS (headP s) (wrd s (1 : Nat)) ∧ shpN (wrd s (2 : Nat)) x = pI
(headP s) (shapeZ (wrd s (2 : Nat))) ∧ (nthD (List.take x_1.fst (numsL s)) ((0 : Nat) + Int.toNat (0 : Int))).asInt = pI (headP s) (nAt s (0 : Nat)) ∧ (nthD (List.take x_1.fst (numsL s)) ((0 : Nat) +
Int.toNat (1 : Int))).asInt = pI (headP s) (nAt s (1 : Nat)) ∧ D.nil = pD (headP s) (restD s) ∧ (nthD (List.take x_1.fst (numsL s)) ((0 : Nat) + Int.toNat (2 : Int))).asInt = pI (headP s) (nAt s (2 :
Nat)) ∧ (nthD (List.take x_1.fst (numsL s)) ((0 : Nat) + Int.toNat (3 : Int))).asInt = pI (headP s) (nAt s (3 : Nat)) ∧ True) ∧ (shpN (wrd s (2 : Nat)) x = (0 : Int) → False ↔ lineP s) ∧ True) ∧
((x_1.2 → False) → (wrd s (1 : Nat) = pS (headP s) (wrd s (1 : Nat)) ∧ shpN (wrd s (2 : Nat)) x = pI (headP s) (shapeZ (wrd s (2 : Nat))) ∧ (nthD (List.take x_1.fst (numsL s)) ((0 : Nat) + Int.toNat
(0 : Int))).asInt = pI (headP s) (nAt s (0 : Nat)) ∧ (nthD (List.take x_1.fst (numsL s)) ((0 : Nat) + Int.toNat (1 : Int))).asInt = pI (headP s) (nAt s (1 : Nat)) ∧ D.nil = pD (headP s) (restD s) ∧
(nthD (List.take x_1.fst (numsL s)) ((0 : Nat) + Int.toNat (2 : Int))).asInt = pI (headP s) (nAt s (2 : Nat)) ∧ (nthD (List.take x_1.fst (numsL s)) ((0 : Nat) + Int.toNat (3 : Int))).asInt = pI (headP
s) (nAt s (3 : Nat)) ∧ True) ∧ (false = true ↔ lineP s) ∧ True)) ∧ ((0 : Nat) < x_1.fst - Int.toNat (4 : Int) → x_1.fst - Int.toNat (4 : Int) ≤ (16777216 : Nat) ∧ (x_1.2 → (wrd s (1 : Nat) = pS (headP
s) (wrd s (1 : Nat)) ∧ shpN (wrd s (2 : Nat)) x = pI (headP s) (shapeZ (wrd s (2 : Nat))) ∧ (nthD (List.take x_1.fst (numsL s)) ((0 : Nat) + Int.toNat (0 : Int))).asInt = pI (headP s) (nAt s (0 :
Nat)) ∧ (nthD (List.take x_1.fst (numsL s)) ((0 : Nat) + Int.toNat (1 : Int))).asInt = pI (headP s) (nAt s (1 : Nat)) ∧ ((0 : Nat) + (x_1.fst - Int.toNat (4 : Int)) ≤ (List.take (x_1.fst - Int.toNat
(4 : Int)) (List.drop ((0 : Nat) + Int.toNat (4 : Int)) (List.take x_1.fst (numsL s)))).length ∧ D.list (List.take (x_1.fst - Int.toNat (4 : Int)) (List.take (x_1.fst - Int.toNat (4 : Int)) (List.drop
((0 : Nat) + Int.toNat (4 : Int)) (List.take x_1.fst (numsL s))))) = pD (headP s) (restD s)) ∧ (nthD (List.take x_1.fst (numsL s)) ((0 : Nat) + Int.toNat (2 : Int))).asInt = pI (headP s) (nAt s (2 :
Nat)) ∧ (nthD (List.take x_1.fst (numsL s)) ((0 : Nat) + Int.toNat (3 : Int))).asInt = pI (headP s) (nAt s (3 : Nat)) ∧ True) ∧ (shpN (wrd s (2 : Nat)) x = (0 : Int) → False ↔ lineP s) ∧ True) ∧
((x_1.2 → False) → (wrd s (1 : Nat) = pS (headP s) (wrd s (1 : Nat)) ∧ shpN (wrd s (2 : Nat)) x = pI (headP s) (shapeZ (wrd s (2 : Nat))) ∧ (nthD (List.take x_1.fst (numsL s)) ((0 : Nat) + Int.toNat
(0 : Int))).asInt = pI (headP s) (nAt s (0 : Nat)) ∧ (nthD (List.take x_1.fst (numsL s)) ((0 : Nat) + Int.toNat (1 : Int))).asInt = pI (headP s) (nAt s (1 : Nat)) ∧ ((0 : Nat) + (x_1.fst - Int.toNat
(4 : Int)) ≤ (List.take (x_1.fst - Int.toNat (4 : Int)) (List.drop ((0 : Nat) + Int.toNat (4 : Int)) (List.take x_1.fst (numsL s)))).length ∧ D.list (List.take (x_1.fst - Int.toNat (4 : Int))
(List.take (x_1.fst - Int.toNat (4 : Int)) (List.drop ((0 : Nat) + Int.toNat (4 : Int)) (List.take x_1.fst (numsL s))))) = pD (headP s) (restD s)) ∧ (nthD (List.take x_1.fst (numsL s)) ((0 : Nat) +
Int.toNat (2 : Int))).asInt = pI (headP s) (nAt s (2 : Nat)) ∧ (nthD (List.take x_1.fst (numsL s)) ((0 : Nat) + Int.toNat (3 : Int))).asInt = pI (headP s) (nAt s (3 : Nat)) ∧ True) ∧ (false = true ↔
lineP s) ∧ True)))))) ∧ ((↑(pD (okW s) (D.list (strsD (piecesOf (32 : UInt8) s)))).len : Int) < (7 : Int) → ([] = pS (headP s) (wrd s (1 : Nat)) ∧ (0 : Int) = pI (headP s) (shapeZ (wrd s (2 : Nat))) ∧
(0 : Int) = pI (headP s) (nAt s (0 : Nat)) ∧ (0 : Int) = pI (headP s) (nAt s (1 : Nat)) ∧ D.nil = pD (headP s) (restD s) ∧ (0 : Int) = pI (headP s) (nAt s (2 : Nat)) ∧ (0 : Int) = pI (headP s) (nAt s
(3 : Nat)) ∧ True) ∧ (false = true ↔ lineP s) ∧ True)) ∧ ((okW s → False) → ([] = pS (headP s) (wrd s (1 : Nat)) ∧ (0 : Int) = pI (headP s) (shapeZ (wrd s (2 : Nat))) ∧ (0 : Int) = pI (headP s) (nAt s
(0 : Nat)) ∧ (0 : Int) = pI (headP s) (nAt s (1 : Nat)) ∧ D.nil = pD (headP s) (restD s) ∧ (0 : Int) = pI (headP s) (nAt s (2 : Nat)) ∧ (0 : Int) = pI (headP s) (nAt s (3 : Nat)) ∧ True) ∧ (false =
true ↔ lineP s) ∧ True)) := by intros; kernel_rfl
theorem shape_lim (w : List UInt8) : 0 ≤ shapeZ w ∧ shapeZ w ≤ 4 := by
 unfold shapeZ
 repeat' split
 all_goals omega
theorem shape_iff {k : Int} (h1 : 1 ≤ k) (h4 : k ≤ 4) (w : List UInt8) : shapeW k = w ↔ shapeZ w = k := by
 constructor
 ·intro h; subst h
  rcases (show k = 1 ∨ k = 2 ∨ k = 3 ∨ k = 4 by omega) with rfl | rfl | rfl | rfl <;> decide
 ·intro h
  unfold shapeZ at h
  split at h
  ·rename_i e; subst h; rw [e]; decide
  ·split at h
   ·rename_i e; subst h; rw [e]; decide
   ·split at h
    ·rename_i e; subst h; rw [e]; decide
    ·split at h
     ·rename_i e; subst h; rw [e]; decide
     ·omega
theorem nums_take {s : List UInt8} {k : Nat} (h : k < (piecesOf 32 s).length - 3) : (numsL s).take (k + 1) = (numsL s).take k ++ [.int (numZ (wrd s (3 + k)))] := by
 have hl : k < (numsL s).length := by rw [numsL_len]; exact h
 have hg : (numsL s)[k]? = some (.int (numZ (wrd s (3 + k)))) := by
  unfold numsL wrd pAt
  rw [List.getElem?_map, List.getElem?_drop, List.getElem?_eq_getElem (by omega : 3 + k < (piecesOf 32 s).length)]; rfl
 rw [List.getElem?_eq_getElem hl] at hg
 rw [List.take_succ_eq_append_getElem hl, Option.some.inj hg]
theorem s40 (s : List UInt8) (hs : s.length ≤ 100000) : symFun (ctx hp1 hpAnn) 4 40 [.str s] (.tup [rowV (headP s) s, .prop (lineP s)]) := by
 rw [vc40]
 have hP := pieces_len 32 s
 have hcl : s.count 32 ≤ s.length := List.count_le_length
 have bad : ¬ headP s → ([] = pS (headP s) (wrd s 1) ∧ 0 = pI (headP s) (shapeZ (wrd s 2)) ∧ 0 = pI (headP s) (nAt s 0) ∧ 0 = pI (headP s) (nAt s 1) ∧ D.nil = pD (headP s) (restD s) ∧ 0 = pI (headP s) (nAt s 2) ∧ 0 = pI (headP s) (nAt s 3) ∧ True) ∧ (false = true ↔ lineP s) ∧ True := fun h =>
  ⟨⟨pS_no _ h, pI_no _ h, pI_no _ h, pI_no _ h, pD_no _ h, pI_no _ h, pI_no _ h, trivial⟩, ⟨fun h => by simp at h, fun h' => absurd (line_head h') h⟩, trivial⟩
 refine ⟨hs, fun hok => ?_, fun hno => bad fun h => hno h.out.1⟩
 have hok := Classical.not_not.1 hok
 have eE : ∀ j, (el (D.list (strsD (piecesOf 32 s))) j).asStr = wrd s j := fun j => w_nth _ j
 have eL : (D.list (strsD (piecesOf 32 s))).len = (piecesOf 32 s).length := strs_len _
 rw [pD_yes _ hok]
 simp only [eE, eL]
 refine ⟨fun h7 => ?_, fun h7 => bad fun h => by have := h.out.2.1; omega⟩
 have h7 : ¬ ((piecesOf 32 s).length : Int) < 7 := h7
 refine ⟨by omega, by omega, fun h0 => bad fun h => h0 h.out.2.2, fun h0 => ?_⟩
 have h0 : wrd s 0 = tblW := Classical.not_not.1 h0
 have hH : headP s := ⟨hok, by omega, h0⟩
 have hsl := shape_lim (wrd s 2)
 have hw1 : wrd s 1 ≠ [] := hok.out _ (pAt_mem (by omega))
 refine ⟨by omega, by omega, ⟨1, ⟨by omega, by omega⟩, ⟨rfl, trivial⟩, ⟨by first | rfl | trivial, ?_, by trivial, by trivial, trivial, by trivial, by trivial, trivial⟩, trivial⟩, fun x ⟨hx1, hx5⟩ => ⟨by unfold LIM; omega, fun hx4 => ⟨trivial, by omega, by omega, fun he => ?_, fun he => ?_⟩, fun hx4 => ?_⟩⟩
 ·unfold shpN; split <;> omega
 ·have ew : IntKind.u8.wrap (x : Int) = x := wrap_small _ x (by omega)
  have hz : shapeZ (wrd s 2) = x := (shape_iff (by omega) (by omega) _).1 (by rw [← ew]; exact he)
  refine ⟨⟨by omega, by omega⟩, x + 1, ⟨by omega, by omega⟩, by omega, ⟨by omega, trivial⟩, ⟨by first | rfl | trivial, ?_, by trivial, by trivial, trivial, by trivial, by trivial, trivial⟩, trivial⟩
  rw [ew]; unfold shpN; rw [if_pos (by omega)]; omega
 ·have ew : IntKind.u8.wrap (x : Int) = x := wrap_small _ x (by omega)
  have hz : shapeZ (wrd s 2) ≠ x := fun h => he (by rw [ew]; exact (shape_iff (by omega) (by omega) _).2 h)
  refine ⟨⟨by omega, by omega⟩, x + 1, ⟨by omega, by omega⟩, by omega, ⟨by omega, trivial⟩, ⟨by first | rfl | trivial, ?_, by trivial, by trivial, trivial, by trivial, by trivial, trivial⟩, trivial⟩
  unfold shpN
  split <;> split <;> omega
 ·have hx4 : ¬ (x : Int) ≤ 4 := hx4
  have hx : x = 5 := by omega
  subst hx
  have e5 : shpN (wrd s 2) 5 = shapeZ (wrd s 2) := by unfold shpN; split <;> omega
  refine ⟨.inl ⟨(0, okW s), ⟨⟨fun _ j h1 h2 => by have h2 : j < 3 + 0 := h2; omega, fun _ => hok⟩, by show 3 + 0 ≤ _; omega, rfl⟩, ⟨by trivial, Iff.rfl, trivial, trivial⟩, trivial⟩, fun y ⟨hy, hyl, hy0⟩ => ⟨by unfold LIM; omega, fun hlt => ⟨by omega, by omega, trivial, fun ht => ?_, fun hn => absurd (hy.2 fun j h1 h2 => by omega) hn⟩, fun hge => absurd (show (3 : Int) < (piecesOf 32 s).length by omega) hge⟩, fun y ⟨hy, hyl, hy1⟩ => ⟨by unfold LIM; omega, fun hlt => ⟨by omega, hlt, trivial, fun ht => ?_, fun hn => ?_⟩, fun hge => ?_⟩⟩
  ·refine ⟨Nat.le_refl 1, by decide, ⟨by omega, by omega⟩, .inr ⟨(1, numP (wrd s 3)), ⟨⟨fun h j h1 h2 => ?_, fun h => h 3 (Nat.le_refl 3) (by show 3 < 3 + 1; omega)⟩, by show 3 + 1 ≤ _; omega, Nat.le_refl 1⟩, by show _ - 1 < _ - y.1; omega, ⟨by rfl, Iff.rfl, ⟨by trivial, rfl, trivial⟩, trivial⟩, ?_, trivial⟩⟩
   ·have h2 : j < 3 + 1 := h2
    have : j = 3 := by omega
    subst this; exact h
   ·show _ = List.take (0 + 1) (numsL s)
    rw [nums_take (by omega)]; rfl
  ·have hy1 : 1 ≤ y.1 := hy1
   have hk : y.1 < (piecesOf 32 s).length - 3 := by omega
   have hn := numsL_len s
   refine ⟨Nat.le_refl 1, by rw [List.length_take]; omega, by omega, ⟨by omega, by omega⟩, .inr ⟨(y.1 + 1, numP (wrd s (3 + y.1))), ⟨⟨fun h j h1 h2 => ?_, fun h => h (3 + y.1) (by omega) (by show 3 + y.1 < 3 + (y.1 + 1); omega)⟩, by show 3 + (y.1 + 1) ≤ _; omega, by show 1 ≤ y.1 + 1; omega⟩, by show _ - (y.1 + 1) < _ - y.1; omega, ⟨by show ((3 + y.1 : Nat) : Int) + 1 = ((3 + (y.1 + 1) : Nat) : Int); omega, Iff.rfl, ⟨by trivial, rfl, trivial⟩, trivial⟩, ?_, trivial⟩⟩
   ·have h2 : j < 3 + (y.1 + 1) := h2
    by_cases e : j = 3 + y.1
    ·subst e; exact h
    ·exact hy.1 ht j h1 (by omega)
   ·show _ = List.take (y.1 + 1) (numsL s)
    rw [nums_take hk, take_all (List.take y.1 (numsL s)) _ (by rw [List.length_take]; omega)]; rfl
  ·have hy1 : 1 ≤ y.1 := hy1
   have hk : y.1 < (piecesOf 32 s).length - 3 := by omega
   have hnl := numsL_len s
   refine ⟨Nat.le_refl 1, by rw [List.length_take]; omega, by omega, ⟨by omega, by omega⟩, .inr ⟨(y.1 + 1, False), ⟨⟨fun h => h.elim, fun h => hn (hy.2 fun j h1 h2 => h j h1 (by show j < 3 + (y.1 + 1); omega))⟩, by show 3 + (y.1 + 1) ≤ _; omega, by show 1 ≤ y.1 + 1; omega⟩, by show _ - (y.1 + 1) < _ - y.1; omega, ⟨by show ((3 + y.1 : Nat) : Int) + 1 = ((3 + (y.1 + 1) : Nat) : Int); omega, ⟨fun h => by simp at h, fun h => h.elim⟩, ⟨by trivial, rfl, trivial⟩, trivial⟩, ?_, trivial⟩⟩
   show _ = List.take (y.1 + 1) (numsL s)
   rw [nums_take hk, take_all (List.take y.1 (numsL s)) _ (by rw [List.length_take]; omega)]; rfl
  ·have hge : ¬ ((3 + y.1 : Nat) : Int) < (piecesOf 32 s).length := hge
   have hk : y.1 = (piecesOf 32 s).length - 3 := by omega
   have hnl := numsL_len s
   have et : List.take y.1 (numsL s) = numsL s := take_all _ _ (by omega)
   rw [et, e5]
   have nv : ∀ j : Nat, j < 4 → (nthD (numsL s) (0 + j)).asInt = pI (headP s) (nAt s j) := fun j hj => by rw [pI_yes _ hH, Nat.zero_add]; exact numsL_nth s j (by omega)
   have yes : y.2 → (shapeZ (wrd s 2) = 0 → False ↔ lineP s) := fun ht => ⟨fun h => ⟨hH.out.2.1, h0, hw1, h, fun j h1 h2 => hy.1 ht j h1 (by omega)⟩, fun h => h.out.2.2.2.1⟩
   have no : ¬ y.2 → (false = true ↔ lineP s) := fun hn => ⟨fun h => by simp at h, fun h => absurd (hy.2 fun j h1 h2 => h.out.2.2.2.2 j h1 (by omega)) hn⟩
   have r0 := nv 0 (by omega)
   have r1 := nv 1 (by omega)
   have r2 := nv 2 (by omega)
   have r3 := nv 3 (by omega)
   have rn : y.1 - Int.toNat 4 = 0 → D.nil = pD (headP s) (restD s) := fun hz => by
    rw [pD_yes _ hH]; unfold restD
    rw [List.drop_of_length_le (by have hz : y.1 - 4 = 0 := hz; omega)]; rfl
   have rl : 0 < y.1 - Int.toNat 4 → (0 + (y.1 - Int.toNat 4) ≤ (List.take (y.1 - Int.toNat 4) (List.drop (0 + Int.toNat 4) (numsL s))).length ∧ D.list (List.take (y.1 - Int.toNat 4) (List.take (y.1 - Int.toNat 4) (List.drop (0 + Int.toNat 4) (numsL s)))) = pD (headP s) (restD s)) := fun hz => by
    have hz : 0 < y.1 - 4 := hz
    show (0 + (y.1 - 4) ≤ (List.take (y.1 - 4) (List.drop 4 (numsL s))).length ∧ D.list (List.take (y.1 - 4) (List.take (y.1 - 4) (List.drop 4 (numsL s)))) = pD (headP s) (restD s))
    have ed : List.take (y.1 - 4) (List.drop 4 (numsL s)) = List.drop 4 (numsL s) := take_all _ _ (by rw [List.length_drop]; omega)
    rw [ed, ed, pD_yes _ hH]
    refine ⟨by rw [List.length_drop]; omega, ?_⟩
    unfold restD
    rw [listD_ne (by rw [List.length_drop]; omega)]
   have rs : shapeZ (wrd s 2) = pI (headP s) (shapeZ (wrd s 2)) := (pI_yes _ hH).symm
   have rw1 : wrd s 1 = pS (headP s) (wrd s 1) := (pS_yes _ hH).symm
   refine ⟨by omega, by omega, by rw [hnl]; show 0 + 0 < _; omega, by omega, by omega, by rw [hnl]; show 0 + 1 < _; omega, by omega, by omega, by rw [hnl]; show 0 + 2 < _; omega, by omega, by omega, by rw [hnl]; show 0 + 3 < _; omega, by omega, by omega, (show ((y.1 : Int)) ≤ (y.1 : Int) by omega), by rw [hnl]; show 0 + 4 + (y.1 - 4) ≤ _; omega, fun hz => ⟨fun ht => ⟨⟨rw1, rs, r0, r1, rn hz, r2, r3, trivial⟩, yes ht, trivial⟩, fun hn => ⟨⟨rw1, rs, r0, r1, rn hz, r2, r3, trivial⟩, no hn, trivial⟩⟩, fun hz => ⟨by show y.1 - 4 ≤ _; omega, fun ht => ⟨⟨rw1, rs, r0, r1, rl hz, r2, r3, trivial⟩, yes ht, trivial⟩, fun hn => ⟨⟨rw1, rs, r0, r1, rl hz, r2, r3, trivial⟩, no hn, trivial⟩⟩⟩
end Go.Ev

end
