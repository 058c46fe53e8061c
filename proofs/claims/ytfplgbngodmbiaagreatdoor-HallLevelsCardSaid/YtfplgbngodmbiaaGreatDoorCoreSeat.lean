/-
  Part of the engine that the claim is proved with: it states nothing of the document by itself.
-/
import Derived.Test.YtfplgbngodmbiaaGreatDoorCoreG28
import Derived.Test.YtfplgbngodmbiaaGreatDoorCoreG31
open Go.Proofs
namespace Go.Ev
set_option maxRecDepth 100000
set_option maxHeartbeats 4000000
theorem vc89 : ∀ (nm : List UInt8) (sh a b : Int) (o : D) (x y k m : Int), symFun (ctx num2 refAnn) 6 (89 : FuncId) [V.agg [V.str nm, V.int IntKind.u8 sh, V.int IntKind.i64 a, V.int IntKind.i64 b, V.dat (29 : TypeId) o,
 V.int IntKind.i64 x, V.int IntKind.i64 y], V.int IntKind.i64 k, V.int IntKind.i64 m] (V.prop (besideP sh a b k m)) = (((k = m → False) → (sh = 1 → ((-9223372036854775808 : Int) ≤ (bif false then max k m else min k m) +
 (1 : Int) ∧ (bif false then max k m else min k m) + (1 : Int) < (9223372036854775808 : Int)) ∧ (((bif true then max k m else min k m) = (bif false then max k m else min k m) + (1 : Int) → False) → ((bif false then max k
 m else min k m) = (0 : Int) → ((-9223372036854775808) ≤ a - 1 ∧ a - 1 < 9223372036854775808) ∧ ((bif true then max k m else min k m) = a - (1 : Int) ↔ besideP sh a b k m)) ∧ (((bif false then max k m else min k m) = (0 :
 Int) → False) → (false = true ↔ besideP sh a b k m))) ∧ ((bif true then max k m else min k m) = (bif false then max k m else min k m) + (1 : Int) → (true = true ↔ besideP sh a b k m))) ∧ ((sh = 1 → False) → (sh = 2 → (b
 = 0 → (b = 2 → ((bif false then max k m else min k m) = (0 : Int) → ((-9223372036854775808) ≤ 2 * a ∧ 2 * a < 9223372036854775808) ∧ ((-9223372036854775808) ≤ 2 * a + 1 ∧ 2 * a + 1 < 9223372036854775808) ∧
 ((-9223372036854775808 : Int) ≤ (bif false then max k m else min k m) + (1 : Int) ∧ (bif false then max k m else min k m) + (1 : Int) < (9223372036854775808 : Int)) ∧ ((bif true then max k m else min k m) = (bif false
 then max k m else min k m) + (1 : Int) → ((((bif true then max k m else min k m) = a → False) → False) → ((bif true then max k m else min k m) = (2 : Int) * a + (1 : Int) ↔ besideP sh a b k m)) ∧ (((bif true then max k m
 else min k m) = a → False) → (true = true ↔ besideP sh a b k m))) ∧ (((bif true then max k m else min k m) = (bif false then max k m else min k m) + (1 : Int) → False) → ((bif true then max k m else min k m) = (2 : Int)
 * a + (1 : Int) ↔ besideP sh a b k m))) ∧ (((bif false then max k m else min k m) = (0 : Int) → False) → ((-9223372036854775808 : Int) ≤ (bif false then max k m else min k m) + (1 : Int) ∧ (bif false then max k m else
 min k m) + (1 : Int) < (9223372036854775808 : Int)) ∧ ((bif true then max k m else min k m) = (bif false then max k m else min k m) + (1 : Int) → ((((bif true then max k m else min k m) = a → False) → False) → (false =
 true ↔ besideP sh a b k m)) ∧ (((bif true then max k m else min k m) = a → False) → (true = true ↔ besideP sh a b k m))) ∧ (((bif true then max k m else min k m) = (bif false then max k m else min k m) + (1 : Int) →
 False) → (false = true ↔ besideP sh a b k m)))) ∧ ((b = 2 → False) → ((-9223372036854775808 : Int) ≤ (bif false then max k m else min k m) + (1 : Int) ∧ (bif false then max k m else min k m) + (1 : Int) <
 (9223372036854775808 : Int)) ∧ ((bif true then max k m else min k m) = (bif false then max k m else min k m) + (1 : Int) → ((((bif true then max k m else min k m) = a → False) → False) → (false = true ↔ besideP sh a b k
 m)) ∧ (((bif true then max k m else min k m) = a → False) → (true = true ↔ besideP sh a b k m))) ∧ (((bif true then max k m else min k m) = (bif false then max k m else min k m) + (1 : Int) → False) → (false = true ↔
 besideP sh a b k m)))) ∧ ((b = 0 → False) → (b = 2 → ((bif false then max k m else min k m) = (0 : Int) → ((-9223372036854775808) ≤ 2 * a ∧ 2 * a < 9223372036854775808) ∧ ((-9223372036854775808) ≤ 2 * a + 1 ∧ 2 * a + 1 <
 9223372036854775808) ∧ ((-9223372036854775808 : Int) ≤ (bif false then max k m else min k m) + (1 : Int) ∧ (bif false then max k m else min k m) + (1 : Int) < (9223372036854775808 : Int)) ∧ ((bif true then max k m else
 min k m) = (bif false then max k m else min k m) + (1 : Int) → (true = true ↔ besideP sh a b k m)) ∧ (((bif true then max k m else min k m) = (bif false then max k m else min k m) + (1 : Int) → False) → ((bif true then
 max k m else min k m) = (2 : Int) * a + (1 : Int) ↔ besideP sh a b k m))) ∧ (((bif false then max k m else min k m) = (0 : Int) → False) → ((-9223372036854775808 : Int) ≤ (bif false then max k m else min k m) + (1 : Int)
 ∧ (bif false then max k m else min k m) + (1 : Int) < (9223372036854775808 : Int)) ∧ ((bif true then max k m else min k m) = (bif false then max k m else min k m) + (1 : Int) → (true = true ↔ besideP sh a b k m)) ∧
 (((bif true then max k m else min k m) = (bif false then max k m else min k m) + (1 : Int) → False) → (false = true ↔ besideP sh a b k m)))) ∧ ((b = 2 → False) → ((-9223372036854775808 : Int) ≤ (bif false then max k m
 else min k m) + (1 : Int) ∧ (bif false then max k m else min k m) + (1 : Int) < (9223372036854775808 : Int)) ∧ ((bif true then max k m else min k m) = (bif false then max k m else min k m) + (1 : Int) → (true = true ↔
 besideP sh a b k m)) ∧ (((bif true then max k m else min k m) = (bif false then max k m else min k m) + (1 : Int) → False) → (false = true ↔ besideP sh a b k m))))) ∧ ((sh = 2 → False) → (sh = 3 → ((-9223372036854775808
 : Int) ≤ (bif false then max k m else min k m) + (1 : Int) ∧ (bif false then max k m else min k m) + (1 : Int) < (9223372036854775808 : Int)) ∧ ((bif true then max k m else min k m) = (bif false then max k m else min k
 m) + (1 : Int) ↔ besideP sh a b k m)) ∧ ((sh = 3 → False) → (sh = 4 → ((-9223372036854775808 : Int) ≤ (bif false then max k m else min k m) + (1 : Int) ∧ (bif false then max k m else min k m) + (1 : Int) <
 (9223372036854775808 : Int)) ∧ ((bif true then max k m else min k m) = (bif false then max k m else min k m) + (1 : Int) → ((b = 0 → False) → (b = 0 → False) ∧ ((bif true then max k m else min k m).tmod b = (0 : Int) →
 False ↔ besideP sh a b k m)) ∧ (b = 0 → (true = true ↔ besideP sh a b k m))) ∧ (((bif true then max k m else min k m) = (bif false then max k m else min k m) + (1 : Int) → False) → (false = true ↔ besideP sh a b k m))) ∧
 ((sh = 4 → False) → False))))) ∧ (((k = m → False) → False) → (false = true ↔ besideP sh a b k m))) := by intros; kernel_rfl
theorem vc90 : ∀ (nm : List UInt8) (sh a b : Int) (o : D) (x y k m : Int), symFun (ctx num2 refAnn) 6 (90 : FuncId) [V.agg [V.str nm, V.int IntKind.u8 sh, V.int IntKind.i64 a, V.int IntKind.i64 b, V.dat (29 : TypeId) o,
 V.int IntKind.i64 x, V.int IntKind.i64 y], V.int IntKind.i64 k, V.int IntKind.i64 m] (V.prop (acrossP sh a b k m)) = (((k = m → False) → (sh = 1 → ((2 : Int) = 0 → False) ∧ (a.tmod 2 = 0 → (((-9223372036854775808 : Int)
 ≤ (bif true then max k m else min k m) - bif false then max k m else min k m) ∧ ((bif true then max k m else min k m) - bif false then max k m else min k m) < (9223372036854775808 : Int)) ∧ ((2 : Int) = 0 → False) ∧
 ((-9223372036854775808) ≤ a.tdiv 2 ∧ a.tdiv 2 < 9223372036854775808) ∧ (((bif true then max k m else min k m) - bif false then max k m else min k m) = a.tdiv (2 : Int) ↔ acrossP sh a b k m)) ∧ ((a.tmod 2 = 0 → False) →
 (false = true ↔ acrossP sh a b k m))) ∧ ((sh = 1 → False) → (sh = 2 → (b = 2 → ((-9223372036854775808) ≤ 2 * a ∧ 2 * a < 9223372036854775808) ∧ ((-9223372036854775808) ≤ 2 * a + 1 ∧ 2 * a + 1 < 9223372036854775808) ∧
 ((bif true then max k m else min k m) = (2 : Int) * a + (1 : Int) → ((bif false then max k m else min k m) = a ↔ acrossP sh a b k m)) ∧ (((bif true then max k m else min k m) = (2 : Int) * a + (1 : Int) → False) → ((bif
 false then max k m else min k m) < a → ((-9223372036854775808) ≤ 2 * a ∧ 2 * a < 9223372036854775808) ∧ ((-9223372036854775808) ≤ 2 * a - 1 ∧ 2 * a - 1 < 9223372036854775808) ∧ (((-9223372036854775808 : Int) ≤ (2 : Int)
 * a - (1 : Int) + bif false then max b (1 : Int) else min b (1 : Int)) ∧ ((2 : Int) * a - (1 : Int) + bif false then max b (1 : Int) else min b (1 : Int)) < (9223372036854775808 : Int)) ∧ (((-9223372036854775808 : Int) ≤
 ((2 : Int) * a - (1 : Int) + bif false then max b (1 : Int) else min b (1 : Int)) - bif false then max k m else min k m) ∧ (((2 : Int) * a - (1 : Int) + bif false then max b (1 : Int) else min b (1 : Int)) - bif false
 then max k m else min k m) < (9223372036854775808 : Int)) ∧ (((bif true then max k m else min k m) = ((2 : Int) * a - (1 : Int) + bif false then max b (1 : Int) else min b (1 : Int)) - bif false then max k m else min k
 m) ↔ acrossP sh a b k m)) ∧ (((bif false then max k m else min k m) < a → False) → (false = true ↔ acrossP sh a b k m)))) ∧ ((b = 2 → False) → ((bif false then max k m else min k m) < a → ((-9223372036854775808) ≤ 2 * a
 ∧ 2 * a < 9223372036854775808) ∧ ((-9223372036854775808) ≤ 2 * a - 1 ∧ 2 * a - 1 < 9223372036854775808) ∧ (((-9223372036854775808 : Int) ≤ (2 : Int) * a - (1 : Int) + bif false then max b (1 : Int) else min b (1 : Int))
 ∧ ((2 : Int) * a - (1 : Int) + bif false then max b (1 : Int) else min b (1 : Int)) < (9223372036854775808 : Int)) ∧ (((-9223372036854775808 : Int) ≤ ((2 : Int) * a - (1 : Int) + bif false then max b (1 : Int) else min b
 (1 : Int)) - bif false then max k m else min k m) ∧ (((2 : Int) * a - (1 : Int) + bif false then max b (1 : Int) else min b (1 : Int)) - bif false then max k m else min k m) < (9223372036854775808 : Int)) ∧ (((bif true
 then max k m else min k m) = ((2 : Int) * a - (1 : Int) + bif false then max b (1 : Int) else min b (1 : Int)) - bif false then max k m else min k m) ↔ acrossP sh a b k m)) ∧ (((bif false then max k m else min k m) < a →
 False) → (false = true ↔ acrossP sh a b k m)))) ∧ ((sh = 2 → False) → (sh = 3 → ((bif false then max k m else min k m) < b → ((-9223372036854775808) ≤ 2 * b ∧ 2 * b < 9223372036854775808) ∧ ((-9223372036854775808) ≤ a +
 2 * b ∧ a + 2 * b < 9223372036854775808) ∧ ((-9223372036854775808) ≤ a + 2 * b - 1 ∧ a + 2 * b - 1 < 9223372036854775808) ∧ (((-9223372036854775808 : Int) ≤ a + (2 : Int) * b - (1 : Int) - bif false then max k m else min
 k m) ∧ (a + (2 : Int) * b - (1 : Int) - bif false then max k m else min k m) < (9223372036854775808 : Int)) ∧ (((bif true then max k m else min k m) = a + (2 : Int) * b - (1 : Int) - bif false then max k m else min k m)
 ↔ acrossP sh a b k m)) ∧ (((bif false then max k m else min k m) < b → False) → (false = true ↔ acrossP sh a b k m))) ∧ ((sh = 3 → False) → (sh = 4 → (false = true ↔ acrossP sh a b k m)) ∧ ((sh = 4 → False) → False)))))
 ∧ (((k = m → False) → False) → (false = true ↔ acrossP sh a b k m))) := by intros; kernel_rfl
theorem vc88 : ∀ (nm : List UInt8) (sh a b : Int) (o : D) (x y k m : Int), symFun (ctx seat1 refAnn) 6 (88 : FuncId) [V.agg [V.str nm, V.int IntKind.u8 sh, V.int IntKind.i64 a, V.int IntKind.i64 b, V.dat (29 : TypeId) o,
 V.int IntKind.i64 x, V.int IntKind.i64 y], V.int IntKind.i64 k, V.int IntKind.i64 m] (V.prop (nearP sh a b k m)) = ((inTab sh a b k ∧ inTab sh a b m) ∧ ((besideP sh a b k m → False) → (inTab sh a b k ∧ inTab sh a b m) ∧
 (acrossP sh a b k m ↔ nearP sh a b k m)) ∧ (besideP sh a b k m → (true = true ↔ nearP sh a b k m))) := by intros; kernel_rfl
theorem size_cases {sh a b : Int} (h : sizeZ sh a b ≠ 0) : (sh = 1 ∧ 1 ≤ a ∧ a ≤ 24 ∧ b = 0 ∧ sizeZ sh a b = a) ∨ (sh = 2 ∧ 1 ≤ a ∧ a ≤ 11 ∧ 0 ≤ b ∧ b ≤ 2 ∧ sizeZ sh a b = 2 * a + b) ∨
    (sh = 3 ∧ 1 ≤ a ∧ a ≤ 8 ∧ 1 ≤ b ∧ b ≤ 8 ∧ sizeZ sh a b = a + 2 * b) ∨ (sh = 4 ∧ 1 ≤ a ∧ a ≤ 24 ∧ 0 ≤ b ∧ b ≤ a ∧ sizeZ sh a b = a) := by
  unfold sizeZ at h ⊢
  split at h
  · rename_i h1; rw [if_pos h1]; omega
  · rename_i h1
    rw [if_neg h1]
    split at h
    · rename_i h2; rw [if_pos h2]; omega
    · rename_i h2
      rw [if_neg h2]
      split at h
      · rename_i h3; rw [if_pos h3]; omega
      · rename_i h3
        rw [if_neg h3]
        split at h
        · rename_i h4; rw [if_pos h4]; omega
        · omega
theorem besideP_iff (sh a b k m : Int) : besideP sh a b k m ↔ k ≠ m ∧ ((sh = 1 ∧ (hi k m = lo k m + 1 ∨ (lo k m = 0 ∧ hi k m = a - 1))) ∨ (sh = 2 ∧ ((hi k m = lo k m + 1 ∧ ¬ (b = 0 ∧ hi k m = a)) ∨ (b = 2 ∧ lo k m = 0 ∧ hi k m = 2 * a + 1))) ∨
    (sh = 3 ∧ hi k m = lo k m + 1) ∨ (sh = 4 ∧ hi k m = lo k m + 1 ∧ (b = 0 ∨ (hi k m).tmod b ≠ 0))) := ⟨fun h => h.out, fun h => ⟨h⟩⟩
theorem acrossP_iff (sh a b k m : Int) : acrossP sh a b k m ↔ k ≠ m ∧ ((sh = 1 ∧ a.tmod 2 = 0 ∧ hi k m - lo k m = a.tdiv 2) ∨ (sh = 2 ∧ ((b = 2 ∧ hi k m = 2 * a + 1 ∧ lo k m = a) ∨ (¬ (b = 2 ∧ hi k m = 2 * a + 1) ∧ lo k m < a ∧ hi k m = 2 * a - 1 + min b 1 - lo k m))) ∨
    (sh = 3 ∧ lo k m < b ∧ hi k m = a + 2 * b - 1 - lo k m)) := ⟨fun h => h.out, fun h => ⟨h⟩⟩
theorem s89 (nm : List UInt8) (sh a b : Int) (o : D) (x y k m : Int) (hk : inTab sh a b k) (hm : inTab sh a b m) : symFun (ctx num2 refAnn) 6 89 [.agg [.str nm, .int .u8 sh, .int .i64 a, .int .i64 b, .dat 29 o, .int .i64 x, .int .i64 y], .int .i64 k, .int .i64 m] (.prop (besideP sh a b k m)) := by
  have hs := size_cases hk.out.1
  have hk := hk.out.2
  have hm := hm.out.2
  rw [vc89]
  simp only [besideP_iff, lo, hi, cond_true, cond_false, imp_false, Classical.not_not, Bool.false_eq_true, false_iff, true_iff, eq_self]
  generalize sizeZ sh a b = N at *
  generalize (max k m).tmod b = T at *
  rcases hs with hs | hs | hs | hs <;> (repeat' (first | (intro _) | (apply And.intro))) <;> omega
theorem s90 (nm : List UInt8) (sh a b : Int) (o : D) (x y k m : Int) (hk : inTab sh a b k) (hm : inTab sh a b m) : symFun (ctx num2 refAnn) 6 90 [.agg [.str nm, .int .u8 sh, .int .i64 a, .int .i64 b, .dat 29 o, .int .i64 x, .int .i64 y], .int .i64 k, .int .i64 m] (.prop (acrossP sh a b k m)) := by
  have hs := size_cases hk.out.1
  have hk := hk.out.2
  have hm := hm.out.2
  rw [vc90]
  have hd : a.tdiv 2 = a / 2 := Int.tdiv_eq_ediv_of_nonneg (by omega)
  have hd2 : a.tmod 2 = a % 2 := Int.tmod_eq_emod_of_nonneg (by omega)
  simp only [acrossP_iff, lo, hi, hd, hd2, cond_true, cond_false, imp_false, Classical.not_not, Bool.false_eq_true, false_iff, true_iff, eq_self]
  generalize sizeZ sh a b = N at *
  rcases hs with hs | hs | hs | hs <;> (repeat' (first | (intro _) | (apply And.intro))) <;> omega
theorem s88 (nm : List UInt8) (sh a b : Int) (o : D) (x y k m : Int) (hk : inTab sh a b k) (hm : inTab sh a b m) : symFun (ctx seat1 refAnn) 6 88 [.agg [.str nm, .int .u8 sh, .int .i64 a, .int .i64 b, .dat 29 o, .int .i64 x, .int .i64 y], .int .i64 k, .int .i64 m] (.prop (nearP sh a b k m)) := by
  rw [vc88]
  exact ⟨⟨hk, hm⟩, fun hn => ⟨⟨hk, hm⟩, fun h => ⟨.inr h⟩, fun h => h.out.resolve_left hn⟩, fun h => ⟨fun _ => ⟨.inl h⟩, fun _ => rfl⟩⟩
theorem v89 : ∀ d, 31 ≤ d → VC d 89 con89 := fun d hd =>
  valid_of_sym (C := ctx num2 refAnn) (G := GC) (B := 25) (m := 6) rfl rfl rfl vn2 (fun us p r hc hp ht => by
    unfold con89 at hc; split at hc
    · cases hc; exact s89 _ _ _ _ _ _ _ _ _ hp.1 hp.2
    · cases hc) (fun _ _ => rfl) rfl rfl d hd
theorem v90 : ∀ d, 31 ≤ d → VC d 90 con90 := fun d hd =>
  valid_of_sym (C := ctx num2 refAnn) (G := GC) (B := 25) (m := 6) rfl rfl rfl vn2 (fun us p r hc hp ht => by
    unfold con90 at hc; split at hc
    · cases hc; exact s90 _ _ _ _ _ _ _ _ _ hp.1 hp.2
    · cases hc) (fun _ _ => rfl) rfl rfl d hd
theorem vs1 : ∀ d, 31 ≤ d → ∀ g c, seat1 g = some c → VC d g c := fun d hd g c h => by
  unfold seat1 at h
  split at h
  · cases h; exact v89 d hd
  · cases h; exact v90 d hd
  · exact vn2 d (by omega) _ c h
theorem v88 : ∀ d, 37 ≤ d → VC d 88 con88 := fun d hd =>
  valid_of_sym (C := ctx seat1 refAnn) (G := GC) (B := 31) (m := 6) rfl rfl rfl vs1 (fun us p r hc hp ht => by
    unfold con88 at hc; split at hc
    · cases hc; exact s88 _ _ _ _ _ _ _ _ _ hp.1 hp.2
    · cases hc) (fun _ _ => rfl) rfl rfl d hd
end Go.Ev
