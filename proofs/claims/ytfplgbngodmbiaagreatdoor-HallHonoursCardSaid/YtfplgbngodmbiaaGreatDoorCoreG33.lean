/-
  Part of the engine that the claim is proved with: it states nothing of the document by itself.
-/
import Derived.Test.YtfplgbngodmbiaaGreatDoorCoreG32
import Derived.Test.YtfplgbngodmbiaaGreatDoorCoreG27
import Derived.Test.YtfplgbngodmbiaaGreatDoorCoreG31

section
open Go.Proofs
namespace Go.Ev
set_option maxRecDepth 100000
set_option maxHeartbeats 4000000
theorem vc165 : ∀ (nm : List UInt8) (sh a b : Int) (o : D) (x y k m : Int), symFun (ctx rf1b rfAnn) 4 (165 : FuncId) [V.agg [V.str nm, V.int IntKind.u8 sh, V.int IntKind.i64 a, V.int IntKind.i64 b, V.dat (29 : TypeId) o,
V.int IntKind.i64 x, V.int IntKind.i64 y], V.int IntKind.i64 k, V.int IntKind.i64 m] (V.prop (acrossP sh a b k m)) = ((k = m → (false = true ↔ acrossP sh a b k m)) ∧ ((k = m → False) → (sh = 1 → ((2 : Int) = 0 → False) ∧
(a.tmod 2 = 1 → (false = true ↔ acrossP sh a b k m)) ∧ ((a.tmod 2 = 1 → False) → (∃ (x : Nat), x.le (a.tdiv 2).toNat ∧ (0 = (x : Int) ∧ k = wrapZ a k x ∧ True) ∧ True) ∧ ∀ (x : Nat), x.le (a.tdiv 2).toNat → (a.tdiv
2).toNat - x < LIM ∧ ((2 : Int) = 0 → False) ∧ ((-9223372036854775808) ≤ a.tdiv 2 ∧ a.tdiv 2 < 9223372036854775808) ∧ ((x : Int) < a.tdiv 2 → (inTab sh a b (wrapZ a k x) ∧ sh = 1) ∧ ((-9223372036854775808) ≤ (x : Int) +
1 ∧ (x : Int) + 1 < 9223372036854775808) ∧ ∃ (y : Nat), y.le (a.tdiv 2).toNat ∧ (a.tdiv 2).toNat - y < (a.tdiv 2).toNat - x ∧ ((x : Int) + 1 = (y : Int) ∧ nextZ a (wrapZ a k x) = wrapZ a k y ∧ True) ∧ True) ∧ (((x : Int)
< a.tdiv 2 → False) → (wrapZ a k x = m ↔ acrossP sh a b k m)))) ∧ ((sh = 1 → False) → (sh = 2 → (inTab sh a b k ∧ sh = 2) ∧ (inTab sh a b m ∧ sh = 2) ∧ (spX a b k = spX a b m → ((spY a b k = 1 → False) → (((spY a b m = 1
→ False) → False) → (spY a b k = 1 → (spY a b m = 1 ↔ acrossP sh a b k m)) ∧ ((spY a b k = 1 → False) → (false = true ↔ acrossP sh a b k m))) ∧ ((spY a b m = 1 → False) → (true = true ↔ acrossP sh a b k m))) ∧ (((spY a b
k = 1 → False) → False) → (spY a b k = 1 → (spY a b m = 1 ↔ acrossP sh a b k m)) ∧ ((spY a b k = 1 → False) → (false = true ↔ acrossP sh a b k m)))) ∧ ((spX a b k = spX a b m → False) → (spY a b k = 1 → (spY a b m = 1 ↔
acrossP sh a b k m)) ∧ ((spY a b k = 1 → False) → (false = true ↔ acrossP sh a b k m)))) ∧ ((sh = 2 → False) → (sh = 3 → (∃ (x : Nat), (x ≤ b.toNat ∧ ∀ (j : Nat), j < x → facing a b k m j → False) ∧ (0 = (x : Int) ∧
True) ∧ True) ∧ ∀ (x : Nat), (x ≤ b.toNat ∧ ∀ (j : Nat), j < x → facing a b k m j → False) → b.toNat - x < LIM ∧ ((x : Int) < b → (k = (x : Int) → True ∧ ((-9223372036854775808) ≤ sizeZ sh a b - 1 ∧ sizeZ sh a b - 1 <
9223372036854775808) ∧ ((-9223372036854775808) ≤ sizeZ sh a b - 1 - (x : Int) ∧ sizeZ sh a b - 1 - (x : Int) < 9223372036854775808) ∧ ((m = sizeZ sh a b - 1 - (x : Int) → False) → (m = (x : Int) → True ∧
((-9223372036854775808) ≤ sizeZ sh a b - 1 ∧ sizeZ sh a b - 1 < 9223372036854775808) ∧ ((-9223372036854775808) ≤ sizeZ sh a b - 1 - (x : Int) ∧ sizeZ sh a b - 1 - (x : Int) < 9223372036854775808) ∧ (k = sizeZ sh a b - 1
- (x : Int) → (true = true ↔ acrossP sh a b k m)) ∧ ((k = sizeZ sh a b - 1 - (x : Int) → False) → ((-9223372036854775808) ≤ (x : Int) + 1 ∧ (x : Int) + 1 < 9223372036854775808) ∧ ∃ (y : Nat), (y ≤ b.toNat ∧ ∀ (j : Nat),
j < y → facing a b k m j → False) ∧ b.toNat - y < b.toNat - x ∧ ((x : Int) + 1 = (y : Int) ∧ True) ∧ True)) ∧ ((m = (x : Int) → False) → ((-9223372036854775808) ≤ (x : Int) + 1 ∧ (x : Int) + 1 < 9223372036854775808) ∧ ∃
(y : Nat), (y ≤ b.toNat ∧ ∀ (j : Nat), j < y → facing a b k m j → False) ∧ b.toNat - y < b.toNat - x ∧ ((x : Int) + 1 = (y : Int) ∧ True) ∧ True)) ∧ (m = sizeZ sh a b - 1 - (x : Int) → (true = true ↔ acrossP sh a b k
m))) ∧ ((k = (x : Int) → False) → (m = (x : Int) → True ∧ ((-9223372036854775808) ≤ sizeZ sh a b - 1 ∧ sizeZ sh a b - 1 < 9223372036854775808) ∧ ((-9223372036854775808) ≤ sizeZ sh a b - 1 - (x : Int) ∧ sizeZ sh a b - 1 -
(x : Int) < 9223372036854775808) ∧ (k = sizeZ sh a b - 1 - (x : Int) → (true = true ↔ acrossP sh a b k m)) ∧ ((k = sizeZ sh a b - 1 - (x : Int) → False) → ((-9223372036854775808) ≤ (x : Int) + 1 ∧ (x : Int) + 1 <
9223372036854775808) ∧ ∃ (y : Nat), (y ≤ b.toNat ∧ ∀ (j : Nat), j < y → facing a b k m j → False) ∧ b.toNat - y < b.toNat - x ∧ ((x : Int) + 1 = (y : Int) ∧ True) ∧ True)) ∧ ((m = (x : Int) → False) →
((-9223372036854775808) ≤ (x : Int) + 1 ∧ (x : Int) + 1 < 9223372036854775808) ∧ ∃ (y : Nat), (y ≤ b.toNat ∧ ∀ (j : Nat), j < y → facing a b k m j → False) ∧ b.toNat - y < b.toNat - x ∧ ((x : Int) + 1 = (y : Int) ∧ True)
∧ True))) ∧ (((x : Int) < b → False) → (false = true ↔ acrossP sh a b k m))) ∧ ((sh = 3 → False) → (false = true ↔ acrossP sh a b k m)))))) := by intros; kernel_rfl
theorem vc135 : ∀ (nm : List UInt8) (sh a b : Int) (o : D) (x y k m : Int), symFun (ctx rf1c rfAnn) 4 (135 : FuncId) [V.agg [V.str nm, V.int IntKind.u8 sh, V.int IntKind.i64 a, V.int IntKind.i64 b, V.dat (29 : TypeId) o,
V.int IntKind.i64 x, V.int IntKind.i64 y], V.int IntKind.i64 k, V.int IntKind.i64 m] (V.prop (nearP sh a b k m)) = ((inTab sh a b k ∧ inTab sh a b m) ∧ ((besideP sh a b k m → False) → (inTab sh a b k ∧ inTab sh a b m) ∧
(acrossP sh a b k m ↔ nearP sh a b k m)) ∧ (besideP sh a b k m → (true = true ↔ nearP sh a b k m))) := by intros; kernel_rfl
theorem acrossP_iff' (sh a b k m : Int) : acrossP sh a b k m ↔ (k ≠ m ∧ ((sh = 1 ∧ a.tmod 2 = 0 ∧ hi k m - lo k m = a.tdiv 2) ∨ (sh = 2 ∧ ((b = 2 ∧ hi k m = 2 * a + 1 ∧ lo k m = a) ∨ (¬ (b = 2 ∧ hi k m = 2 * a + 1) ∧ lo k m < a ∧ hi k m = 2 * a - 1 + min b 1 - lo k m))) ∨
  (sh = 3 ∧ lo k m < b ∧ hi k m = a + 2 * b - 1 - lo k m))) := ⟨fun h => h.out, fun h => ⟨h⟩⟩
theorem across_2 {a b k m : Int} (ha : 1 ≤ a ∧ a ≤ 11) (hb : 0 ≤ b ∧ b ≤ 2) (hk : 0 ≤ k ∧ k < 2 * a + b) (hm : 0 ≤ m ∧ m < 2 * a + b) (hne : k ≠ m) : acrossP 2 a b k m ↔ ((spX a b k = spX a b m ∧ spY a b k ≠ 1 ∧ spY a b m ≠ 1) ∨ (spY a b k = 1 ∧ spY a b m = 1)) := by
 rw [acrossP_iff']; unfold lo hi
 have h1 := sp_cases a b k
 have h2 := sp_cases a b m
 generalize spX a b k = X1 at *
 generalize spX a b m = X2 at *
 generalize spY a b k = Y1 at *
 generalize spY a b m = Y2 at *
 generalize a.tmod 2 = T
 generalize a.tdiv 2 = T'
 rcases h1 with h1 | h1 | h1 | h1 | h1 | h1 <;> rcases h2 with h2 | h2 | h2 | h2 | h2 | h2 <;> constructor <;> intro h <;> omega
theorem s165 (nm : List UInt8) (sh a b : Int) (o : D) (x y k m : Int) (hk : inTab sh a b k) (hm : inTab sh a b m) : symFun (ctx rf1b rfAnn) 4 165 [.agg [.str nm, .int .u8 sh, .int .i64 a, .int .i64 b, .dat 29 o, .int .i64 x, .int .i64 y], .int .i64 k, .int .i64 m] (.prop (acrossP sh a b k m)) := by
 have hs := size_cases hk.out.1
 have hk' := hk.out.2
 have hm' := hm.out.2
 rw [vc165]; simp only [imp_false, Classical.not_not]
 have hself : k = m → ¬ acrossP sh a b k m := fun h h' => h'.out.1 h
 by_cases hne : k = m
 ·exact ⟨fun _ => by simp [hself hne], fun h => absurd hne h⟩
 ·refine ⟨fun h => absurd h hne, fun _ => ⟨fun h1 => ?_, fun h1 => ⟨fun h2 => ?_, fun h2 => ⟨fun h3 => ?_, fun h3 => ?_⟩⟩⟩⟩
  ·subst h1
   have hd : a.tdiv 2 = a / 2 := Int.tdiv_eq_ediv_of_nonneg (by omega)
   have hd2 : a.tmod 2 = a % 2 := Int.tmod_eq_emod_of_nonneg (by omega)
   have hA : acrossP 1 a b k m ↔ (a % 2 = 0 ∧ max k m - min k m = a / 2) := by
    rw [acrossP_iff', hd, hd2]; unfold lo hi
    constructor <;> intro h <;> omega
   rw [hA, hd, hd2]
   refine ⟨by omega, fun he => by simp [he], fun he => ⟨⟨0, Nat.zero_le _, ⟨rfl, by unfold wrapZ; rw [if_pos (by omega)]; omega, trivial⟩, trivial⟩, fun z hz => ?_⟩⟩
   have hz : z ≤ (a / 2).toNat := hz
   have hw : (k + z < a ∧ wrapZ a k z = k + z) ∨ (¬ k + z < a ∧ wrapZ a k z = k + z - a) := by unfold wrapZ; split <;> omega
   have hw2 : (k + ((z + 1 : Nat) : Int) < a ∧ wrapZ a k (z + 1) = k + ((z + 1 : Nat) : Int)) ∨ (¬ k + ((z + 1 : Nat) : Int) < a ∧ wrapZ a k (z + 1) = k + ((z + 1 : Nat) : Int) - a) := by unfold wrapZ; split <;> omega
   have hn := nx_cases a (wrapZ a k z)
   generalize nextZ a (wrapZ a k z) = N at *
   generalize hW : wrapZ a k z = W at *
   refine ⟨by unfold LIM; omega, by omega, by omega, fun hlt => ⟨⟨⟨hk.out.1, by omega⟩, rfl⟩, by omega, z + 1, show z + 1 ≤ (a / 2).toNat by omega, by omega, ⟨rfl, ?_, trivial⟩, trivial⟩, fun hge => ?_⟩
   ·omega
   ·constructor <;> intro h <;> omega
  ·subst h2
   rw [across_2 (by omega) (by omega) (by omega) (by omega) hne]
   refine ⟨⟨hk, rfl⟩, ⟨hm, rfl⟩, ?_⟩
   generalize spX a b k = X1 at *
   generalize spX a b m = X2 at *
   generalize spY a b k = Y1 at *
   generalize spY a b m = Y2 at *
   by_cases e1 : X1 = X2 <;> by_cases e4 : Y1 = 1 <;> by_cases e5 : Y2 = 1 <;> simp [e1, e4, e5]
  ·subst h3
   have hz : sizeZ 3 a b = a + 2 * b := by omega
   have hA : acrossP 3 a b k m ↔ (min k m < b ∧ max k m = a + 2 * b - 1 - min k m) := by
    rw [acrossP_iff']; unfold lo hi
    generalize a.tmod 2 = T
    generalize a.tdiv 2 = T'
    constructor <;> intro h <;> omega
   have hF : ∀ j : Nat, facing a b k m j ↔ ((k = j ∧ m = a + 2 * b - 1 - j) ∨ (m = j ∧ k = a + 2 * b - 1 - j)) := fun j => ⟨fun h => h.out, fun h => ⟨h⟩⟩
   rw [hA, hz]
   have next : ∀ z : Nat, z ≤ b.toNat → (∀ j, j < z → ¬ facing a b k m j) → (z : Int) < b → ¬ facing a b k m z → ∃ y : Nat, (y ≤ b.toNat ∧ ∀ j, j < y → ¬ facing a b k m j) ∧ b.toNat - y < b.toNat - z ∧ ((z : Int) + 1 = (y : Int) ∧ True) ∧ True := fun z h1 h2 h3 h4 => ⟨z + 1, ⟨by omega, fun j hj => by
    rcases Nat.lt_succ_iff_lt_or_eq.1 hj with h | h
    ·exact h2 j h
    ·subst h; exact h4⟩, by omega, ⟨rfl, trivial⟩, trivial⟩
   refine ⟨⟨0, ⟨Nat.zero_le _, fun j h => absurd h (Nat.not_lt_zero _)⟩, ⟨rfl, trivial⟩, trivial⟩, fun z hz' => ?_⟩
   obtain ⟨hz1, hz2⟩ := hz'
   have hN := next z hz1 hz2
   refine ⟨by unfold LIM; omega, fun hlt => ⟨fun e1 => ⟨trivial, by omega, by omega, fun e2 => ⟨fun e3 => ⟨trivial, by omega, by omega, fun e4 => ?_, fun e4 => ⟨by omega, hN hlt ?_⟩⟩, fun e3 => ⟨by omega, hN hlt ?_⟩⟩, fun e2 => ?_⟩, fun e1 => ⟨fun e3 => ⟨trivial, by omega, by omega, fun e4 => ?_, fun e4 => ⟨by omega, hN hlt ?_⟩⟩, fun e3 => ⟨by omega, hN hlt ?_⟩⟩⟩, fun hge => ?_⟩
   ·constructor <;> intro _ <;> first | trivial | omega
   ·rw [hF]; omega
   ·rw [hF]; omega
   ·constructor <;> intro _ <;> first | trivial | omega
   ·constructor <;> intro _ <;> first | trivial | omega
   ·rw [hF]; omega
   ·rw [hF]; omega
   ·constructor
    ·intro h; cases h
    ·intro h
     exfalso
     refine hz2 (min k m).toNat (by omega) ((hF _).2 ?_)
     omega
  ·have h4 : sh = 4 := by omega
   subst h4
   have hA : ¬ acrossP 4 a b k m := by
    rw [acrossP_iff']; unfold lo hi
    generalize a.tmod 2 = T
    generalize a.tdiv 2 = T'
    omega
   simp [hA]
theorem s135 (nm : List UInt8) (sh a b : Int) (o : D) (x y k m : Int) (hk : inTab sh a b k) (hm : inTab sh a b m) : symFun (ctx rf1c rfAnn) 4 135 [.agg [.str nm, .int .u8 sh, .int .i64 a, .int .i64 b, .dat 29 o, .int .i64 x, .int .i64 y], .int .i64 k, .int .i64 m] (.prop (nearP sh a b k m)) := by
 rw [vc135]
 exact ⟨⟨hk, hm⟩, fun hn => ⟨⟨hk, hm⟩, fun h => ⟨.inr h⟩, fun h => h.out.resolve_left hn⟩, fun h => ⟨fun _ => ⟨.inl h⟩, fun _ => rfl⟩⟩
theorem v167 : ∀ d, 33 ≤ d → VC d 167 con167 := fun d hd =>
 valid_of_sym (C := ctx rf1 rfAnn) (G := GC) (B := 29) (m := 4) rfl rfl rfl vf1 (fun us p r hc hp ht => by
  unfold con167 at hc; split at hc
  ·cases hc; exact s167 _ _ _ _ _ _ _ _ _ hp.1 hp.2.1
  ·cases hc) (fun _ _ => rfl) rfl rfl d hd
theorem vf1n : ∀ d, 29 ≤ d → ∀ g c, rf1n g = some c → VC d g c := fun d hd g c h => by
 unfold rf1n at h
 split at h
 ·cases h; intro us p r hc hp; unfold con164n at hc; split at hc
  ·cases hc; exact hp.elim
  ·cases hc
 ·exact vf1 d hd _ c h
theorem v164s : ∀ d, 33 ≤ d → VC d 164 con164s := fun d hd =>
 valid_of_sym (C := ctx rf1n rfAnn) (G := GC) (B := 29) (m := 4) rfl rfl rfl vf1n (fun us p r hc hp ht => by
  unfold con164s at hc; split at hc
  ·cases hc; exact s164s _ _ _ _ _ _ _ _ _ hp.1 hp.2.1 hp.2.2
  ·cases hc) (fun _ _ => rfl) rfl rfl d hd
theorem vf1s : ∀ d, 33 ≤ d → ∀ g c, rf1s g = some c → VC d g c := fun d hd g c h => by
 unfold rf1s at h
 split at h
 ·cases h; exact v164s d hd
 ·exact vf1 d (by omega) _ c h
theorem v164 : ∀ d, 37 ≤ d → VC d 164 con89 := fun d hd =>
 valid_of_sym (C := ctx rf1s rfAnn) (G := GC) (B := 33) (m := 4) rfl rfl rfl vf1s (fun us p r hc hp ht => by
  unfold con89 at hc; split at hc
  ·cases hc; exact s164 _ _ _ _ _ _ _ _ _ hp.1 hp.2
  ·cases hc) (fun _ _ => rfl) rfl rfl d hd
theorem vf1b : ∀ d, 37 ≤ d → ∀ g c, rf1b g = some c → VC d g c := fun d hd g c h => by
 unfold rf1b at h
 split at h
 ·cases h; exact valid_ext (v167 d (by omega))
 ·cases h; exact v164 d hd
 ·cases h; exact v133 d (by omega)
 ·exact vf1 d (by omega) _ c h
theorem v163 : ∀ d, 41 ≤ d → VC d 163 con149 := fun d hd =>
 valid_of_sym (C := ctx rf1b rfAnn) (G := GC) (B := 37) (m := 4) rfl rfl rfl vf1b (fun us p r hc hp ht => by
  unfold con149 at hc; split at hc
  ·cases hc; exact s163 _ _ _ _ _ _ _ hp
  ·cases hc) (fun _ _ => rfl) rfl rfl d hd
theorem v165 : ∀ d, 41 ≤ d → VC d 165 con90 := fun d hd =>
 valid_of_sym (C := ctx rf1b rfAnn) (G := GC) (B := 37) (m := 4) rfl rfl rfl vf1b (fun us p r hc hp ht => by
  unfold con90 at hc; split at hc
  ·cases hc; exact s165 _ _ _ _ _ _ _ _ _ hp.1 hp.2
  ·cases hc) (fun _ _ => rfl) rfl rfl d hd
theorem vf1c : ∀ d, 41 ≤ d → ∀ g c, rf1c g = some c → VC d g c := fun d hd g c h => by
 unfold rf1c at h
 split at h
 ·cases h; exact v165 d hd
 ·cases h; exact v163 d hd
 ·exact vf1b d (by omega) _ c h
theorem v135 : ∀ d, 45 ≤ d → VC d 135 con88 := fun d hd =>
 valid_of_sym (C := ctx rf1c rfAnn) (G := GC) (B := 41) (m := 4) rfl rfl rfl vf1c (fun us p r hc hp ht => by
  unfold con88 at hc; split at hc
  ·cases hc; exact s135 _ _ _ _ _ _ _ _ _ hp.1 hp.2
  ·cases hc) (fun _ _ => rfl) rfl rfl d hd
theorem vf2 : ∀ d, 45 ≤ d → ∀ g c, rf2 g = some c → VC d g c := fun d hd g c h => by
 unfold rf2 at h
 split at h
 ·cases h; exact v135 d hd
 ·exact vf1c d (by omega) _ c h
end Go.Ev

end

section
open Go.Proofs
namespace Go.Ev
set_option maxRecDepth 100000
set_option maxHeartbeats 4000000
def ScanC (sh a b k : Int) (Q : Nat → Nat → Prop) : Prop := (True ∧ ((∃ (x : Nat), x = (0 : Nat) ∧ ((0 : Int) = (0 : Int) ∧ True ∧ True) ∧ True) ∨ ∃ (x : Nat), ((0 : Nat) < x ∧ x ≤ (sizeZ sh a b).toNat) ∧ ((0 : Int) = (↑x : Int) ∧ False ∧ True) ∧ False ∧ True)
∧ (∀ (x : Nat), x = (0 : Nat) → (sizeZ sh a b).toNat - x < LIM ∧ ((0 : Int) < sizeZ sh a b → (0 : Nat) + (1 : Nat) ≤ [D.int (-1 : Int)].length ∧ (1 : Nat) ≤ (16777216 : Nat) ∧ ((-9223372036854775808 :
Int) ≤ (0 : Int) + (1 : Int) ∧ (0 : Int) + (1 : Int) < (9223372036854775808 : Int)) ∧ ((∃ (y : Nat), y = (0 : Nat) ∧ (sizeZ sh a b).toNat - y < (sizeZ sh a b).toNat - x ∧ ((0 : Int) + (1 : Int) = (0 :
Int) ∧ False ∧ True) ∧ True) ∨ ∃ (y : Nat), ((0 : Nat) < y ∧ y ≤ (sizeZ sh a b).toNat) ∧ (sizeZ sh a b).toNat - y < (sizeZ sh a b).toNat - x ∧ ((0 : Int) + (1 : Int) = (↑y : Int) ∧ ((0 : Nat) = (0 :
Nat) ∧ (1 : Nat) = y ∧ True) ∧ True) ∧ (List.take (1 : Nat) [D.int (-1 : Int)] = rowN y fun (x : Nat) => (-1 : Int)) ∧ True)) ∧ (((0 : Int) < sizeZ sh a b → False) → False)) ∧ ∀ (x : Nat), (0 : Nat) <
x ∧ x ≤ (sizeZ sh a b).toNat → (sizeZ sh a b).toNat - x < LIM ∧ ((↑x : Int) < sizeZ sh a b → (0 : Nat) + (1 : Nat) ≤ [D.int (-1 : Int)].length ∧ (0 : Nat) + x ≤ (rowN x fun (x : Nat) => (-1 :
Int)).length ∧ x + (1 : Nat) ≤ (16777216 : Nat) ∧ ((-9223372036854775808 : Int) ≤ (↑x : Int) + (1 : Int) ∧ (↑x : Int) + (1 : Int) < (9223372036854775808 : Int)) ∧ ((∃ (y : Nat), y = (0 : Nat) ∧ (sizeZ
sh a b).toNat - y < (sizeZ sh a b).toNat - x ∧ ((↑x : Int) + (1 : Int) = (0 : Int) ∧ False ∧ True) ∧ True) ∨ ∃ (y : Nat), ((0 : Nat) < y ∧ y ≤ (sizeZ sh a b).toNat) ∧ (sizeZ sh a b).toNat - y < (sizeZ
sh a b).toNat - x ∧ ((↑x : Int) + (1 : Int) = (↑y : Int) ∧ ((0 : Nat) = (0 : Nat) ∧ x + (1 : Nat) = y ∧ True) ∧ True) ∧ (List.take x (rowN x fun (x : Nat) => (-1 : Int)) ++ List.take (1 : Nat) [D.int
(-1 : Int)] = rowN y fun (x : Nat) => (-1 : Int)) ∧ True)) ∧ (((↑x : Int) < sizeZ sh a b → False) → (0 : Int) ≤ k ∧ k < (↑x : Int) ∧ k.toNat < (rowN x fun (x : Nat) => (-1 : Int)).length ∧ (∃ (x_1 :
Nat), x_1.le x ∧ ((0 : Int) = (↑x_1 : Int) ∧ True) ∧ (rowN x fun (x : Nat) => (-1 : Int)).set k.toNat (D.int (0 : Int)) = rowN x (midL x (nearN sh a b) k.toNat x_1 (0 : Nat) (0 : Nat)) ∧ True) ∧ ∀
(x_1 : Nat), x_1.le x → x - x_1 < LIM ∧ ((↑x_1 : Int) < sizeZ sh a b → (∃ (x_2 : Nat), x_2.le x ∧ ((0 : Int) = (↑x_2 : Int) ∧ True) ∧ rowN x (midL x (nearN sh a b) k.toNat x_1 (0 : Nat) (0 : Nat)) =
rowN x (midL x (nearN sh a b) k.toNat x_1 x_2 (0 : Nat)) ∧ True) ∧ ∀ (x_2 : Nat), x_2.le x → x - x_2 < LIM ∧ ((↑x_2 : Int) < sizeZ sh a b → (∃ (x_3 : Nat), x_3.le x ∧ ((0 : Int) = (↑x_3 : Int) ∧ True)
∧ rowN x (midL x (nearN sh a b) k.toNat x_1 x_2 (0 : Nat)) = rowN x (midL x (nearN sh a b) k.toNat x_1 x_2 x_3) ∧ True) ∧ ∀ (x_3 : Nat), x_3.le x → x - x_3 < LIM ∧ ((↑x_3 : Int) < sizeZ sh a b → (0 :
Int) ≤ (↑x_2 : Int) ∧ (↑x_2 : Int) < (↑x : Int) ∧ x_2 < (rowN x (midL x (nearN sh a b) k.toNat x_1 x_2 x_3)).length ∧ ((nthD (rowN x (midL x (nearN sh a b) k.toNat x_1 x_2 x_3)) x_2).asInt = (↑x_1 :
Int) → (0 : Int) ≤ (↑x_3 : Int) ∧ (↑x_3 : Int) < (↑x : Int) ∧ x_3 < (rowN x (midL x (nearN sh a b) k.toNat x_1 x_2 x_3)).length ∧ ((nthD (rowN x (midL x (nearN sh a b) k.toNat x_1 x_2 x_3)) x_3).asInt
< (0 : Int) → (inTab sh a b (↑x_2 : Int) ∧ inTab sh a b (↑x_3 : Int)) ∧ (nearP sh a b (↑x_2 : Int) (↑x_3 : Int) → ((-9223372036854775808 : Int) ≤ (↑x_1 : Int) + (1 : Int) ∧ (↑x_1 : Int) + (1 : Int) <
(9223372036854775808 : Int)) ∧ (0 : Int) ≤ (↑x_3 : Int) ∧ (↑x_3 : Int) < (↑x : Int) ∧ x_3 < (rowN x (midL x (nearN sh a b) k.toNat x_1 x_2 x_3)).length ∧ ((-9223372036854775808 : Int) ≤ (↑x_3 : Int) +
(1 : Int) ∧ (↑x_3 : Int) + (1 : Int) < (9223372036854775808 : Int)) ∧ ∃ (y : Nat), y.le x ∧ x - y < x - x_3 ∧ ((↑x_3 : Int) + (1 : Int) = (↑y : Int) ∧ True) ∧ (rowN x (midL x (nearN sh a b) k.toNat
x_1 x_2 x_3)).set x_3 (D.int ((↑x_1 : Int) + (1 : Int))) = rowN x (midL x (nearN sh a b) k.toNat x_1 x_2 y) ∧ True) ∧ ((nearP sh a b (↑x_2 : Int) (↑x_3 : Int) → False) → ((-9223372036854775808 : Int)
≤ (↑x_3 : Int) + (1 : Int) ∧ (↑x_3 : Int) + (1 : Int) < (9223372036854775808 : Int)) ∧ ∃ (y : Nat), y.le x ∧ x - y < x - x_3 ∧ ((↑x_3 : Int) + (1 : Int) = (↑y : Int) ∧ True) ∧ rowN x (midL x (nearN sh
a b) k.toNat x_1 x_2 x_3) = rowN x (midL x (nearN sh a b) k.toNat x_1 x_2 y) ∧ True)) ∧ (((nthD (rowN x (midL x (nearN sh a b) k.toNat x_1 x_2 x_3)) x_3).asInt < (0 : Int) → False) →
((-9223372036854775808 : Int) ≤ (↑x_3 : Int) + (1 : Int) ∧ (↑x_3 : Int) + (1 : Int) < (9223372036854775808 : Int)) ∧ ∃ (y : Nat), y.le x ∧ x - y < x - x_3 ∧ ((↑x_3 : Int) + (1 : Int) = (↑y : Int) ∧
True) ∧ rowN x (midL x (nearN sh a b) k.toNat x_1 x_2 x_3) = rowN x (midL x (nearN sh a b) k.toNat x_1 x_2 y) ∧ True)) ∧ (((nthD (rowN x (midL x (nearN sh a b) k.toNat x_1 x_2 x_3)) x_2).asInt = (↑x_1
: Int) → False) → ((-9223372036854775808 : Int) ≤ (↑x_3 : Int) + (1 : Int) ∧ (↑x_3 : Int) + (1 : Int) < (9223372036854775808 : Int)) ∧ ∃ (y : Nat), y.le x ∧ x - y < x - x_3 ∧ ((↑x_3 : Int) + (1 : Int)
= (↑y : Int) ∧ True) ∧ rowN x (midL x (nearN sh a b) k.toNat x_1 x_2 x_3) = rowN x (midL x (nearN sh a b) k.toNat x_1 x_2 y) ∧ True)) ∧ (((↑x_3 : Int) < sizeZ sh a b → False) → ((-9223372036854775808
: Int) ≤ (↑x_2 : Int) + (1 : Int) ∧ (↑x_2 : Int) + (1 : Int) < (9223372036854775808 : Int)) ∧ ∃ (y : Nat), y.le x ∧ x - y < x - x_2 ∧ ((↑x_2 : Int) + (1 : Int) = (↑y : Int) ∧ True) ∧ rowN x (midL x
(nearN sh a b) k.toNat x_1 x_2 x_3) = rowN x (midL x (nearN sh a b) k.toNat x_1 y (0 : Nat)) ∧ True)) ∧ (((↑x_2 : Int) < sizeZ sh a b → False) → ((-9223372036854775808 : Int) ≤ (↑x_1 : Int) + (1 :
Int) ∧ (↑x_1 : Int) + (1 : Int) < (9223372036854775808 : Int)) ∧ ∃ (y : Nat), y.le x ∧ x - y < x - x_1 ∧ ((↑x_1 : Int) + (1 : Int) = (↑y : Int) ∧ True) ∧ rowN x (midL x (nearN sh a b) k.toNat x_1 x_2
(0 : Nat)) = rowN x (midL x (nearN sh a b) k.toNat y (0 : Nat) (0 : Nat)) ∧ True)) ∧ (((↑x_1 : Int) < sizeZ sh a b → False) → Q x x_1)))
theorem scan_cond (sh a b k : Int) (hk : inTab sh a b k) (Q : Nat → Nat → Prop) (hQ : Q (sizeZ sh a b).toNat (sizeZ sh a b).toNat) : ScanC sh a b k Q := by
 unfold ScanC
 have hs := size_cases hk.out.1
 have hk' := hk.out.2
 have h24 : 0 < sizeZ sh a b ∧ sizeZ sh a b ≤ 24 := by omega
 obtain ⟨n, hn⟩ : ∃ n : Nat, sizeZ sh a b = n := ⟨(sizeZ sh a b).toNat, by omega⟩
 have hT : ∀ m : Nat, m < n → inTab sh a b m := fun m hm => ⟨hk.out.1, by omega, by omega⟩
 have hnt : (sizeZ sh a b).toNat = n := by omega
 rw [hnt] at hQ
 simp only [imp_false]
 rw [hnt]
 have cg : ∀ {L L' : Nat → Int}, (∀ m, m < n → L m = L' m) → rowN n L = rowN n L' := fun h => by
  unfold rowN
  apply List.map_congr_left
  intro m hm
  rw [h m (List.mem_range.1 hm)]
 have hLIM : ∀ m : Nat, m ≤ 24 → m < LIM := fun m h => by unfold LIM; omega
 refine ⟨trivial, .inl ⟨0, rfl, (by simp)⟩, ?_, ?_⟩
 ·intro x hx
  subst hx
  refine ⟨hLIM _ (by omega), fun _ => ⟨by simp, by omega, by omega, .inr ⟨1, ⟨by omega, by omega⟩, by omega, (by simp), rfl, trivial⟩⟩, fun h => by omega⟩
 ·intro x hx
  obtain ⟨hx0, hx1⟩ := hx
  refine ⟨hLIM _ (by omega), fun hlt => ⟨by simp, by rw [len_rowN]; omega, by omega, by omega, .inr ⟨x + 1, ⟨by omega, by omega⟩, by omega, (by simp), ?_, trivial⟩⟩, fun hge => ?_⟩
  ·rw [List.take_of_length_le (by rw [len_rowN]; omega)]
   unfold rowN
   rw [List.range_succ, List.map_append]; rfl
  ·have hxn : x = n := by omega
   subst hxn
   have hkn : k.toNat < x := by omega
   refine ⟨by omega, by omega, by rw [len_rowN]; omega, ⟨0, Nat.zero_le _, (by simp), ?_, trivial⟩, fun d hd => ?_⟩
   ·rw [set_rowN]
    apply cg
    intro m _
    rw [mid_zero]; rfl
   have hd : d ≤ x := hd
   refine ⟨hLIM _ (by omega), fun h1 => ⟨⟨0, Nat.zero_le _, (by simp), rfl, trivial⟩, fun p hp => ?_⟩, fun h1 => ?_⟩
   ·have hp : p ≤ x := hp
    refine ⟨hLIM _ (by omega), fun h2 => ⟨⟨0, Nat.zero_le _, (by simp), rfl, trivial⟩, fun q hq => ?_⟩, fun h2 => ?_⟩
    ·have hq : q ≤ x := hq
     refine ⟨hLIM _ (by omega), fun h3 => ?_, fun h3 => ?_⟩
     ·have hpx : p < x := by omega
      have hqx : q < x := by omega
      have skip : ¬ (midL x (nearN sh a b) k.toNat d p q p = d ∧ midL x (nearN sh a b) k.toNat d p q q < 0 ∧ nearN sh a b p q) → ∃ y : Nat, y.le x ∧ x - y < x - q ∧ ((q : Int) + 1 = (y : Int) ∧ True) ∧ rowN x (midL x (nearN sh a b) k.toNat d p q) = rowN x (midL x (nearN sh a b) k.toNat d p y) ∧ True := fun h =>
       ⟨q + 1, show q + 1 ≤ x by omega, by omega, (by simp), by rw [mid_skip h], trivial⟩
      rw [nth_rowN _ hpx, nth_rowN _ hqx, len_rowN]
      refine ⟨by omega, by omega, by omega, fun e1 => ⟨by omega, by omega, by omega, fun e2 => ⟨⟨hT p hpx, hT q hqx⟩, fun e3 => ⟨by omega, by omega, by omega, by omega, by omega, q + 1, show q + 1 ≤ x by omega, by omega, (by simp), ?_, trivial⟩, fun e3 => ⟨by omega, skip fun h => e3 h.2.2⟩⟩, fun e2 => ⟨by omega, skip fun h => e2 h.2.1⟩⟩, fun e1 => ⟨by omega, skip fun h => e1 h.1⟩⟩
      rw [set_rowN, mid_set hpx e1 e2 e3]
     ·have : q = x := by omega
      subst this
      exact ⟨by omega, p + 1, show p + 1 ≤ q by omega, by omega, (by simp), cg fun m hm => mid_row hm, trivial⟩
    ·have : p = x := by omega
     subst this
     exact ⟨by omega, d + 1, show d + 1 ≤ p by omega, by omega, (by simp), cg fun m _ => mid_lvl, trivial⟩
   ·have : d = x := by omega
    subst this
    exact hQ
theorem vc134 : ∀ (nm : List UInt8) (sh a b : Int) (o : D) (x y k : Int), symFun (ctx rf2 rfAnn) 4 (134 : FuncId) [V.agg [V.str nm, V.int IntKind.u8 sh, V.int IntKind.i64 a, V.int IntKind.i64 b, V.dat (29 : TypeId) o,
V.int IntKind.i64 x, V.int IntKind.i64 y], V.int IntKind.i64 k] (V.dat (29 : TypeId) (D.list (distRow (sizeZ sh a b).toNat sh a b k))) = ScanC sh a b k (fun x d => 0 + x ≤ (rowN x (midL x (nearN sh a b) k.toNat d 0
0)).length ∧ D.list (List.take x (rowN x (midL x (nearN sh a b) k.toNat d 0 0))) = D.list (distRow (sizeZ sh a b).toNat sh a b k)) := by intros; kernel_rfl
theorem vc132 : ∀ (nm : List UInt8) (sh a b : Int) (o : D) (x y : Int), symFun (ctx rf2 rfAnn) 6 (132 : FuncId) [V.agg [V.str nm, V.int IntKind.u8 sh, V.int IntKind.i64 a, V.int IntKind.i64 b, V.dat (29 : TypeId) o,
V.int IntKind.i64 x, V.int IntKind.i64 y]] (V.dat (29 : TypeId) (D.list (levelRow sh a b))) = ((sizeZ sh a b = 0 → False) ∧ ScanC sh a b (honZ sh a b) (fun x d => (∃ (x_2 : Nat), x_2.le (rowN x (midL x (nearN sh a b)
(honZ sh a b).toNat d 0 0)).length ∧ (0 = (x_2 : Int) ∧ True) ∧ rowN x (midL x (nearN sh a b) (honZ sh a b).toNat d 0 0) = fixR (rowN x (midL x (nearN sh a b) (honZ sh a b).toNat d 0 0)) x_2 ∧ True) ∧ ∀ (x_2 : Nat),
x_2.le (rowN x (midL x (nearN sh a b) (honZ sh a b).toNat d 0 0)).length → (rowN x (midL x (nearN sh a b) (honZ sh a b).toNat d 0 0)).length - x_2 < LIM ∧ ((x_2 : Int) < (x : Int) → 0 ≤ (x_2 : Int) ∧ (x_2 : Int) < (x :
Int) ∧ x_2 < (fixR (rowN x (midL x (nearN sh a b) (honZ sh a b).toNat d 0 0)) x_2).length ∧ ((nthD (fixR (rowN x (midL x (nearN sh a b) (honZ sh a b).toNat d 0 0)) x_2) x_2).asInt < 0 → 0 ≤ (x_2 : Int) ∧ (x_2 : Int) < (x
: Int) ∧ x_2 < (fixR (rowN x (midL x (nearN sh a b) (honZ sh a b).toNat d 0 0)) x_2).length ∧ ((-9223372036854775808) ≤ (x_2 : Int) + 1 ∧ (x_2 : Int) + 1 < 9223372036854775808) ∧ ∃ (y : Nat), y.le (rowN x (midL x (nearN
sh a b) (honZ sh a b).toNat d 0 0)).length ∧ (rowN x (midL x (nearN sh a b) (honZ sh a b).toNat d 0 0)).length - y < (rowN x (midL x (nearN sh a b) (honZ sh a b).toNat d 0 0)).length - x_2 ∧ ((x_2 : Int) + 1 = (y : Int)
∧ True) ∧ (fixR (rowN x (midL x (nearN sh a b) (honZ sh a b).toNat d 0 0)) x_2).set x_2 (D.int (x : Int)) = fixR (rowN x (midL x (nearN sh a b) (honZ sh a b).toNat d 0 0)) y ∧ True) ∧ (((nthD (fixR (rowN x (midL x (nearN
sh a b) (honZ sh a b).toNat d 0 0)) x_2) x_2).asInt < 0 → False) → ((-9223372036854775808) ≤ (x_2 : Int) + 1 ∧ (x_2 : Int) + 1 < 9223372036854775808) ∧ ∃ (y : Nat), y.le (rowN x (midL x (nearN sh a b) (honZ sh a b).toNat
d 0 0)).length ∧ (rowN x (midL x (nearN sh a b) (honZ sh a b).toNat d 0 0)).length - y < (rowN x (midL x (nearN sh a b) (honZ sh a b).toNat d 0 0)).length - x_2 ∧ ((x_2 : Int) + 1 = (y : Int) ∧ True) ∧ fixR (rowN x (midL
x (nearN sh a b) (honZ sh a b).toNat d 0 0)) x_2 = fixR (rowN x (midL x (nearN sh a b) (honZ sh a b).toNat d 0 0)) y ∧ True)) ∧ (((x_2 : Int) < (x : Int) → False) → 0 + x ≤ (fixR (rowN x (midL x (nearN sh a b) (honZ sh a
b).toNat d 0 0)) x_2).length ∧ D.list (List.take x (fixR (rowN x (midL x (nearN sh a b) (honZ sh a b).toNat d 0 0)) x_2)) = D.list (levelRow sh a b)))) := by intros; kernel_rfl
theorem mid_dist {sh a b k : Int} (hk : inTab sh a b k) : rowN (sizeZ sh a b).toNat (midL (sizeZ sh a b).toNat (nearN sh a b) k.toNat (sizeZ sh a b).toNat 0 0) = distRow (sizeZ sh a b).toNat sh a b k := by
 have hk' := hk.out.2
 unfold distRow rowN
 apply List.map_congr_left
 intro m hm
 rw [mid_end (by omega) (List.mem_range.1 hm)]
theorem s134 (nm : List UInt8) (sh a b : Int) (o : D) (x y k : Int) (hk : inTab sh a b k) : symFun (ctx rf2 rfAnn) 4 134 [.agg [.str nm, .int .u8 sh, .int .i64 a, .int .i64 b, .dat 29 o, .int .i64 x, .int .i64 y], .int .i64 k] (.dat 29 (.list (distRow (sizeZ sh a b).toNat sh a b k))) := by
 rw [vc134]
 refine scan_cond sh a b k hk _ ?_
 refine ⟨by rw [len_rowN]; omega, ?_⟩
 rw [List.take_of_length_le (by rw [len_rowN]; omega), mid_dist hk]
theorem s132 (nm : List UInt8) (sh a b : Int) (o : D) (x y : Int) (h0 : sizeZ sh a b ≠ 0) : symFun (ctx rf2 rfAnn) 6 132 [.agg [.str nm, .int .u8 sh, .int .i64 a, .int .i64 b, .dat 29 o, .int .i64 x, .int .i64 y]] (.dat 29 (.list (levelRow sh a b))) := by
 have hk := hon_in h0
 have hs := size_cases h0
 rw [vc132]
 refine ⟨h0, scan_cond sh a b (honZ sh a b) hk _ ?_⟩
 rw [mid_dist hk, len_dist]
 have hr : (distRow (sizeZ sh a b).toNat sh a b (honZ sh a b)).length = (sizeZ sh a b).toNat := len_dist _ _ _ _ _
 have hlv : levelRow sh a b = fixR (distRow (sizeZ sh a b).toNat sh a b (honZ sh a b)) (sizeZ sh a b).toNat := rfl
 rw [hlv]
 generalize distRow (sizeZ sh a b).toNat sh a b (honZ sh a b) = R at *
 generalize hN : (sizeZ sh a b).toNat = N at *
 have h24 : N ≤ 24 := by omega
 clear hlv hk h0
 refine ⟨⟨0, Nat.zero_le _, ⟨rfl, trivial⟩, by simp [fixR], trivial⟩, fun z hz => ?_⟩
 have hz : z ≤ N := hz
 have hl : (fixR R z).length = N := by rw [len_fixR (by omega), hr]
 refine ⟨by unfold LIM; omega, fun hlt => ⟨by omega, hlt, by omega, fun hneg => ⟨by omega, hlt, by omega, by omega, z + 1, show z + 1 ≤ N by omega, by omega, ⟨rfl, trivial⟩, ?_, trivial⟩, fun hneg => ⟨by omega, z + 1, show z + 1 ≤ N by omega, by omega, ⟨rfl, trivial⟩, ?_, trivial⟩⟩, fun hge => ⟨by omega, ?_⟩⟩
 ·rw [nth_fixR (by omega)] at hneg
  have := fixR_neg (row := R) (x := z) (by omega) hneg
  rw [hr] at this; exact this
 ·rw [nth_fixR (by omega)] at hneg
  exact fixR_pos (by omega) hneg
 ·have hge : ¬ ((z : Int) < (N : Int)) := hge
  have e : z = N := by omega
  subst e
  rw [List.take_of_length_le (by omega)]
theorem v134 : ∀ d, 49 ≤ d → VC d 134 con134 := fun d hd =>
 valid_of_sym (C := ctx rf2 rfAnn) (G := GC) (B := 45) (m := 4) rfl rfl rfl vf2 (fun us p r hc hp ht => by
  unfold con134 at hc; split at hc
  ·cases hc; exact s134 _ _ _ _ _ _ _ _ hp
  ·cases hc) (fun _ _ => rfl) rfl rfl d hd
theorem v132 : ∀ d, 51 ≤ d → VC d 132 con132 := fun d hd =>
 valid_of_sym (C := ctx rf2 rfAnn) (G := GC) (B := 45) (m := 6) rfl rfl rfl vf2 (fun us p r hc hp ht => by
  unfold con132 at hc; split at hc
  ·cases hc; exact s132 _ _ _ _ _ _ _ hp
  ·cases hc) (fun _ _ => rfl) rfl rfl d hd
end Go.Ev

end

section
open Go.Proofs
namespace Go.Ev
set_option maxRecDepth 100000
set_option maxHeartbeats 4000000
theorem c_ok (l : D) : okHall (copyD l) = okHall l := propext ⟨fun h => ⟨by have := h.out; rw [c_bad] at this; exact this⟩, fun h => ⟨by rw [c_bad]; exact h.out⟩⟩
end Go.Ev

end

section
open Go.Proofs
namespace Go.Ev
set_option maxRecDepth 100000
set_option maxHeartbeats 4000000
theorem vc48 : ∀ (a b : D), symFun (ctx rh1 honAnn) 4 (48 : FuncId) [V.dat (48 : TypeId) a, V.dat (48 : TypeId) b] (V.prop (eqDD a b)) = ((((a.len : Int) = (b.len : Int) → False) → (false = true ↔ eqDD a b)) ∧ ((((a.len
: Int) = (b.len : Int) → False) → False) → (∃ (x : Nat), (x ≤ a.len ∧ ∀ (i : Nat), i < x → (el a i).len = (el b i).len ∧ ∀ (i_1 : Nat), i_1 < (el a i).len → atI (el a i) i_1 = atI (el b i) i_1) ∧ (0 = (x : Int) ∧ True) ∧
True) ∧ ∀ (x : Nat), (x ≤ a.len ∧ ∀ (i : Nat), i < x → (el a i).len = (el b i).len ∧ ∀ (i_1 : Nat), i_1 < (el a i).len → atI (el a i) i_1 = atI (el b i) i_1) → a.len - x < LIM ∧ ((x : Int) < (a.len : Int) → 0 ≤ (x : Int)
∧ (x : Int) < (a.len : Int) ∧ 0 ≤ (x : Int) ∧ (x : Int) < (b.len : Int) ∧ (el a x).len ≤ 100 ∧ ((((el a x).len = (el b x).len ∧ ∀ (i : Nat), i < (el a x).len → atI (el a x) i = atI (el b x) i) → False) → (false = true ↔
eqDD a b)) ∧ (((((el a x).len = (el b x).len ∧ ∀ (i : Nat), i < (el a x).len → atI (el a x) i = atI (el b x) i) → False) → False) → ((-9223372036854775808) ≤ (x : Int) + 1 ∧ (x : Int) + 1 < 9223372036854775808) ∧ ∃ (y :
Nat), (y ≤ a.len ∧ ∀ (i : Nat), i < y → (el a i).len = (el b i).len ∧ ∀ (i_1 : Nat), i_1 < (el a i).len → atI (el a i) i_1 = atI (el b i) i_1) ∧ a.len - y < a.len - x ∧ ((x : Int) + 1 = (y : Int) ∧ True) ∧ True)) ∧ (((x
: Int) < (a.len : Int) → False) → (true = true ↔ eqDD a b)))) := by intros; kernel_rfl
theorem vc73 : ∀ (l : D) (t : Int), symFun (ctx rh1 honAnn) 4 (73 : FuncId) [V.dat (22 : TypeId) l, V.int IntKind.i64 t] (V.dat (29 : TypeId) (D.list (hoL (el l t.toNat) (sumZ l t.toNat) (dN (el l t.toNat) + 1)))) = (0 ≤
t ∧ t < (l.len : Int) ∧ (sizeT' (el l t.toNat) = 0 → False) ∧ ((∃ (x : Nat), (x ≤ dN (el l t.toNat) + 1 ∧ hoL (el l t.toNat) (sumZ l t.toNat) x = []) ∧ (0 = (x : Int) ∧ True ∧ True) ∧ True) ∨ ∃ (x : Nat), (x ≤ dN (el l
t.toNat) + 1 ∧ (hoL (el l t.toNat) (sumZ l t.toNat) x = [] → False)) ∧ (0 = (x : Int) ∧ False ∧ True) ∧ False ∧ True) ∧ (∀ (x : Nat), x ≤ dN (el l t.toNat) + 1 ∧ hoL (el l t.toNat) (sumZ l t.toNat) x = [] → dN (el l
t.toNat) + 1 - x < LIM ∧ ((x : Int) ≤ (↑(levelRow (tShape (el l t.toNat)) (tA (el l t.toNat)) (tB (el l t.toNat))).length : Int) → ((∃ (x_1 : Nat), (x_1 ≤ dN (el l t.toNat) ∧ hoX (el l t.toNat) (sumZ l t.toNat) x x_1 =
[]) ∧ (0 = (x_1 : Int) ∧ True ∧ True) ∧ True) ∨ ∃ (x_1 : Nat), (x_1 ≤ dN (el l t.toNat) ∧ (hoX (el l t.toNat) (sumZ l t.toNat) x x_1 = [] → False)) ∧ (0 = (x_1 : Int) ∧ False ∧ True) ∧ False ∧ True) ∧ (∀ (x_1 : Nat), x_1
≤ dN (el l t.toNat) ∧ hoX (el l t.toNat) (sumZ l t.toNat) x x_1 = [] → dN (el l t.toNat) - x_1 < LIM ∧ ((x_1 : Int) < (↑(levelRow (tShape (el l t.toNat)) (tA (el l t.toNat)) (tB (el l t.toNat))).length : Int) → 0 ≤ (x_1
: Int) ∧ (x_1 : Int) < (↑(levelRow (tShape (el l t.toNat)) (tA (el l t.toNat)) (tB (el l t.toNat))).length : Int) ∧ ((nthD (levelRow (tShape (el l t.toNat)) (tA (el l t.toNat)) (tB (el l t.toNat))) x_1).asInt = (x : Int)
→ (0 ≤ t ∧ t ≤ (l.len : Int) ∧ l.len ≤ 100) ∧ ((-9223372036854775808) ≤ sumZ l t.toNat + (x_1 : Int) ∧ sumZ l t.toNat + (x_1 : Int) < 9223372036854775808) ∧ 0 + 1 ≤ [D.int (sumZ l t.toNat + (x_1 : Int))].length ∧ (1 :
Nat) ≤ 16777216 ∧ ((-9223372036854775808) ≤ (x_1 : Int) + 1 ∧ (x_1 : Int) + 1 < 9223372036854775808) ∧ ((∃ (y : Nat), (y ≤ dN (el l t.toNat) ∧ hoX (el l t.toNat) (sumZ l t.toNat) x y = []) ∧ dN (el l t.toNat) - y < dN
(el l t.toNat) - x_1 ∧ ((x_1 : Int) + 1 = (y : Int) ∧ False ∧ True) ∧ True) ∨ ∃ (y : Nat), (y ≤ dN (el l t.toNat) ∧ (hoX (el l t.toNat) (sumZ l t.toNat) x y = [] → False)) ∧ dN (el l t.toNat) - y < dN (el l t.toNat) -
x_1 ∧ ((x_1 : Int) + 1 = (y : Int) ∧ ((0 : Nat) = 0 ∧ 1 = (hoX (el l t.toNat) (sumZ l t.toNat) x y).length ∧ True) ∧ True) ∧ List.take 1 [D.int (sumZ l t.toNat + (x_1 : Int))] = hoX (el l t.toNat) (sumZ l t.toNat) x y ∧
True)) ∧ (((nthD (levelRow (tShape (el l t.toNat)) (tA (el l t.toNat)) (tB (el l t.toNat))) x_1).asInt = (x : Int) → False) → ((-9223372036854775808) ≤ (x_1 : Int) + 1 ∧ (x_1 : Int) + 1 < 9223372036854775808) ∧ ((∃ (y :
Nat), (y ≤ dN (el l t.toNat) ∧ hoX (el l t.toNat) (sumZ l t.toNat) x y = []) ∧ dN (el l t.toNat) - y < dN (el l t.toNat) - x_1 ∧ ((x_1 : Int) + 1 = (y : Int) ∧ True ∧ True) ∧ True) ∨ ∃ (y : Nat), (y ≤ dN (el l t.toNat) ∧
(hoX (el l t.toNat) (sumZ l t.toNat) x y = [] → False)) ∧ dN (el l t.toNat) - y < dN (el l t.toNat) - x_1 ∧ ((x_1 : Int) + 1 = (y : Int) ∧ False ∧ True) ∧ False ∧ True))) ∧ (((x_1 : Int) < (↑(levelRow (tShape (el l
t.toNat)) (tA (el l t.toNat)) (tB (el l t.toNat))).length : Int) → False) → ((-9223372036854775808) ≤ (x : Int) + 1 ∧ (x : Int) + 1 < 9223372036854775808) ∧ ((∃ (y : Nat), (y ≤ dN (el l t.toNat) + 1 ∧ hoL (el l t.toNat)
(sumZ l t.toNat) y = []) ∧ dN (el l t.toNat) + 1 - y < dN (el l t.toNat) + 1 - x ∧ ((x : Int) + 1 = (y : Int) ∧ True ∧ True) ∧ True) ∨ ∃ (y : Nat), (y ≤ dN (el l t.toNat) + 1 ∧ (hoL (el l t.toNat) (sumZ l t.toNat) y = []
→ False)) ∧ dN (el l t.toNat) + 1 - y < dN (el l t.toNat) + 1 - x ∧ ((x : Int) + 1 = (y : Int) ∧ False ∧ True) ∧ False ∧ True))) ∧ ∀ (x_1 : Nat), x_1 ≤ dN (el l t.toNat) ∧ (hoX (el l t.toNat) (sumZ l t.toNat) x x_1 = []
→ False) → dN (el l t.toNat) - x_1 < LIM ∧ ((x_1 : Int) < (↑(levelRow (tShape (el l t.toNat)) (tA (el l t.toNat)) (tB (el l t.toNat))).length : Int) → 0 ≤ (x_1 : Int) ∧ (x_1 : Int) < (↑(levelRow (tShape (el l t.toNat))
(tA (el l t.toNat)) (tB (el l t.toNat))).length : Int) ∧ ((nthD (levelRow (tShape (el l t.toNat)) (tA (el l t.toNat)) (tB (el l t.toNat))) x_1).asInt = (x : Int) → (0 ≤ t ∧ t ≤ (l.len : Int) ∧ l.len ≤ 100) ∧
((-9223372036854775808) ≤ sumZ l t.toNat + (x_1 : Int) ∧ sumZ l t.toNat + (x_1 : Int) < 9223372036854775808) ∧ 0 + 1 ≤ [D.int (sumZ l t.toNat + (x_1 : Int))].length ∧ 0 + (hoX (el l t.toNat) (sumZ l t.toNat) x
x_1).length ≤ (hoX (el l t.toNat) (sumZ l t.toNat) x x_1).length ∧ (hoX (el l t.toNat) (sumZ l t.toNat) x x_1).length + 1 ≤ 16777216 ∧ ((-9223372036854775808) ≤ (x_1 : Int) + 1 ∧ (x_1 : Int) + 1 < 9223372036854775808) ∧
((∃ (y : Nat), (y ≤ dN (el l t.toNat) ∧ hoX (el l t.toNat) (sumZ l t.toNat) x y = []) ∧ dN (el l t.toNat) - y < dN (el l t.toNat) - x_1 ∧ ((x_1 : Int) + 1 = (y : Int) ∧ False ∧ True) ∧ True) ∨ ∃ (y : Nat), (y ≤ dN (el l
t.toNat) ∧ (hoX (el l t.toNat) (sumZ l t.toNat) x y = [] → False)) ∧ dN (el l t.toNat) - y < dN (el l t.toNat) - x_1 ∧ ((x_1 : Int) + 1 = (y : Int) ∧ ((0 : Nat) = 0 ∧ (hoX (el l t.toNat) (sumZ l t.toNat) x x_1).length +
1 = (hoX (el l t.toNat) (sumZ l t.toNat) x y).length ∧ True) ∧ True) ∧ List.take (hoX (el l t.toNat) (sumZ l t.toNat) x x_1).length (hoX (el l t.toNat) (sumZ l t.toNat) x x_1) ++ List.take 1 [D.int (sumZ l t.toNat + (x_1
: Int))] = hoX (el l t.toNat) (sumZ l t.toNat) x y ∧ True)) ∧ (((nthD (levelRow (tShape (el l t.toNat)) (tA (el l t.toNat)) (tB (el l t.toNat))) x_1).asInt = (x : Int) → False) → ((-9223372036854775808) ≤ (x_1 : Int) + 1
∧ (x_1 : Int) + 1 < 9223372036854775808) ∧ ((∃ (y : Nat), (y ≤ dN (el l t.toNat) ∧ hoX (el l t.toNat) (sumZ l t.toNat) x y = []) ∧ dN (el l t.toNat) - y < dN (el l t.toNat) - x_1 ∧ ((x_1 : Int) + 1 = (y : Int) ∧ False ∧
True) ∧ True) ∨ ∃ (y : Nat), (y ≤ dN (el l t.toNat) ∧ (hoX (el l t.toNat) (sumZ l t.toNat) x y = [] → False)) ∧ dN (el l t.toNat) - y < dN (el l t.toNat) - x_1 ∧ ((x_1 : Int) + 1 = (y : Int) ∧ ((0 : Nat) = 0 ∧ (hoX (el l
t.toNat) (sumZ l t.toNat) x x_1).length = (hoX (el l t.toNat) (sumZ l t.toNat) x y).length ∧ True) ∧ True) ∧ hoX (el l t.toNat) (sumZ l t.toNat) x x_1 = hoX (el l t.toNat) (sumZ l t.toNat) x y ∧ True))) ∧ (((x_1 : Int) <
(↑(levelRow (tShape (el l t.toNat)) (tA (el l t.toNat)) (tB (el l t.toNat))).length : Int) → False) → ((-9223372036854775808) ≤ (x : Int) + 1 ∧ (x : Int) + 1 < 9223372036854775808) ∧ ((∃ (y : Nat), (y ≤ dN (el l t.toNat)
+ 1 ∧ hoL (el l t.toNat) (sumZ l t.toNat) y = []) ∧ dN (el l t.toNat) + 1 - y < dN (el l t.toNat) + 1 - x ∧ ((x : Int) + 1 = (y : Int) ∧ False ∧ True) ∧ True) ∨ ∃ (y : Nat), (y ≤ dN (el l t.toNat) + 1 ∧ (hoL (el l
t.toNat) (sumZ l t.toNat) y = [] → False)) ∧ dN (el l t.toNat) + 1 - y < dN (el l t.toNat) + 1 - x ∧ ((x : Int) + 1 = (y : Int) ∧ ((0 : Nat) = 0 ∧ (hoX (el l t.toNat) (sumZ l t.toNat) x x_1).length = (hoL (el l t.toNat)
(sumZ l t.toNat) y).length ∧ True) ∧ True) ∧ hoX (el l t.toNat) (sumZ l t.toNat) x x_1 = hoL (el l t.toNat) (sumZ l t.toNat) y ∧ True))) ∧ (((x : Int) ≤ (↑(levelRow (tShape (el l t.toNat)) (tA (el l t.toNat)) (tB (el l
t.toNat))).length : Int) → False) → D.nil = D.list (hoL (el l t.toNat) (sumZ l t.toNat) (dN (el l t.toNat) + 1)))) ∧ ∀ (x : Nat), x ≤ dN (el l t.toNat) + 1 ∧ (hoL (el l t.toNat) (sumZ l t.toNat) x = [] → False) → dN (el
l t.toNat) + 1 - x < LIM ∧ ((x : Int) ≤ (↑(levelRow (tShape (el l t.toNat)) (tA (el l t.toNat)) (tB (el l t.toNat))).length : Int) → ((∃ (x_1 : Nat), (x_1 ≤ dN (el l t.toNat) ∧ hoX (el l t.toNat) (sumZ l t.toNat) x x_1 =
[]) ∧ (0 = (x_1 : Int) ∧ False ∧ True) ∧ True) ∨ ∃ (x_1 : Nat), (x_1 ≤ dN (el l t.toNat) ∧ (hoX (el l t.toNat) (sumZ l t.toNat) x x_1 = [] → False)) ∧ (0 = (x_1 : Int) ∧ ((0 : Nat) = 0 ∧ (hoL (el l t.toNat) (sumZ l
t.toNat) x).length = (hoX (el l t.toNat) (sumZ l t.toNat) x x_1).length ∧ True) ∧ True) ∧ hoL (el l t.toNat) (sumZ l t.toNat) x = hoX (el l t.toNat) (sumZ l t.toNat) x x_1 ∧ True) ∧ (∀ (x_1 : Nat), x_1 ≤ dN (el l
t.toNat) ∧ hoX (el l t.toNat) (sumZ l t.toNat) x x_1 = [] → dN (el l t.toNat) - x_1 < LIM ∧ ((x_1 : Int) < (↑(levelRow (tShape (el l t.toNat)) (tA (el l t.toNat)) (tB (el l t.toNat))).length : Int) → 0 ≤ (x_1 : Int) ∧
(x_1 : Int) < (↑(levelRow (tShape (el l t.toNat)) (tA (el l t.toNat)) (tB (el l t.toNat))).length : Int) ∧ ((nthD (levelRow (tShape (el l t.toNat)) (tA (el l t.toNat)) (tB (el l t.toNat))) x_1).asInt = (x : Int) → (0 ≤ t
∧ t ≤ (l.len : Int) ∧ l.len ≤ 100) ∧ ((-9223372036854775808) ≤ sumZ l t.toNat + (x_1 : Int) ∧ sumZ l t.toNat + (x_1 : Int) < 9223372036854775808) ∧ 0 + 1 ≤ [D.int (sumZ l t.toNat + (x_1 : Int))].length ∧ (1 : Nat) ≤
16777216 ∧ ((-9223372036854775808) ≤ (x_1 : Int) + 1 ∧ (x_1 : Int) + 1 < 9223372036854775808) ∧ ((∃ (y : Nat), (y ≤ dN (el l t.toNat) ∧ hoX (el l t.toNat) (sumZ l t.toNat) x y = []) ∧ dN (el l t.toNat) - y < dN (el l
t.toNat) - x_1 ∧ ((x_1 : Int) + 1 = (y : Int) ∧ False ∧ True) ∧ True) ∨ ∃ (y : Nat), (y ≤ dN (el l t.toNat) ∧ (hoX (el l t.toNat) (sumZ l t.toNat) x y = [] → False)) ∧ dN (el l t.toNat) - y < dN (el l t.toNat) - x_1 ∧
((x_1 : Int) + 1 = (y : Int) ∧ ((0 : Nat) = 0 ∧ 1 = (hoX (el l t.toNat) (sumZ l t.toNat) x y).length ∧ True) ∧ True) ∧ List.take 1 [D.int (sumZ l t.toNat + (x_1 : Int))] = hoX (el l t.toNat) (sumZ l t.toNat) x y ∧ True))
∧ (((nthD (levelRow (tShape (el l t.toNat)) (tA (el l t.toNat)) (tB (el l t.toNat))) x_1).asInt = (x : Int) → False) → ((-9223372036854775808) ≤ (x_1 : Int) + 1 ∧ (x_1 : Int) + 1 < 9223372036854775808) ∧ ((∃ (y : Nat),
(y ≤ dN (el l t.toNat) ∧ hoX (el l t.toNat) (sumZ l t.toNat) x y = []) ∧ dN (el l t.toNat) - y < dN (el l t.toNat) - x_1 ∧ ((x_1 : Int) + 1 = (y : Int) ∧ True ∧ True) ∧ True) ∨ ∃ (y : Nat), (y ≤ dN (el l t.toNat) ∧ (hoX
(el l t.toNat) (sumZ l t.toNat) x y = [] → False)) ∧ dN (el l t.toNat) - y < dN (el l t.toNat) - x_1 ∧ ((x_1 : Int) + 1 = (y : Int) ∧ False ∧ True) ∧ hoL (el l t.toNat) (sumZ l t.toNat) x = hoX (el l t.toNat) (sumZ l
t.toNat) x y ∧ True))) ∧ (((x_1 : Int) < (↑(levelRow (tShape (el l t.toNat)) (tA (el l t.toNat)) (tB (el l t.toNat))).length : Int) → False) → ((-9223372036854775808) ≤ (x : Int) + 1 ∧ (x : Int) + 1 <
9223372036854775808) ∧ ((∃ (y : Nat), (y ≤ dN (el l t.toNat) + 1 ∧ hoL (el l t.toNat) (sumZ l t.toNat) y = []) ∧ dN (el l t.toNat) + 1 - y < dN (el l t.toNat) + 1 - x ∧ ((x : Int) + 1 = (y : Int) ∧ True ∧ True) ∧ True) ∨
∃ (y : Nat), (y ≤ dN (el l t.toNat) + 1 ∧ (hoL (el l t.toNat) (sumZ l t.toNat) y = [] → False)) ∧ dN (el l t.toNat) + 1 - y < dN (el l t.toNat) + 1 - x ∧ ((x : Int) + 1 = (y : Int) ∧ False ∧ True) ∧ hoL (el l t.toNat)
(sumZ l t.toNat) x = hoL (el l t.toNat) (sumZ l t.toNat) y ∧ True))) ∧ ∀ (x_1 : Nat), x_1 ≤ dN (el l t.toNat) ∧ (hoX (el l t.toNat) (sumZ l t.toNat) x x_1 = [] → False) → dN (el l t.toNat) - x_1 < LIM ∧ ((x_1 : Int) <
(↑(levelRow (tShape (el l t.toNat)) (tA (el l t.toNat)) (tB (el l t.toNat))).length : Int) → 0 ≤ (x_1 : Int) ∧ (x_1 : Int) < (↑(levelRow (tShape (el l t.toNat)) (tA (el l t.toNat)) (tB (el l t.toNat))).length : Int) ∧
((nthD (levelRow (tShape (el l t.toNat)) (tA (el l t.toNat)) (tB (el l t.toNat))) x_1).asInt = (x : Int) → (0 ≤ t ∧ t ≤ (l.len : Int) ∧ l.len ≤ 100) ∧ ((-9223372036854775808) ≤ sumZ l t.toNat + (x_1 : Int) ∧ sumZ l
t.toNat + (x_1 : Int) < 9223372036854775808) ∧ 0 + 1 ≤ [D.int (sumZ l t.toNat + (x_1 : Int))].length ∧ 0 + (hoX (el l t.toNat) (sumZ l t.toNat) x x_1).length ≤ (hoX (el l t.toNat) (sumZ l t.toNat) x x_1).length ∧ (hoX
(el l t.toNat) (sumZ l t.toNat) x x_1).length + 1 ≤ 16777216 ∧ ((-9223372036854775808) ≤ (x_1 : Int) + 1 ∧ (x_1 : Int) + 1 < 9223372036854775808) ∧ ((∃ (y : Nat), (y ≤ dN (el l t.toNat) ∧ hoX (el l t.toNat) (sumZ l
t.toNat) x y = []) ∧ dN (el l t.toNat) - y < dN (el l t.toNat) - x_1 ∧ False) ∨ ∃ (y : Nat), (y ≤ dN (el l t.toNat) ∧ (hoX (el l t.toNat) (sumZ l t.toNat) x y = [] → False)) ∧ dN (el l t.toNat) - y < dN (el l t.toNat) -
x_1 ∧ ((x_1 : Int) + 1 = (y : Int) ∧ ((0 : Nat) = 0 ∧ (hoX (el l t.toNat) (sumZ l t.toNat) x x_1).length + 1 = (hoX (el l t.toNat) (sumZ l t.toNat) x y).length ∧ True) ∧ True) ∧ List.take (hoX (el l t.toNat) (sumZ l
t.toNat) x x_1).length (hoX (el l t.toNat) (sumZ l t.toNat) x x_1) ++ List.take 1 [D.int (sumZ l t.toNat + (x_1 : Int))] = hoX (el l t.toNat) (sumZ l t.toNat) x y ∧ True)) ∧ (((nthD (levelRow (tShape (el l t.toNat)) (tA
(el l t.toNat)) (tB (el l t.toNat))) x_1).asInt = (x : Int) → False) → ((-9223372036854775808) ≤ (x_1 : Int) + 1 ∧ (x_1 : Int) + 1 < 9223372036854775808) ∧ ((∃ (y : Nat), (y ≤ dN (el l t.toNat) ∧ hoX (el l t.toNat) (sumZ
l t.toNat) x y = []) ∧ dN (el l t.toNat) - y < dN (el l t.toNat) - x_1 ∧ False) ∨ ∃ (y : Nat), (y ≤ dN (el l t.toNat) ∧ (hoX (el l t.toNat) (sumZ l t.toNat) x y = [] → False)) ∧ dN (el l t.toNat) - y < dN (el l t.toNat)
- x_1 ∧ ((x_1 : Int) + 1 = (y : Int) ∧ ((0 : Nat) = 0 ∧ (hoX (el l t.toNat) (sumZ l t.toNat) x x_1).length = (hoX (el l t.toNat) (sumZ l t.toNat) x y).length ∧ True) ∧ True) ∧ hoX (el l t.toNat) (sumZ l t.toNat) x x_1 =
hoX (el l t.toNat) (sumZ l t.toNat) x y ∧ True))) ∧ (((x_1 : Int) < (↑(levelRow (tShape (el l t.toNat)) (tA (el l t.toNat)) (tB (el l t.toNat))).length : Int) → False) → ((-9223372036854775808) ≤ (x : Int) + 1 ∧ (x :
Int) + 1 < 9223372036854775808) ∧ ((∃ (y : Nat), (y ≤ dN (el l t.toNat) + 1 ∧ hoL (el l t.toNat) (sumZ l t.toNat) y = []) ∧ dN (el l t.toNat) + 1 - y < dN (el l t.toNat) + 1 - x ∧ ((x : Int) + 1 = (y : Int) ∧ False ∧
True) ∧ True) ∨ ∃ (y : Nat), (y ≤ dN (el l t.toNat) + 1 ∧ (hoL (el l t.toNat) (sumZ l t.toNat) y = [] → False)) ∧ dN (el l t.toNat) + 1 - y < dN (el l t.toNat) + 1 - x ∧ ((x : Int) + 1 = (y : Int) ∧ ((0 : Nat) = 0 ∧ (hoX
(el l t.toNat) (sumZ l t.toNat) x x_1).length = (hoL (el l t.toNat) (sumZ l t.toNat) y).length ∧ True) ∧ True) ∧ hoX (el l t.toNat) (sumZ l t.toNat) x x_1 = hoL (el l t.toNat) (sumZ l t.toNat) y ∧ True))) ∧ (((x : Int) ≤
(↑(levelRow (tShape (el l t.toNat)) (tA (el l t.toNat)) (tB (el l t.toNat))).length : Int) → False) → 0 + (hoL (el l t.toNat) (sumZ l t.toNat) x).length ≤ (hoL (el l t.toNat) (sumZ l t.toNat) x).length ∧ D.list
(List.take (hoL (el l t.toNat) (sumZ l t.toNat) x).length (hoL (el l t.toNat) (sumZ l t.toNat) x)) = D.list (hoL (el l t.toNat) (sumZ l t.toNat) (dN (el l t.toNat) + 1)))) := by intros; kernel_rfl
theorem s48 (a b : D) (h : rows100 a) : symFun (ctx rh1 honAnn) 4 48 [.dat 48 a, .dat 48 b] (.prop (eqDD a b)) := by
 rw [vc48]
 have h100 := h.out.1
 refine ⟨fun g => ⟨fun q => (by cases q), fun q => absurd (by have := q.out.1; omega) g⟩, fun g => ⟨⟨0, ⟨Nat.zero_le _, fun i hi => absurd hi (Nat.not_lt_zero _)⟩, ⟨rfl, trivial⟩, trivial⟩, fun x hx => ⟨by unfold LIM; omega, fun hlt => ?_, fun hge => ?_⟩⟩⟩
 ·have hl : a.len = b.len := by have := Classical.not_not.1 g; omega
  refine ⟨by omega, hlt, by omega, by omega, h.out.2 x (by omega), fun q => ⟨fun r => (by cases r), fun r => absurd (r.out.2 x (by omega)) q⟩, fun q => ⟨by omega, x + 1, ⟨by omega, fun i hi => ?_⟩, by omega, ⟨rfl, trivial⟩, trivial⟩⟩
  rcases Nat.lt_succ_iff_lt_or_eq.1 hi with e | e
  ·exact hx.2 i e
  ·subst e; exact Classical.not_not.1 q
 ·have hge : ¬ (x : Int) < (a.len : Int) := hge
  have hl : a.len = b.len := by have := Classical.not_not.1 g; omega
  exact ⟨fun _ => ⟨hl, fun i hi => hx.2 i (by omega)⟩, fun _ => rfl⟩
theorem lv_val {d : D} {k : Nat} (hk : k < dN d) : lvN d k = if distZ (dN d) (nearN (tShape d) (tA d) (tB d)) (honZ (tShape d) (tA d) (tB d)).toNat k < 0 then (dN d : Int) else distZ (dN d) (nearN (tShape d) (tA d) (tB d)) (honZ (tShape d) (tA d) (tB d)).toNat k := by
 have hl : (distRow (dN d) (tShape d) (tA d) (tB d) (honZ (tShape d) (tA d) (tB d))).length = dN d := len_dist _ _ _ _ _
 have e : levelRow (tShape d) (tA d) (tB d) = (distRow (dN d) (tShape d) (tA d) (tB d) (honZ (tShape d) (tA d) (tB d))).map fun u => if u.asInt < 0 then D.int (dN d) else u := by
  show fixR (distRow (dN d) (tShape d) (tA d) (tB d) (honZ (tShape d) (tA d) (tB d))) (dN d) = _
  unfold fixR
  rw [List.take_of_length_le (by omega), List.drop_eq_nil_of_le (by omega), List.append_nil, hl]
 unfold lvN
 rw [e]
 unfold nthD
 rw [List.getElem?_map, List.getElem?_eq_getElem (by omega)]
 have g : (distRow (dN d) (tShape d) (tA d) (tB d) (honZ (tShape d) (tA d) (tB d)))[k]'(by omega) = D.int (distZ (dN d) (nearN (tShape d) (tA d) (tB d)) (honZ (tShape d) (tA d) (tB d)).toNat k) := by
  rw [← nthD_get _ _ (by omega)]
  unfold distRow rowN
  exact nth_mapR _ _ _ hk
 rw [g]
 simp only [Option.map_some, Option.getD_some]
 generalize distZ (dN d) (nearN (tShape d) (tA d) (tB d)) (honZ (tShape d) (tA d) (tB d)).toNat k = z
 by_cases hz : z < 0
 ·rw [if_pos (show (D.int z).asInt < 0 from hz), if_pos hz]; rfl
 ·rw [if_neg (show ¬ (D.int z).asInt < 0 from hz), if_neg hz]; rfl
theorem lv_range {d : D} {k : Nat} (hk : k < dN d) (hh : (honZ (tShape d) (tA d) (tB d)).toNat < dN d) : 0 ≤ lvN d k ∧ lvN d k ≤ dN d := by
 rw [lv_val hk]
 have := distZ_lt (near := nearN (tShape d) (tA d) (tB d)) hh hk
 split <;> omega
section
variable {d : D} {F : Int}
theorem ho_zero (x : Nat) : hoL d F x = hoX d F x 0 := by simp [hoX, hoP]
theorem ho_full (x : Nat) : hoX d F x (dN d) = hoL d F (x + 1) := rfl
theorem ho_near {x y : Nat} (h : lvN d y = x) : hoX d F x (y + 1) = hoX d F x y ++ [.int (F + y)] := by
 unfold hoX hoP; rw [List.range_succ, List.filter_append, List.map_append]; simp [h]
theorem ho_far {x y : Nat} (h : ¬ lvN d y = x) : hoX d F x (y + 1) = hoX d F x y := by
 unfold hoX hoP; rw [List.range_succ, List.filter_append, List.map_append]; simp [h]
theorem hoP_len (x y : Nat) : (hoP d F x y).length ≤ y := by
 unfold hoP; rw [List.length_map]; exact Nat.le_trans (List.length_filter_le _ _) (by rw [List.length_range]; exact Nat.le_refl _)
theorem hoL_len (h24 : dN d ≤ 24) : ∀ x, (hoL d F x).length ≤ 24 * x
 | 0 => Nat.le_refl 0
 | x + 1 => by
  have ih := hoL_len h24 x
  have := hoP_len (d := d) (F := F) x (dN d)
  show (hoL d F x ++ hoP d F x (dN d)).length ≤ _
  rw [List.length_append]; omega
theorem hoX_len (h24 : dN d ≤ 24) (x y : Nat) : (hoX d F x y).length ≤ 24 * x + y := by
 have := hoL_len (F := F) h24 x
 have := hoP_len (d := d) (F := F) x y
 unfold hoX; rw [List.length_append]; omega
theorem hoL_mem {k x : Nat} (hk : k < dN d) (h0 : 0 ≤ lvN d k) (h1 : lvN d k < x) : hoL d F x ≠ [] := by
 induction x with
 | zero => omega
 | succ x ih =>
  intro h
  have h : hoL d F x ++ hoP d F x (dN d) = [] := h
  obtain ⟨e1, e2⟩ := List.append_eq_nil_iff.1 h
  by_cases g : lvN d k < x
  ·exact ih g e1
  ·have : D.int (F + k) ∈ hoP d F x (dN d) := List.mem_map.2 ⟨k, List.mem_filter.2 ⟨List.mem_range.2 hk, by simp; omega⟩, rfl⟩
   rw [e2] at this; cases this
end
theorem s73 (l : D) (t : Int) (h : tabOK l t) : symFun (ctx rh1 honAnn) 4 73 [.dat 22 l, .int .i64 t] (.dat 29 (.list (hoL (el l t.toNat) (sumZ l t.toNat) (dN (el l t.toNat) + 1)))) := by
 obtain ⟨h0, h1, h100, hz⟩ := h.out
 rw [vc73]
 have hlv : (levelRow (tShape (el l t.toNat)) (tA (el l t.toNat)) (tB (el l t.toNat))).length = dN (el l t.toNat) := len_levelRow _ _ _
 have hr := size_range (el l t.toNat)
 have h24 : dN (el l t.toNat) ≤ 24 := by unfold dN; omega
 have hn0 : 0 < dN (el l t.toNat) := by unfold dN; omega
 have hF := sum_small h100 t.toNat (by omega)
 have hin := hon_in (show sizeZ (tShape (el l t.toNat)) (tA (el l t.toNat)) (tB (el l t.toNat)) ≠ 0 from hz)
 have hh : (honZ (tShape (el l t.toNat)) (tA (el l t.toNat)) (tB (el l t.toNat))).toNat < dN (el l t.toNat) := by
  have := hin.out.2; show _ < (sizeZ _ _ _).toNat; omega
 have hne : hoL (el l t.toNat) (sumZ l t.toNat) (dN (el l t.toNat) + 1) ≠ [] := by
  have := lv_range hn0 hh
  exact hoL_mem hn0 this.1 (by omega)
 have hlvN : ∀ y, (nthD (levelRow (tShape (el l t.toNat)) (tA (el l t.toNat)) (tB (el l t.toNat))) y).asInt = lvN (el l t.toNat) y := fun _ => rfl
 simp only [hlv, hlvN, imp_false]
 generalize sumZ l t.toNat = F at *
 generalize el l t.toNat = d at *
 clear hlvN hlv hin hh
 have hL : ∀ m : Nat, m ≤ 64 → m < LIM := fun m h => by unfold LIM; omega
 refine ⟨h0, h1, hz, .inl ⟨0, ⟨Nat.zero_le _, rfl⟩, ⟨rfl, trivial, trivial⟩, trivial⟩, fun x hx => ⟨hL _ (by omega), fun hle => ?_, fun hgt => ?_⟩, fun x hx => ⟨hL _ (by omega), fun hle => ?_, fun hgt => ?_⟩⟩
 ·refine ⟨.inl ⟨0, ⟨Nat.zero_le _, by rw [← ho_zero]; exact hx.2⟩, ⟨rfl, trivial, trivial⟩, trivial⟩, fun y hy => ⟨hL _ (by omega), fun hly => ?_, fun hgy => ?_⟩, fun y hy => ⟨hL _ (by omega), fun hly => ?_, fun hgy => ?_⟩⟩
  ·refine ⟨by omega, hly, fun hv => ⟨⟨by omega, by omega, h100⟩, by omega, by simp, by omega, by omega, .inr ⟨y + 1, ⟨by omega, ?_⟩, by omega, ⟨by omega, ⟨trivial, ?_, trivial⟩, trivial⟩, ?_, trivial⟩⟩, fun hv => ⟨by omega, .inl ⟨y + 1, ⟨by omega, by rw [ho_far hv]; exact hy.2⟩, by omega, ⟨by omega, trivial, trivial⟩, trivial⟩⟩⟩
   all_goals rw [ho_near hv, hy.2]; simp
  ·have : y = dN d := by omega
   subst this
   exact ⟨by omega, .inl ⟨x + 1, ⟨by omega, by rw [← ho_full]; exact hy.2⟩, by omega, ⟨by omega, trivial, trivial⟩, trivial⟩⟩
  ·have hxl := hoX_len (F := F) h24 x y
   refine ⟨by omega, hly, fun hv => ⟨⟨by omega, by omega, h100⟩, by omega, by simp, by omega, by omega, by omega, .inr ⟨y + 1, ⟨by omega, ?_⟩, by omega, ⟨by omega, ⟨trivial, ?_, trivial⟩, trivial⟩, ?_, trivial⟩⟩, fun hv => ⟨by omega, .inr ⟨y + 1, ⟨by omega, by rw [ho_far hv]; exact hy.2⟩, by omega, ⟨by omega, ⟨trivial, by rw [ho_far hv], trivial⟩, trivial⟩, by rw [ho_far hv], trivial⟩⟩⟩
   all_goals rw [ho_near hv]; simp
  ·have : y = dN d := by omega
   subst this
   exact ⟨by omega, .inr ⟨x + 1, ⟨by omega, by rw [← ho_full]; exact hy.2⟩, by omega, ⟨by omega, ⟨trivial, by rw [← ho_full], trivial⟩, trivial⟩, by rw [← ho_full], trivial⟩⟩
 ·have : x = dN d + 1 := by omega
  subst this
  exact absurd hx.2 hne
 ·refine ⟨.inr ⟨0, ⟨Nat.zero_le _, by rw [← ho_zero]; exact hx.2⟩, ⟨rfl, ⟨trivial, by rw [← ho_zero], trivial⟩, trivial⟩, by rw [← ho_zero], trivial⟩, fun y hy => ?_, fun y hy => ⟨hL _ (by omega), fun hly => ?_, fun hgy => ?_⟩⟩
  ·exact absurd (List.append_eq_nil_iff.1 (show hoL d F x ++ hoP d F x y = [] from hy.2)).1 hx.2
  ·have hxl := hoX_len (F := F) h24 x y
   refine ⟨by omega, hly, fun hv => ⟨⟨by omega, by omega, h100⟩, by omega, by simp, by omega, by omega, by omega, .inr ⟨y + 1, ⟨by omega, ?_⟩, by omega, ⟨by omega, ⟨trivial, ?_, trivial⟩, trivial⟩, ?_, trivial⟩⟩, fun hv => ⟨by omega, .inr ⟨y + 1, ⟨by omega, by rw [ho_far hv]; exact hy.2⟩, by omega, ⟨by omega, ⟨trivial, by rw [ho_far hv], trivial⟩, trivial⟩, by rw [ho_far hv], trivial⟩⟩⟩
   all_goals rw [ho_near hv]; simp
  ·have : y = dN d := by omega
   subst this
   exact ⟨by omega, .inr ⟨x + 1, ⟨by omega, by rw [← ho_full]; exact hy.2⟩, by omega, ⟨by omega, ⟨trivial, by rw [← ho_full], trivial⟩, trivial⟩, by rw [← ho_full], trivial⟩⟩
 ·have : x = dN d + 1 := by omega
  subst this
  exact ⟨by omega, by rw [List.take_length]⟩
end Go.Ev

end
