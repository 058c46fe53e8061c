/-
  Part of the engine that the claim is proved with: it states nothing of the document by itself.
-/
import Derived.Test.YtdcamlgidccamaaGreatDoorCoreRf
open Go.Proofs
namespace Go.Ev
set_option maxRecDepth 100000
set_option maxHeartbeats 4000000
theorem vc165 : ∀ (nm : List UInt8) (sh a b : Int) (o : D) (x y k m : Int), symFun (ctx rf1b rfAnn) 4 (165 : FuncId) [V.agg [V.str nm, V.int IntKind.u8 sh, V.int IntKind.i64 a, V.int IntKind.i64 b, V.dat (29 : TypeId) o,
 V.int IntKind.i64 x, V.int IntKind.i64 y], V.int IntKind.i64 k, V.int IntKind.i64 m] (V.prop (acrossP sh a b k m)) = ((k = m → (false = true ↔ acrossP sh a b k m)) ∧ ((k = m → False) → (sh = 1 → ((2 : Int) = 0 → False) ∧
 (a.tmod 2 = 1 → (false = true ↔ acrossP sh a b k m)) ∧ ((a.tmod 2 = 1 → False) → (∃ (x : Nat), x.le (a.tdiv 2).toNat ∧ (0 = (x : Int) ∧ k = wrapZ a k x ∧ True) ∧ True) ∧ ∀ (x : Nat), x.le (a.tdiv 2).toNat → (a.tdiv
 2).toNat - x < LIM ∧ ((2 : Int) = 0 → False) ∧ ((-9223372036854775808) ≤ a.tdiv 2 ∧ a.tdiv 2 < 9223372036854775808) ∧ ((x : Int) < a.tdiv 2 → (inTab sh a b (wrapZ a k x) ∧ sh = 1) ∧ ((-9223372036854775808) ≤ (x : Int) +
 1 ∧ (x : Int) + 1 < 9223372036854775808) ∧ ∃ (y : Nat), y.le (a.tdiv 2).toNat ∧ (a.tdiv 2).toNat - y < (a.tdiv 2).toNat - x ∧ ((x : Int) + 1 = (y : Int) ∧ nextZ a (wrapZ a k x) = wrapZ a k y ∧ True) ∧ True) ∧ (((x : Int)
 < a.tdiv 2 → False) → (wrapZ a k x = m ↔ acrossP sh a b k m)))) ∧ ((sh = 1 → False) → (sh = 2 → (inTab sh a b k ∧ sh = 2) ∧ (inTab sh a b m ∧ sh = 2) ∧ (spX a b k = spX a b m → ((spY a b k = 1 → False) → (((spY a b m = 1
 → False) → False) → (spY a b k = 1 → (spY a b m = 1 ↔ acrossP sh a b k m)) ∧ ((spY a b k = 1 → False) → (false = true ↔ acrossP sh a b k m))) ∧ ((spY a b m = 1 → False) → (true = true ↔ acrossP sh a b k m))) ∧ (((spY a b
 k = 1 → False) → False) → (spY a b k = 1 → (spY a b m = 1 ↔ acrossP sh a b k m)) ∧ ((spY a b k = 1 → False) → (false = true ↔ acrossP sh a b k m)))) ∧ ((spX a b k = spX a b m → False) → (spY a b k = 1 → (spY a b m = 1 ↔
 acrossP sh a b k m)) ∧ ((spY a b k = 1 → False) → (false = true ↔ acrossP sh a b k m)))) ∧ ((sh = 2 → False) → (sh = 3 → (∃ (x : Nat), (x ≤ b.toNat ∧ ∀ (j : Nat), j < x → facing a b k m j → False) ∧ (0 = (x : Int) ∧
 True) ∧ True) ∧ ∀ (x : Nat), (x ≤ b.toNat ∧ ∀ (j : Nat), j < x → facing a b k m j → False) → b.toNat - x < LIM ∧ ((x : Int) < b → (k = (x : Int) → True ∧ ((-9223372036854775808) ≤ sizeZ sh a b - 1 ∧ sizeZ sh a b - 1 <
 9223372036854775808) ∧ ((-9223372036854775808) ≤ sizeZ sh a b - 1 - (x : Int) ∧ sizeZ sh a b - 1 - (x : Int) < 9223372036854775808) ∧ ((m = sizeZ sh a b - 1 - (x : Int) → False) → (m = (x : Int) → True ∧
 ((-9223372036854775808) ≤ sizeZ sh a b - 1 ∧ sizeZ sh a b - 1 < 9223372036854775808) ∧ ((-9223372036854775808) ≤ sizeZ sh a b - 1 - (x : Int) ∧ sizeZ sh a b - 1 - (x : Int) < 9223372036854775808) ∧ (k = sizeZ sh a b - 1
 - (x : Int) → (true = true ↔ acrossP sh a b k m)) ∧ ((k = sizeZ sh a b - 1 - (x : Int) → False) → ((-9223372036854775808) ≤ (x : Int) + 1 ∧ (x : Int) + 1 < 9223372036854775808) ∧ ∃ (y : Nat), (y ≤ b.toNat ∧ ∀ (j : Nat),
 j < y → facing a b k m j → False) ∧ b.toNat - y < b.toNat - x ∧ ((x : Int) + 1 = (y : Int) ∧ True) ∧ True)) ∧ ((m = (x : Int) → False) → ((-9223372036854775808) ≤ (x : Int) + 1 ∧ (x : Int) + 1 < 9223372036854775808) ∧ ∃
 (y : Nat), (y ≤ b.toNat ∧ ∀ (j : Nat), j < y → facing a b k m j → False) ∧ b.toNat - y < b.toNat - x ∧ ((x : Int) + 1 = (y : Int) ∧ True) ∧ True)) ∧ (m = sizeZ sh a b - 1 - (x : Int) → (true = true ↔ acrossP sh a b k
 m))) ∧ ((k = (x : Int) → False) → (m = (x : Int) → True ∧ ((-9223372036854775808) ≤ sizeZ sh a b - 1 ∧ sizeZ sh a b - 1 < 9223372036854775808) ∧ ((-9223372036854775808) ≤ sizeZ sh a b - 1 - (x : Int) ∧ sizeZ sh a b - 1 -
 (x : Int) < 9223372036854775808) ∧ (k = sizeZ sh a b - 1 - (x : Int) → (true = true ↔ acrossP sh a b k m)) ∧ ((k = sizeZ sh a b - 1 - (x : Int) → False) → ((-9223372036854775808) ≤ (x : Int) + 1 ∧ (x : Int) + 1 <
 9223372036854775808) ∧ ∃ (y : Nat), (y ≤ b.toNat ∧ ∀ (j : Nat), j < y → facing a b k m j → False) ∧ b.toNat - y < b.toNat - x ∧ ((x : Int) + 1 = (y : Int) ∧ True) ∧ True)) ∧ ((m = (x : Int) → False) →
 ((-9223372036854775808) ≤ (x : Int) + 1 ∧ (x : Int) + 1 < 9223372036854775808) ∧ ∃ (y : Nat), (y ≤ b.toNat ∧ ∀ (j : Nat), j < y → facing a b k m j → False) ∧ b.toNat - y < b.toNat - x ∧ ((x : Int) + 1 = (y : Int) ∧ True)
 ∧ True))) ∧ (((x : Int) < b → False) → (false = true ↔ acrossP sh a b k m))) ∧ ((sh = 3 → False) → (false = true ↔ acrossP sh a b k m)))))) := by intros; kernel_rfl
theorem vc135 : ∀ (nm : List UInt8) (sh a b : Int) (o : D) (x y k m : Int), symFun (ctx rf1c rfAnn) 4 (135 : FuncId) [V.agg [V.str nm, V.int IntKind.u8 sh, V.int IntKind.i64 a, V.int IntKind.i64 b, V.dat (29 : TypeId) o,
 V.int IntKind.i64 x, V.int IntKind.i64 y], V.int IntKind.i64 k, V.int IntKind.i64 m] (V.prop (nearP sh a b k m)) = ((inTab sh a b k ∧ inTab sh a b m) ∧ ((besideP sh a b k m → False) → (inTab sh a b k ∧ inTab sh a b m) ∧
 (acrossP sh a b k m ↔ nearP sh a b k m)) ∧ (besideP sh a b k m → (true = true ↔ nearP sh a b k m))) := by intros; kernel_rfl
theorem acrossP_iff' (sh a b k m : Int) : acrossP sh a b k m ↔ (k ≠ m ∧ ((sh = 1 ∧ a.tmod 2 = 0 ∧ hi k m - lo k m = a.tdiv 2) ∨ (sh = 2 ∧ ((b = 2 ∧ hi k m = 2 * a + 1 ∧ lo k m = a) ∨ (¬ (b = 2 ∧ hi k m = 2 * a + 1) ∧ lo k m < a ∧ hi k m = 2 * a - 1 + min b 1 - lo k m))) ∨
    (sh = 3 ∧ lo k m < b ∧ hi k m = a + 2 * b - 1 - lo k m))) := ⟨fun h => h.out, fun h => ⟨h⟩⟩
theorem across_2 {a b k m : Int} (ha : 1 ≤ a ∧ a ≤ 11) (hb : 0 ≤ b ∧ b ≤ 2) (hk : 0 ≤ k ∧ k < 2 * a + b) (hm : 0 ≤ m ∧ m < 2 * a + b) (hne : k ≠ m) : acrossP 2 a b k m ↔ ((spX a b k = spX a b m ∧ spY a b k ≠ 1 ∧ spY a b m ≠ 1) ∨ (spY a b k = 1 ∧ spY a b m = 1)) := by
  rw [acrossP_iff']; unfold lo hi
  have h1 := sp_cases a b k
  have h2 := sp_cases a b m
  generalize spX a b k = X1 at *
  generalize spX a b m = X2 at *
  generalize spY a b k = Y1 at *
  generalize spY a b m = Y2 at *
  generalize a.tmod 2 = T
  generalize a.tdiv 2 = T'
  rcases h1 with h1 | h1 | h1 | h1 | h1 | h1 <;> rcases h2 with h2 | h2 | h2 | h2 | h2 | h2 <;> constructor <;> intro h <;> omega
theorem s165 (nm : List UInt8) (sh a b : Int) (o : D) (x y k m : Int) (hk : inTab sh a b k) (hm : inTab sh a b m) : symFun (ctx rf1b rfAnn) 4 165 [.agg [.str nm, .int .u8 sh, .int .i64 a, .int .i64 b, .dat 29 o, .int .i64 x, .int .i64 y], .int .i64 k, .int .i64 m] (.prop (acrossP sh a b k m)) := by
  have hs := size_cases hk.out.1
  have hk' := hk.out.2
  have hm' := hm.out.2
  rw [vc165]; simp only [imp_false, Classical.not_not]
  have hself : k = m → ¬ acrossP sh a b k m := fun h h' => h'.out.1 h
  by_cases hne : k = m
  · exact ⟨fun _ => by simp [hself hne], fun h => absurd hne h⟩
  · refine ⟨fun h => absurd h hne, fun _ => ⟨fun h1 => ?_, fun h1 => ⟨fun h2 => ?_, fun h2 => ⟨fun h3 => ?_, fun h3 => ?_⟩⟩⟩⟩
    · subst h1
      have hd : a.tdiv 2 = a / 2 := Int.tdiv_eq_ediv_of_nonneg (by omega)
      have hd2 : a.tmod 2 = a % 2 := Int.tmod_eq_emod_of_nonneg (by omega)
      have hA : acrossP 1 a b k m ↔ (a % 2 = 0 ∧ max k m - min k m = a / 2) := by
        rw [acrossP_iff', hd, hd2]; unfold lo hi
        constructor <;> intro h <;> omega
      rw [hA, hd, hd2]
      refine ⟨by omega, fun he => by simp [he], fun he => ⟨⟨0, Nat.zero_le _, ⟨rfl, by unfold wrapZ; rw [if_pos (by omega)]; omega, trivial⟩, trivial⟩, fun z hz => ?_⟩⟩
      have hz : z ≤ (a / 2).toNat := hz
      have hw : (k + z < a ∧ wrapZ a k z = k + z) ∨ (¬ k + z < a ∧ wrapZ a k z = k + z - a) := by unfold wrapZ; split <;> omega
      have hw2 : (k + ((z + 1 : Nat) : Int) < a ∧ wrapZ a k (z + 1) = k + ((z + 1 : Nat) : Int)) ∨ (¬ k + ((z + 1 : Nat) : Int) < a ∧ wrapZ a k (z + 1) = k + ((z + 1 : Nat) : Int) - a) := by unfold wrapZ; split <;> omega
      have hn := nx_cases a (wrapZ a k z)
      generalize nextZ a (wrapZ a k z) = N at *
      generalize hW : wrapZ a k z = W at *
      refine ⟨by unfold LIM; omega, by omega, by omega, fun hlt => ⟨⟨⟨hk.out.1, by omega⟩, rfl⟩, by omega, z + 1, show z + 1 ≤ (a / 2).toNat by omega, by omega, ⟨rfl, ?_, trivial⟩, trivial⟩, fun hge => ?_⟩
      · omega
      · constructor <;> intro h <;> omega
    · subst h2
      rw [across_2 (by omega) (by omega) (by omega) (by omega) hne]
      refine ⟨⟨hk, rfl⟩, ⟨hm, rfl⟩, ?_⟩
      generalize spX a b k = X1 at *
      generalize spX a b m = X2 at *
      generalize spY a b k = Y1 at *
      generalize spY a b m = Y2 at *
      by_cases e1 : X1 = X2 <;> by_cases e4 : Y1 = 1 <;> by_cases e5 : Y2 = 1 <;> simp [e1, e4, e5]
    · subst h3
      have hz : sizeZ 3 a b = a + 2 * b := by omega
      have hA : acrossP 3 a b k m ↔ (min k m < b ∧ max k m = a + 2 * b - 1 - min k m) := by
        rw [acrossP_iff']; unfold lo hi
        generalize a.tmod 2 = T
        generalize a.tdiv 2 = T'
        constructor <;> intro h <;> omega
      have hF : ∀ j : Nat, facing a b k m j ↔ ((k = j ∧ m = a + 2 * b - 1 - j) ∨ (m = j ∧ k = a + 2 * b - 1 - j)) := fun j => ⟨fun h => h.out, fun h => ⟨h⟩⟩
      rw [hA, hz]
      have next : ∀ z : Nat, z ≤ b.toNat → (∀ j, j < z → ¬ facing a b k m j) → (z : Int) < b → ¬ facing a b k m z → ∃ y : Nat, (y ≤ b.toNat ∧ ∀ j, j < y → ¬ facing a b k m j) ∧ b.toNat - y < b.toNat - z ∧ ((z : Int) + 1 = (y : Int) ∧ True) ∧ True := fun z h1 h2 h3 h4 => ⟨z + 1, ⟨by omega, fun j hj => by
        rcases Nat.lt_succ_iff_lt_or_eq.1 hj with h | h
        · exact h2 j h
        · subst h; exact h4⟩, by omega, ⟨rfl, trivial⟩, trivial⟩
      refine ⟨⟨0, ⟨Nat.zero_le _, fun j h => absurd h (Nat.not_lt_zero _)⟩, ⟨rfl, trivial⟩, trivial⟩, fun z hz' => ?_⟩
      obtain ⟨hz1, hz2⟩ := hz'
      have hN := next z hz1 hz2
      refine ⟨by unfold LIM; omega, fun hlt => ⟨fun e1 => ⟨trivial, by omega, by omega, fun e2 => ⟨fun e3 => ⟨trivial, by omega, by omega, fun e4 => ?_, fun e4 => ⟨by omega, hN hlt ?_⟩⟩, fun e3 => ⟨by omega, hN hlt ?_⟩⟩, fun e2 => ?_⟩, fun e1 => ⟨fun e3 => ⟨trivial, by omega, by omega, fun e4 => ?_, fun e4 => ⟨by omega, hN hlt ?_⟩⟩, fun e3 => ⟨by omega, hN hlt ?_⟩⟩⟩, fun hge => ?_⟩
      · constructor <;> intro _ <;> first | trivial | omega
      · rw [hF]; omega
      · rw [hF]; omega
      · constructor <;> intro _ <;> first | trivial | omega
      · constructor <;> intro _ <;> first | trivial | omega
      · rw [hF]; omega
      · rw [hF]; omega
      · constructor
        · intro h; cases h
        · intro h
          exfalso
          refine hz2 (min k m).toNat (by omega) ((hF _).2 ?_)
          omega
    · have h4 : sh = 4 := by omega
      subst h4
      have hA : ¬ acrossP 4 a b k m := by
        rw [acrossP_iff']; unfold lo hi
        generalize a.tmod 2 = T
        generalize a.tdiv 2 = T'
        omega
      simp [hA]
theorem s135 (nm : List UInt8) (sh a b : Int) (o : D) (x y k m : Int) (hk : inTab sh a b k) (hm : inTab sh a b m) : symFun (ctx rf1c rfAnn) 4 135 [.agg [.str nm, .int .u8 sh, .int .i64 a, .int .i64 b, .dat 29 o, .int .i64 x, .int .i64 y], .int .i64 k, .int .i64 m] (.prop (nearP sh a b k m)) := by
  rw [vc135]
  exact ⟨⟨hk, hm⟩, fun hn => ⟨⟨hk, hm⟩, fun h => ⟨.inr h⟩, fun h => h.out.resolve_left hn⟩, fun h => ⟨fun _ => ⟨.inl h⟩, fun _ => rfl⟩⟩
theorem v167 : ∀ d, 33 ≤ d → VC d 167 con167 := fun d hd =>
  valid_of_sym (C := ctx rf1 rfAnn) (G := GC) (B := 29) (m := 4) rfl rfl rfl vf1 (fun us p r hc hp ht => by
    unfold con167 at hc; split at hc
    · cases hc; exact s167 _ _ _ _ _ _ _ _ _ hp.1 hp.2.1
    · cases hc) (fun _ _ => rfl) rfl d hd
theorem vf1n : ∀ d, 29 ≤ d → ∀ g c, rf1n g = some c → VC d g c := fun d hd g c h => by
  unfold rf1n at h
  split at h
  · cases h; intro us p r hc hp; unfold con164n at hc; split at hc
    · cases hc; exact hp.elim
    · cases hc
  · exact vf1 d hd _ c h
theorem v164s : ∀ d, 33 ≤ d → VC d 164 con164s := fun d hd =>
  valid_of_sym (C := ctx rf1n rfAnn) (G := GC) (B := 29) (m := 4) rfl rfl rfl vf1n (fun us p r hc hp ht => by
    unfold con164s at hc; split at hc
    · cases hc; exact s164s _ _ _ _ _ _ _ _ _ hp.1 hp.2.1 hp.2.2
    · cases hc) (fun _ _ => rfl) rfl d hd
theorem vf1s : ∀ d, 33 ≤ d → ∀ g c, rf1s g = some c → VC d g c := fun d hd g c h => by
  unfold rf1s at h
  split at h
  · cases h; exact v164s d hd
  · exact vf1 d (by omega) _ c h
theorem v164 : ∀ d, 37 ≤ d → VC d 164 con89 := fun d hd =>
  valid_of_sym (C := ctx rf1s rfAnn) (G := GC) (B := 33) (m := 4) rfl rfl rfl vf1s (fun us p r hc hp ht => by
    unfold con89 at hc; split at hc
    · cases hc; exact s164 _ _ _ _ _ _ _ _ _ hp.1 hp.2
    · cases hc) (fun _ _ => rfl) rfl d hd
theorem vf1b : ∀ d, 37 ≤ d → ∀ g c, rf1b g = some c → VC d g c := fun d hd g c h => by
  unfold rf1b at h
  split at h
  · cases h; exact valid_ext (v167 d (by omega))
  · cases h; exact v164 d hd
  · cases h; exact v133 d (by omega)
  · exact vf1 d (by omega) _ c h
theorem v163 : ∀ d, 41 ≤ d → VC d 163 con149 := fun d hd =>
  valid_of_sym (C := ctx rf1b rfAnn) (G := GC) (B := 37) (m := 4) rfl rfl rfl vf1b (fun us p r hc hp ht => by
    unfold con149 at hc; split at hc
    · cases hc; exact s163 _ _ _ _ _ _ _ hp
    · cases hc) (fun _ _ => rfl) rfl d hd
theorem v165 : ∀ d, 41 ≤ d → VC d 165 con90 := fun d hd =>
  valid_of_sym (C := ctx rf1b rfAnn) (G := GC) (B := 37) (m := 4) rfl rfl rfl vf1b (fun us p r hc hp ht => by
    unfold con90 at hc; split at hc
    · cases hc; exact s165 _ _ _ _ _ _ _ _ _ hp.1 hp.2
    · cases hc) (fun _ _ => rfl) rfl d hd
theorem vf1c : ∀ d, 41 ≤ d → ∀ g c, rf1c g = some c → VC d g c := fun d hd g c h => by
  unfold rf1c at h
  split at h
  · cases h; exact v165 d hd
  · cases h; exact v163 d hd
  · exact vf1b d (by omega) _ c h
theorem v135 : ∀ d, 45 ≤ d → VC d 135 con88 := fun d hd =>
  valid_of_sym (C := ctx rf1c rfAnn) (G := GC) (B := 41) (m := 4) rfl rfl rfl vf1c (fun us p r hc hp ht => by
    unfold con88 at hc; split at hc
    · cases hc; exact s135 _ _ _ _ _ _ _ _ _ hp.1 hp.2
    · cases hc) (fun _ _ => rfl) rfl d hd
theorem vf2 : ∀ d, 45 ≤ d → ∀ g c, rf2 g = some c → VC d g c := fun d hd g c h => by
  unfold rf2 at h
  split at h
  · cases h; exact v135 d hd
  · exact vf1c d (by omega) _ c h
end Go.Ev
