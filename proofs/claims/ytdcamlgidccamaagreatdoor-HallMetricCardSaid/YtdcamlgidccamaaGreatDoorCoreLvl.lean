/-
  Part of the engine that the claim is proved with: it states nothing of the document by itself.
-/
import Derived.Test.YtdcamlgidccamaaGreatDoorCoreLvlDefs
import Derived.Test.YtdcamlgidccamaaGreatDoorCoreDist
open Go.Proofs
namespace Go.Ev
set_option maxRecDepth 100000
set_option maxHeartbeats 4000000
theorem vc32 : ∀ (l : D) (p q : Int), symFun (ctx seat3 distAnn) 6 (32 : FuncId) [V.dat (22 : TypeId) l, V.int IntKind.i64 p, V.int IntKind.i64 q] (V.tup [V.int IntKind.i64 (distH l p q), V.prop (distP l p q)]) =
 ((smallD l ∧ i64P p) ∧ (smallD l ∧ i64P q) ∧ (((whereP l p → False) → False) → (((whereP l q → False) → False) → ((whereT l p = whereT l q → False) → 0 = distH l p q ∧ (false = true ↔ distP l p q) ∧ True) ∧ (((whereT l p
 = whereT l q → False) → False) → 0 ≤ whereT l p ∧ whereT l p < (l.len : Int) ∧ inTab (tShape (el l (whereT l p).toNat)) (tA (el l (whereT l p).toNat)) (tB (el l (whereT l p).toNat)) (whereK l p) ∧ 0 ≤ whereK l q ∧ whereK
 l q < (↑(distRow (sizeT' (el l (whereT l p).toNat)).toNat (tShape (el l (whereT l p).toNat)) (tA (el l (whereT l p).toNat)) (tB (el l (whereT l p).toNat)) (whereK l p)).length : Int) ∧ ((nthD (distRow (sizeT' (el l
 (whereT l p).toNat)).toNat (tShape (el l (whereT l p).toNat)) (tA (el l (whereT l p).toNat)) (tB (el l (whereT l p).toNat)) (whereK l p)) (whereK l q).toNat).asInt < 0 → 0 = distH l p q ∧ (false = true ↔ distP l p q) ∧
 True) ∧ (((nthD (distRow (sizeT' (el l (whereT l p).toNat)).toNat (tShape (el l (whereT l p).toNat)) (tA (el l (whereT l p).toNat)) (tB (el l (whereT l p).toNat)) (whereK l p)) (whereK l q).toNat).asInt < 0 → False) →
 (nthD (distRow (sizeT' (el l (whereT l p).toNat)).toNat (tShape (el l (whereT l p).toNat)) (tA (el l (whereT l p).toNat)) (tB (el l (whereT l p).toNat)) (whereK l p)) (whereK l q).toNat).asInt = distH l p q ∧ (true =
 true ↔ distP l p q) ∧ True))) ∧ ((whereP l q → False) → 0 = distH l p q ∧ (false = true ↔ distP l p q) ∧ True)) ∧ ((whereP l p → False) → 0 = distH l p q ∧ (false = true ↔ distP l p q) ∧ True)) := by intros; kernel_rfl
theorem vc34 : ∀ (l : D) (p q : Int), symFun (ctx seat3 distAnn) 6 (34 : FuncId) [V.dat (22 : TypeId) l, V.int IntKind.i64 p, V.int IntKind.i64 q] (V.prop (besideH l p q)) = ((smallD l ∧ i64P p) ∧ (smallD l ∧ i64P q) ∧
 (((whereP l p → False) → False) → (((whereP l q → False) → False) → ((whereT l p = whereT l q → False) → (false = true ↔ besideH l p q)) ∧ (((whereT l p = whereT l q → False) → False) → 0 ≤ whereT l p ∧ whereT l p <
 (l.len : Int) ∧ (inTab (tShape (el l (whereT l p).toNat)) (tA (el l (whereT l p).toNat)) (tB (el l (whereT l p).toNat)) (whereK l p) ∧ inTab (tShape (el l (whereT l p).toNat)) (tA (el l (whereT l p).toNat)) (tB (el l
 (whereT l p).toNat)) (whereK l q)) ∧ (besideP (tShape (el l (whereT l p).toNat)) (tA (el l (whereT l p).toNat)) (tB (el l (whereT l p).toNat)) (whereK l p) (whereK l q) ↔ besideH l p q))) ∧ ((whereP l q → False) → (false
 = true ↔ besideH l p q))) ∧ ((whereP l p → False) → (false = true ↔ besideH l p q))) := by intros; kernel_rfl
theorem vc35 : ∀ (l : D) (p q : Int), symFun (ctx seat3 distAnn) 6 (35 : FuncId) [V.dat (22 : TypeId) l, V.int IntKind.i64 p, V.int IntKind.i64 q] (V.prop (acrossH l p q)) = ((smallD l ∧ i64P p) ∧ (smallD l ∧ i64P q) ∧
 (((whereP l p → False) → False) → (((whereP l q → False) → False) → ((whereT l p = whereT l q → False) → (false = true ↔ acrossH l p q)) ∧ (((whereT l p = whereT l q → False) → False) → 0 ≤ whereT l p ∧ whereT l p <
 (l.len : Int) ∧ (inTab (tShape (el l (whereT l p).toNat)) (tA (el l (whereT l p).toNat)) (tB (el l (whereT l p).toNat)) (whereK l p) ∧ inTab (tShape (el l (whereT l p).toNat)) (tA (el l (whereT l p).toNat)) (tB (el l
 (whereT l p).toNat)) (whereK l q)) ∧ (acrossP (tShape (el l (whereT l p).toNat)) (tA (el l (whereT l p).toNat)) (tB (el l (whereT l p).toNat)) (whereK l p) (whereK l q) ↔ acrossH l p q))) ∧ ((whereP l q → False) → (false
 = true ↔ acrossH l p q))) ∧ ((whereP l p → False) → (false = true ↔ acrossH l p q))) := by intros; kernel_rfl
theorem vc33 : ∀ (l : D) (p q : Int), symFun (ctx seat3 distAnn) 6 (33 : FuncId) [V.dat (22 : TypeId) l, V.int IntKind.i64 p, V.int IntKind.i64 q] (V.prop (nearH l p q)) = ((smallD l ∧ i64P p) ∧ (smallD l ∧ i64P q) ∧
 (((whereP l p → False) → False) → (((whereP l q → False) → False) → ((whereT l p = whereT l q → False) → (false = true ↔ nearH l p q)) ∧ (((whereT l p = whereT l q → False) → False) → 0 ≤ whereT l p ∧ whereT l p < (l.len
 : Int) ∧ (inTab (tShape (el l (whereT l p).toNat)) (tA (el l (whereT l p).toNat)) (tB (el l (whereT l p).toNat)) (whereK l p) ∧ inTab (tShape (el l (whereT l p).toNat)) (tA (el l (whereT l p).toNat)) (tB (el l (whereT l
 p).toNat)) (whereK l q)) ∧ (nearP (tShape (el l (whereT l p).toNat)) (tA (el l (whereT l p).toNat)) (tB (el l (whereT l p).toNat)) (whereK l p) (whereK l q) ↔ nearH l p q))) ∧ ((whereP l q → False) → (false = true ↔
 nearH l p q))) ∧ ((whereP l p → False) → (false = true ↔ nearH l p q))) := by intros; kernel_rfl
theorem where_in (l : D) : ∀ f i (k : Int) t m, 0 ≤ k → whereZ l f i k = some (t, m) → ∃ j : Nat, t = j ∧ j < i + f ∧ 0 ≤ m ∧ m < sizeT' (el l j)
  | 0, _, _, _, _, _, h => by simp [whereZ] at h
  | f + 1, i, k, t, m, hk, h => by
    unfold whereZ at h
    split at h
    · rename_i hlt; cases h; exact ⟨i, rfl, by omega, hk, hlt⟩
    · obtain ⟨j, h1, h2, h3, h4⟩ := where_in l f (i + 1) _ t m (by omega) h
      exact ⟨j, h1, by omega, h3, h4⟩
theorem whereP_tab {l : D} {p : Int} (h : whereP l p) : 0 ≤ whereT l p ∧ whereT l p < l.len ∧ inTab (tShape (el l (whereT l p).toNat)) (tA (el l (whereT l p).toNat)) (tB (el l (whereT l p).toNat)) (whereK l p) := by
  obtain ⟨h⟩ := h
  cases hO : whereO l p with
  | none => exact absurd hO h
  | some x =>
    obtain ⟨t, m⟩ := x
    have eT : whereT l p = t := by unfold whereT; rw [hO]; rfl
    have eK : whereK l p = m := by unfold whereK; rw [hO]; rfl
    unfold whereO at hO
    split at hO
    · cases hO
    · rename_i hn
      obtain ⟨j, h1, h2, h3, h4⟩ := where_in l l.len 0 p t m (by have := fun h => hn (.inl h); omega) hO
      subst h1
      rw [eT, eK, Int.toNat_natCast]
      exact ⟨by omega, by omega, ⟨by unfold sizeT' at h4; omega, h3, h4⟩⟩
theorem one_not {l : D} {p q : Int} : (¬ whereP l p → ¬ oneT l p q) ∧ (¬ whereP l q → ¬ oneT l p q) ∧ (¬ whereT l p = whereT l q → ¬ oneT l p q) := ⟨fun h h' => h h'.out.1, fun h h' => h h'.out.2.1, fun h h' => h h'.out.2.2⟩
theorem len_dist (n : Nat) (sh a b k : Int) : (distRow n sh a b k).length = n := by unfold distRow; exact len_rowN _ _
theorem s32 (l : D) (p q : Int) (hs : smallD l) (hp : i64P p) (hq : i64P q) : symFun (ctx seat3 distAnn) 6 32 [.dat 22 l, .int .i64 p, .int .i64 q] (.tup [.int .i64 (distH l p q), .prop (distP l p q)]) := by
  rw [vc32]
  have hno : ¬ oneT l p q → 0 = distH l p q ∧ (false = true ↔ distP l p q) ∧ True := fun h => ⟨by unfold distH; rw [if_neg fun h' => h h'.out.1], by simp; exact fun h' => h h'.out.1, trivial⟩
  simp only [imp_false, Classical.not_not]
  refine ⟨⟨hs, hp⟩, ⟨hs, hq⟩, fun h1 => ⟨fun h2 => ⟨fun h3 => hno (one_not.2.2 h3), fun h3 => ?_⟩, fun h2 => hno (one_not.2.1 h2)⟩, fun h1 => hno (one_not.1 h1)⟩
  obtain ⟨t1, t2, t3⟩ := whereP_tab h1
  obtain ⟨_, _, u3⟩ := whereP_tab h2
  rw [← h3] at u3
  have hu := u3.out
  refine ⟨t1, t2, t3, hu.2.1, ?_, fun h4 => ?_, fun h4 => ?_⟩
  · rw [len_dist]; have : sizeT' (el l (whereT l p).toNat) = sizeZ (tShape (el l (whereT l p).toNat)) (tA (el l (whereT l p).toNat)) (tB (el l (whereT l p).toNat)) := rfl
    omega
  · have hn : ¬ distP l p q := fun h => by have := h.out.2; unfold distD rowT tabAt at this; omega
    exact ⟨by unfold distH; rw [if_neg hn], ⟨fun h => absurd h (by simp), fun h => absurd h hn⟩, trivial⟩
  · have hy : distP l p q := ⟨⟨⟨h1, h2, h3⟩⟩, by unfold distD rowT tabAt; omega⟩
    exact ⟨by unfold distH; rw [if_pos hy]; rfl, ⟨fun _ => hy, fun _ => trivial⟩, trivial⟩
theorem s34 (l : D) (p q : Int) (hs : smallD l) (hp : i64P p) (hq : i64P q) : symFun (ctx seat3 distAnn) 6 34 [.dat 22 l, .int .i64 p, .int .i64 q] (.prop (besideH l p q)) := by
  rw [vc34]
  have hno : ¬ oneT l p q → (false = true ↔ besideH l p q) := fun h => by simp; exact fun h' => h h'.out.1
  simp only [imp_false, Classical.not_not]
  refine ⟨⟨hs, hp⟩, ⟨hs, hq⟩, fun h1 => ⟨fun h2 => ⟨fun h3 => hno (one_not.2.2 h3), fun h3 => ?_⟩, fun h2 => hno (one_not.2.1 h2)⟩, fun h1 => hno (one_not.1 h1)⟩
  obtain ⟨t1, t2, t3⟩ := whereP_tab h1
  obtain ⟨_, _, u3⟩ := whereP_tab h2
  rw [← h3] at u3
  exact ⟨t1, t2, ⟨t3, u3⟩, ⟨fun h => ⟨⟨⟨h1, h2, h3⟩⟩, h⟩, fun h => h.out.2⟩⟩
theorem s35 (l : D) (p q : Int) (hs : smallD l) (hp : i64P p) (hq : i64P q) : symFun (ctx seat3 distAnn) 6 35 [.dat 22 l, .int .i64 p, .int .i64 q] (.prop (acrossH l p q)) := by
  rw [vc35]
  have hno : ¬ oneT l p q → (false = true ↔ acrossH l p q) := fun h => by simp; exact fun h' => h h'.out.1
  simp only [imp_false, Classical.not_not]
  refine ⟨⟨hs, hp⟩, ⟨hs, hq⟩, fun h1 => ⟨fun h2 => ⟨fun h3 => hno (one_not.2.2 h3), fun h3 => ?_⟩, fun h2 => hno (one_not.2.1 h2)⟩, fun h1 => hno (one_not.1 h1)⟩
  obtain ⟨t1, t2, t3⟩ := whereP_tab h1
  obtain ⟨_, _, u3⟩ := whereP_tab h2
  rw [← h3] at u3
  exact ⟨t1, t2, ⟨t3, u3⟩, ⟨fun h => ⟨⟨⟨h1, h2, h3⟩⟩, h⟩, fun h => h.out.2⟩⟩
theorem s33 (l : D) (p q : Int) (hs : smallD l) (hp : i64P p) (hq : i64P q) : symFun (ctx seat3 distAnn) 6 33 [.dat 22 l, .int .i64 p, .int .i64 q] (.prop (nearH l p q)) := by
  rw [vc33]
  have hno : ¬ oneT l p q → (false = true ↔ nearH l p q) := fun h => by simp; exact fun h' => h h'.out.1
  simp only [imp_false, Classical.not_not]
  refine ⟨⟨hs, hp⟩, ⟨hs, hq⟩, fun h1 => ⟨fun h2 => ⟨fun h3 => hno (one_not.2.2 h3), fun h3 => ?_⟩, fun h2 => hno (one_not.2.1 h2)⟩, fun h1 => hno (one_not.1 h1)⟩
  obtain ⟨t1, t2, t3⟩ := whereP_tab h1
  obtain ⟨_, _, u3⟩ := whereP_tab h2
  rw [← h3] at u3
  exact ⟨t1, t2, ⟨t3, u3⟩, ⟨fun h => ⟨⟨⟨h1, h2, h3⟩⟩, h⟩, fun h => h.out.2⟩⟩
theorem v86 : ∀ d, 45 ≤ d → VC d 86 con86 := fun d hd =>
  valid_of_sym (C := ctx seat2 distAnn) (G := GC) (B := 37) (m := 8) rfl rfl rfl vs2 (fun us p r hc hp ht => by
    unfold con86 at hc; split at hc
    · cases hc; exact s86 _ _ _ _ _ _ _ _ hp
    · cases hc) (fun _ _ => rfl) rfl d hd
theorem vs3 : ∀ d, 45 ≤ d → ∀ g c, seat3 g = some c → VC d g c := fun d hd g c h => by
  unfold seat3 at h
  split at h
  · cases h; exact v86 d hd
  · exact vs2 d (by omega) _ c h
theorem v32 : ∀ d, 51 ≤ d → VC d 32 con32 := fun d hd =>
  valid_of_sym (C := ctx seat3 distAnn) (G := GC) (B := 45) (m := 6) rfl rfl rfl vs3 (fun us p r hc hp ht => by
    unfold con32 at hc; split at hc
    · cases hc; exact s32 _ _ _ hp.1 hp.2.1 hp.2.2
    · cases hc) (fun _ _ => rfl) rfl d hd
theorem v34 : ∀ d, 51 ≤ d → VC d 34 con34 := fun d hd =>
  valid_of_sym (C := ctx seat3 distAnn) (G := GC) (B := 45) (m := 6) rfl rfl rfl vs3 (fun us p r hc hp ht => by
    unfold con34 at hc; split at hc
    · cases hc; exact s34 _ _ _ hp.1 hp.2.1 hp.2.2
    · cases hc) (fun _ _ => rfl) rfl d hd
theorem v35 : ∀ d, 51 ≤ d → VC d 35 con35 := fun d hd =>
  valid_of_sym (C := ctx seat3 distAnn) (G := GC) (B := 45) (m := 6) rfl rfl rfl vs3 (fun us p r hc hp ht => by
    unfold con35 at hc; split at hc
    · cases hc; exact s35 _ _ _ hp.1 hp.2.1 hp.2.2
    · cases hc) (fun _ _ => rfl) rfl d hd
theorem v33 : ∀ d, 51 ≤ d → VC d 33 con33 := fun d hd =>
  valid_of_sym (C := ctx seat3 distAnn) (G := GC) (B := 45) (m := 6) rfl rfl rfl vs3 (fun us p r hc hp ht => by
    unfold con33 at hc; split at hc
    · cases hc; exact s33 _ _ _ hp.1 hp.2.1 hp.2.2
    · cases hc) (fun _ _ => rfl) rfl d hd
theorem size_range (d : D) : 0 ≤ sizeT' d ∧ sizeT' d ≤ 24 := by
  by_cases h : sizeZ (tShape d) (tA d) (tB d) = 0
  · unfold sizeT'; omega
  · have := size_cases h; unfold sizeT'; omega
end Go.Ev
