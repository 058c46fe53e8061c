/-
  Part of the engine that the claim is proved with: it states nothing of the document by itself.
-/
import Derived.Test.YtfplgbngodmbiaaGreatDoorCoreG28
import Derived.Test.YtfplgbngodmbiaaGreatDoorCoreDist

section
open Go.Proofs
namespace Go.Ev
set_option maxRecDepth 100000
set_option maxHeartbeats 4000000
theorem vc32 : ∀ (l : D) (p q : Int), symFun (ctx seat3 distAnn) 6 (32 : FuncId) [V.dat (22 : TypeId) l, V.int IntKind.i64 p, V.int IntKind.i64 q] (V.tup [V.int IntKind.i64 (distH l p q), V.prop (distP l p q)]) =
 ((smallD l ∧ i64P p) ∧ (smallD l ∧ i64P q) ∧ (((whereP l p → False) → False) → (((whereP l q → False) → False) → ((whereT l p = whereT l q → False) → 0 = distH l p q ∧ (false = true ↔ distP l p q) ∧ True) ∧ (((whereT l p
 = whereT l q → False) → False) → 0 ≤ whereT l p ∧ whereT l p < (l.len : Int) ∧ inTab (tShape (el l (whereT l p).toNat)) (tA (el l (whereT l p).toNat)) (tB (el l (whereT l p).toNat)) (whereK l p) ∧ 0 ≤ whereK l q ∧ whereK
 l q < (↑(distRow (sizeT' (el l (whereT l p).toNat)).toNat (tShape (el l (whereT l p).toNat)) (tA (el l (whereT l p).toNat)) (tB (el l (whereT l p).toNat)) (whereK l p)).length : Int) ∧ ((nthD (distRow (sizeT' (el l
 (whereT l p).toNat)).toNat (tShape (el l (whereT l p).toNat)) (tA (el l (whereT l p).toNat)) (tB (el l (whereT l p).toNat)) (whereK l p)) (whereK l q).toNat).asInt < 0 → 0 = distH l p q ∧ (false = true ↔ distP l p q) ∧
 True) ∧ (((nthD (distRow (sizeT' (el l (whereT l p).toNat)).toNat (tShape (el l (whereT l p).toNat)) (tA (el l (whereT l p).toNat)) (tB (el l (whereT l p).toNat)) (whereK l p)) (whereK l q).toNat).asInt < 0 → False) →
 (nthD (distRow (sizeT' (el l (whereT l p).toNat)).toNat (tShape (el l (whereT l p).toNat)) (tA (el l (whereT l p).toNat)) (tB (el l (whereT l p).toNat)) (whereK l p)) (whereK l q).toNat).asInt = distH l p q ∧ (true =
 true ↔ distP l p q) ∧ True))) ∧ ((whereP l q → False) → 0 = distH l p q ∧ (false = true ↔ distP l p q) ∧ True)) ∧ ((whereP l p → False) → 0 = distH l p q ∧ (false = true ↔ distP l p q) ∧ True)) := by intros; kernel_rfl
theorem where_in (l : D) : ∀ f i (k : Int) t m, 0 ≤ k → whereZ l f i k = some (t, m) → ∃ j : Nat, t = j ∧ j < i + f ∧ 0 ≤ m ∧ m < sizeT' (el l j)
  | 0, _, _, _, _, _, h => by simp [whereZ] at h
  | f + 1, i, k, t, m, hk, h => by
    unfold whereZ at h
    split at h
    · rename_i hlt; cases h; exact ⟨i, rfl, by omega, hk, hlt⟩
    · obtain ⟨j, h1, h2, h3, h4⟩ := where_in l f (i + 1) _ t m (by omega) h
      exact ⟨j, h1, by omega, h3, h4⟩
theorem whereP_tab {l : D} {p : Int} (h : whereP l p) : 0 ≤ whereT l p ∧ whereT l p < l.len ∧ inTab (tShape (el l (whereT l p).toNat)) (tA (el l (whereT l p).toNat)) (tB (el l (whereT l p).toNat)) (whereK l p) := by
  obtain ⟨h⟩ := h
  cases hO : whereO l p with
  | none => exact absurd hO h
  | some x =>
    obtain ⟨t, m⟩ := x
    have eT : whereT l p = t := by unfold whereT; rw [hO]; rfl
    have eK : whereK l p = m := by unfold whereK; rw [hO]; rfl
    unfold whereO at hO
    split at hO
    · cases hO
    · rename_i hn
      obtain ⟨j, h1, h2, h3, h4⟩ := where_in l l.len 0 p t m (by have := fun h => hn (.inl h); omega) hO
      subst h1
      rw [eT, eK, Int.toNat_natCast]
      exact ⟨by omega, by omega, ⟨by unfold sizeT' at h4; omega, h3, h4⟩⟩
theorem one_not {l : D} {p q : Int} : (¬ whereP l p → ¬ oneT l p q) ∧ (¬ whereP l q → ¬ oneT l p q) ∧ (¬ whereT l p = whereT l q → ¬ oneT l p q) := ⟨fun h h' => h h'.out.1, fun h h' => h h'.out.2.1, fun h h' => h h'.out.2.2⟩
theorem len_dist (n : Nat) (sh a b k : Int) : (distRow n sh a b k).length = n := by unfold distRow; exact len_rowN _ _
theorem s32 (l : D) (p q : Int) (hs : smallD l) (hp : i64P p) (hq : i64P q) : symFun (ctx seat3 distAnn) 6 32 [.dat 22 l, .int .i64 p, .int .i64 q] (.tup [.int .i64 (distH l p q), .prop (distP l p q)]) := by
  rw [vc32]
  have hno : ¬ oneT l p q → 0 = distH l p q ∧ (false = true ↔ distP l p q) ∧ True := fun h => ⟨by unfold distH; rw [if_neg fun h' => h h'.out.1], by simp; exact fun h' => h h'.out.1, trivial⟩
  simp only [imp_false, Classical.not_not]
  refine ⟨⟨hs, hp⟩, ⟨hs, hq⟩, fun h1 => ⟨fun h2 => ⟨fun h3 => hno (one_not.2.2 h3), fun h3 => ?_⟩, fun h2 => hno (one_not.2.1 h2)⟩, fun h1 => hno (one_not.1 h1)⟩
  obtain ⟨t1, t2, t3⟩ := whereP_tab h1
  obtain ⟨_, _, u3⟩ := whereP_tab h2
  rw [← h3] at u3
  have hu := u3.out
  refine ⟨t1, t2, t3, hu.2.1, ?_, fun h4 => ?_, fun h4 => ?_⟩
  · rw [len_dist]; have : sizeT' (el l (whereT l p).toNat) = sizeZ (tShape (el l (whereT l p).toNat)) (tA (el l (whereT l p).toNat)) (tB (el l (whereT l p).toNat)) := rfl
    omega
  · have hn : ¬ distP l p q := fun h => by have := h.out.2; unfold distD rowT tabAt at this; omega
    exact ⟨by unfold distH; rw [if_neg hn], ⟨fun h => absurd h (by simp), fun h => absurd h hn⟩, trivial⟩
  · have hy : distP l p q := ⟨⟨⟨h1, h2, h3⟩⟩, by unfold distD rowT tabAt; omega⟩
    exact ⟨by unfold distH; rw [if_pos hy]; rfl, ⟨fun _ => hy, fun _ => trivial⟩, trivial⟩
theorem v86 : ∀ d, 45 ≤ d → VC d 86 con86 := fun d hd =>
  valid_of_sym (C := ctx seat2 distAnn) (G := GC) (B := 37) (m := 8) rfl rfl rfl vs2 (fun us p r hc hp ht => by
    unfold con86 at hc; split at hc
    · cases hc; exact s86 _ _ _ _ _ _ _ _ hp
    · cases hc) (fun _ _ => rfl) rfl rfl d hd
theorem vs3 : ∀ d, 45 ≤ d → ∀ g c, seat3 g = some c → VC d g c := fun d hd g c h => by
  unfold seat3 at h
  split at h
  · cases h; exact v86 d hd
  · exact vs2 d (by omega) _ c h
theorem v32 : ∀ d, 51 ≤ d → VC d 32 con32 := fun d hd =>
  valid_of_sym (C := ctx seat3 distAnn) (G := GC) (B := 45) (m := 6) rfl rfl rfl vs3 (fun us p r hc hp ht => by
    unfold con32 at hc; split at hc
    · cases hc; exact s32 _ _ _ hp.1 hp.2.1 hp.2.2
    · cases hc) (fun _ _ => rfl) rfl rfl d hd
theorem vc54 : ∀ (l : D) (p : Int), symFun (ctx seat3 lvlAnn) 6 (54 : FuncId) [V.dat (22 : TypeId) l, V.int IntKind.i64 p] (V.dat (29 : TypeId) (nbD l p)) = ((smallD l ∧ i64P p) ∧ ((whereP l p → False) → D.nil = nbD l p)
 ∧ (((whereP l p → False) → False) → 0 ≤ whereT l p ∧ whereT l p < (l.len : Int) ∧ (sizeT' (el l (whereT l p).toNat) = 0 → False) ∧ ((∃ (x : Nat), (x ≤ (sizeT' (el l (whereT l p).toNat)).toNat ∧ nbX (el l (whereT l
 p).toNat) (whereK l p) (p - whereK l p) x = []) ∧ (0 = (x : Int) ∧ True ∧ True) ∧ True) ∨ ∃ (x : Nat), (x ≤ (sizeT' (el l (whereT l p).toNat)).toNat ∧ (nbX (el l (whereT l p).toNat) (whereK l p) (p - whereK l p) x = [] →
 False)) ∧ (0 = (x : Int) ∧ False ∧ True) ∧ False ∧ True) ∧ (∀ (x : Nat), x ≤ (sizeT' (el l (whereT l p).toNat)).toNat ∧ nbX (el l (whereT l p).toNat) (whereK l p) (p - whereK l p) x = [] → (sizeT' (el l (whereT l
 p).toNat)).toNat - x < LIM ∧ ((x : Int) < sizeT' (el l (whereT l p).toNat) → 0 ≤ whereT l p ∧ whereT l p < (l.len : Int) ∧ (inTab (tShape (el l (whereT l p).toNat)) (tA (el l (whereT l p).toNat)) (tB (el l (whereT l
 p).toNat)) (whereK l p) ∧ inTab (tShape (el l (whereT l p).toNat)) (tA (el l (whereT l p).toNat)) (tB (el l (whereT l p).toNat)) (x : Int)) ∧ (nearP (tShape (el l (whereT l p).toNat)) (tA (el l (whereT l p).toNat)) (tB
 (el l (whereT l p).toNat)) (whereK l p) (x : Int) → ((-9223372036854775808) ≤ p - whereK l p ∧ p - whereK l p < 9223372036854775808) ∧ ((-9223372036854775808) ≤ p - whereK l p + (x : Int) ∧ p - whereK l p + (x : Int) <
 9223372036854775808) ∧ 0 + 1 ≤ [D.int (p - whereK l p + (x : Int))].length ∧ (1 : Nat) ≤ 16777216 ∧ ((-9223372036854775808) ≤ (x : Int) + 1 ∧ (x : Int) + 1 < 9223372036854775808) ∧ ((∃ (y : Nat), (y ≤ (sizeT' (el l
 (whereT l p).toNat)).toNat ∧ nbX (el l (whereT l p).toNat) (whereK l p) (p - whereK l p) y = []) ∧ (sizeT' (el l (whereT l p).toNat)).toNat - y < (sizeT' (el l (whereT l p).toNat)).toNat - x ∧ ((x : Int) + 1 = (y : Int)
 ∧ False ∧ True) ∧ True) ∨ ∃ (y : Nat), (y ≤ (sizeT' (el l (whereT l p).toNat)).toNat ∧ (nbX (el l (whereT l p).toNat) (whereK l p) (p - whereK l p) y = [] → False)) ∧ (sizeT' (el l (whereT l p).toNat)).toNat - y <
 (sizeT' (el l (whereT l p).toNat)).toNat - x ∧ ((x : Int) + 1 = (y : Int) ∧ ((0 : Nat) = 0 ∧ 1 = (nbX (el l (whereT l p).toNat) (whereK l p) (p - whereK l p) y).length ∧ True) ∧ True) ∧ List.take 1 [D.int (p - whereK l p
 + (x : Int))] = nbX (el l (whereT l p).toNat) (whereK l p) (p - whereK l p) y ∧ True)) ∧ ((nearP (tShape (el l (whereT l p).toNat)) (tA (el l (whereT l p).toNat)) (tB (el l (whereT l p).toNat)) (whereK l p) (x : Int) →
 False) → ((-9223372036854775808) ≤ (x : Int) + 1 ∧ (x : Int) + 1 < 9223372036854775808) ∧ ((∃ (y : Nat), (y ≤ (sizeT' (el l (whereT l p).toNat)).toNat ∧ nbX (el l (whereT l p).toNat) (whereK l p) (p - whereK l p) y = [])
 ∧ (sizeT' (el l (whereT l p).toNat)).toNat - y < (sizeT' (el l (whereT l p).toNat)).toNat - x ∧ ((x : Int) + 1 = (y : Int) ∧ True ∧ True) ∧ True) ∨ ∃ (y : Nat), (y ≤ (sizeT' (el l (whereT l p).toNat)).toNat ∧ (nbX (el l
 (whereT l p).toNat) (whereK l p) (p - whereK l p) y = [] → False)) ∧ (sizeT' (el l (whereT l p).toNat)).toNat - y < (sizeT' (el l (whereT l p).toNat)).toNat - x ∧ ((x : Int) + 1 = (y : Int) ∧ False ∧ True) ∧ False ∧
 True))) ∧ (((x : Int) < sizeT' (el l (whereT l p).toNat) → False) → D.nil = nbD l p)) ∧ ∀ (x : Nat), x ≤ (sizeT' (el l (whereT l p).toNat)).toNat ∧ (nbX (el l (whereT l p).toNat) (whereK l p) (p - whereK l p) x = [] →
 False) → (sizeT' (el l (whereT l p).toNat)).toNat - x < LIM ∧ ((x : Int) < sizeT' (el l (whereT l p).toNat) → 0 ≤ whereT l p ∧ whereT l p < (l.len : Int) ∧ (inTab (tShape (el l (whereT l p).toNat)) (tA (el l (whereT l
 p).toNat)) (tB (el l (whereT l p).toNat)) (whereK l p) ∧ inTab (tShape (el l (whereT l p).toNat)) (tA (el l (whereT l p).toNat)) (tB (el l (whereT l p).toNat)) (x : Int)) ∧ (nearP (tShape (el l (whereT l p).toNat)) (tA
 (el l (whereT l p).toNat)) (tB (el l (whereT l p).toNat)) (whereK l p) (x : Int) → ((-9223372036854775808) ≤ p - whereK l p ∧ p - whereK l p < 9223372036854775808) ∧ ((-9223372036854775808) ≤ p - whereK l p + (x : Int) ∧
 p - whereK l p + (x : Int) < 9223372036854775808) ∧ 0 + 1 ≤ [D.int (p - whereK l p + (x : Int))].length ∧ 0 + (nbX (el l (whereT l p).toNat) (whereK l p) (p - whereK l p) x).length ≤ (nbX (el l (whereT l p).toNat)
 (whereK l p) (p - whereK l p) x).length ∧ (nbX (el l (whereT l p).toNat) (whereK l p) (p - whereK l p) x).length + 1 ≤ 16777216 ∧ ((-9223372036854775808) ≤ (x : Int) + 1 ∧ (x : Int) + 1 < 9223372036854775808) ∧ ((∃ (y :
 Nat), (y ≤ (sizeT' (el l (whereT l p).toNat)).toNat ∧ nbX (el l (whereT l p).toNat) (whereK l p) (p - whereK l p) y = []) ∧ (sizeT' (el l (whereT l p).toNat)).toNat - y < (sizeT' (el l (whereT l p).toNat)).toNat - x ∧
 ((x : Int) + 1 = (y : Int) ∧ False ∧ True) ∧ True) ∨ ∃ (y : Nat), (y ≤ (sizeT' (el l (whereT l p).toNat)).toNat ∧ (nbX (el l (whereT l p).toNat) (whereK l p) (p - whereK l p) y = [] → False)) ∧ (sizeT' (el l (whereT l
 p).toNat)).toNat - y < (sizeT' (el l (whereT l p).toNat)).toNat - x ∧ ((x : Int) + 1 = (y : Int) ∧ ((0 : Nat) = 0 ∧ (nbX (el l (whereT l p).toNat) (whereK l p) (p - whereK l p) x).length + 1 = (nbX (el l (whereT l
 p).toNat) (whereK l p) (p - whereK l p) y).length ∧ True) ∧ True) ∧ List.take (nbX (el l (whereT l p).toNat) (whereK l p) (p - whereK l p) x).length (nbX (el l (whereT l p).toNat) (whereK l p) (p - whereK l p) x) ++
 List.take 1 [D.int (p - whereK l p + (x : Int))] = nbX (el l (whereT l p).toNat) (whereK l p) (p - whereK l p) y ∧ True)) ∧ ((nearP (tShape (el l (whereT l p).toNat)) (tA (el l (whereT l p).toNat)) (tB (el l (whereT l
 p).toNat)) (whereK l p) (x : Int) → False) → ((-9223372036854775808) ≤ (x : Int) + 1 ∧ (x : Int) + 1 < 9223372036854775808) ∧ ((∃ (y : Nat), (y ≤ (sizeT' (el l (whereT l p).toNat)).toNat ∧ nbX (el l (whereT l p).toNat)
 (whereK l p) (p - whereK l p) y = []) ∧ (sizeT' (el l (whereT l p).toNat)).toNat - y < (sizeT' (el l (whereT l p).toNat)).toNat - x ∧ ((x : Int) + 1 = (y : Int) ∧ False ∧ True) ∧ True) ∨ ∃ (y : Nat), (y ≤ (sizeT' (el l
 (whereT l p).toNat)).toNat ∧ (nbX (el l (whereT l p).toNat) (whereK l p) (p - whereK l p) y = [] → False)) ∧ (sizeT' (el l (whereT l p).toNat)).toNat - y < (sizeT' (el l (whereT l p).toNat)).toNat - x ∧ ((x : Int) + 1 =
 (y : Int) ∧ ((0 : Nat) = 0 ∧ (nbX (el l (whereT l p).toNat) (whereK l p) (p - whereK l p) x).length = (nbX (el l (whereT l p).toNat) (whereK l p) (p - whereK l p) y).length ∧ True) ∧ True) ∧ nbX (el l (whereT l p).toNat)
 (whereK l p) (p - whereK l p) x = nbX (el l (whereT l p).toNat) (whereK l p) (p - whereK l p) y ∧ True))) ∧ (((x : Int) < sizeT' (el l (whereT l p).toNat) → False) → 0 + (nbX (el l (whereT l p).toNat) (whereK l p) (p -
 whereK l p) x).length ≤ (nbX (el l (whereT l p).toNat) (whereK l p) (p - whereK l p) x).length ∧ D.list (List.take (nbX (el l (whereT l p).toNat) (whereK l p) (p - whereK l p) x).length (nbX (el l (whereT l p).toNat)
 (whereK l p) (p - whereK l p) x)) = nbD l p))) := by intros; kernel_rfl
theorem size_range (d : D) : 0 ≤ sizeT' d ∧ sizeT' d ≤ 24 := by
  by_cases h : sizeZ (tShape d) (tA d) (tB d) = 0
  · unfold sizeT'; omega
  · have := size_cases h; unfold sizeT'; omega
theorem where_off2 (l : D) : ∀ f i (k : Int) t m, whereZ l f i k = some (t, m) → m ≤ k ∧ k - m ≤ 24 * (f : Int)
  | 0, _, _, _, _, h => by simp [whereZ] at h
  | f + 1, i, k, t, m, h => by
    unfold whereZ at h
    have := size_range (el l i)
    split at h
    · cases h; omega
    · have := where_off2 l f (i + 1) _ t m h
      omega
theorem whereP_off {l : D} {p : Int} (h : whereP l p) : whereK l p ≤ p ∧ p - whereK l p ≤ 24 * (l.len : Int) := by
  obtain ⟨h⟩ := h
  cases hO : whereO l p with
  | none => exact absurd hO h
  | some x =>
    obtain ⟨t, m⟩ := x
    have eK : whereK l p = m := by unfold whereK; rw [hO]; rfl
    unfold whereO at hO
    split at hO
    · cases hO
    · rw [eK]; exact where_off2 l _ _ _ _ _ hO
theorem nbX_near {d : D} {k base : Int} {x : Nat} (h : nearP (tShape d) (tA d) (tB d) k x) : nbX d k base (x + 1) = nbX d k base x ++ [.int (base + x)] := by
  unfold nbX nbL
  rw [List.range_succ, List.filter_append, List.map_append]
  simp [h]
theorem nbX_far {d : D} {k base : Int} {x : Nat} (h : ¬ nearP (tShape d) (tA d) (tB d) k x) : nbX d k base (x + 1) = nbX d k base x := by
  unfold nbX nbL
  rw [List.range_succ, List.filter_append, List.map_append]
  simp [h]
theorem nbX_len (d : D) (k base : Int) (x : Nat) : (nbX d k base x).length ≤ x := by
  unfold nbX nbL
  rw [List.length_map]
  exact Nat.le_trans (List.length_filter_le _ _) (by rw [List.length_range]; exact Nat.le_refl _)
theorem s54 (l : D) (p : Int) (hs : smallD l) (hp : i64P p) : symFun (ctx seat3 lvlAnn) 6 54 [.dat 22 l, .int .i64 p] (.dat 29 (nbD l p)) := by
  rw [vc54]
  simp only [imp_false, Classical.not_not]
  refine ⟨⟨hs, hp⟩, fun h1 => by unfold nbD; rw [if_neg h1], fun h1 => ?_⟩
  obtain ⟨t1, t2, t3⟩ := whereP_tab h1
  obtain ⟨o1, o2⟩ := whereP_off h1
  have hk := t3.out
  have hl := hs.out.1
  have hnb : nbD l p = listD (nbX (el l (whereT l p).toNat) (whereK l p) (p - whereK l p) (sizeT' (el l (whereT l p).toNat)).toNat) := by unfold nbD; rw [if_pos h1]; rfl
  have hN := size_range (el l (whereT l p).toNat)
  have hz : sizeT' (el l (whereT l p).toNat) ≠ 0 := hk.1
  have hT : ∀ m : Int, 0 ≤ m → m < sizeT' (el l (whereT l p).toNat) → inTab (tShape (el l (whereT l p).toNat)) (tA (el l (whereT l p).toNat)) (tB (el l (whereT l p).toNat)) m := fun m h h' => ⟨hk.1, h, h'⟩
  rw [hnb]
  clear hnb hk hs hp
  generalize el l (whereT l p).toNat = d at *
  generalize whereK l p = k at *
  generalize hb : p - k = base at *
  generalize hn : sizeT' d = N at *
  refine ⟨t1, t2, hz, .inl ⟨0, ⟨Nat.zero_le _, rfl⟩, ⟨rfl, trivial, trivial⟩, trivial⟩, fun x hx => ⟨by unfold LIM; omega, fun hlt => ?_, fun hge => ?_⟩, fun x hx => ⟨by unfold LIM; omega, fun hlt => ?_, fun hge => ?_⟩⟩
  · refine ⟨t1, t2, ⟨t3, hT _ (by omega) hlt⟩, fun hn => ⟨⟨by omega, by omega⟩, ⟨by omega, by omega⟩, by simp, by omega, ⟨by omega, by omega⟩, .inr ⟨x + 1, ⟨by omega, ?_⟩, by omega, ⟨by omega, ⟨trivial, ?_, trivial⟩, trivial⟩, ?_, trivial⟩⟩, fun hn => ⟨⟨by omega, by omega⟩, .inl ⟨x + 1, ⟨by omega, by rw [nbX_far hn]; exact hx.2⟩, by omega, ⟨by omega, trivial, trivial⟩, trivial⟩⟩⟩
    all_goals rw [nbX_near hn, hx.2]; simp
  · have e : N.toNat = x := by omega
    rw [e, hx.2]; rfl
  · have hlen := nbX_len d k base x
    refine ⟨t1, t2, ⟨t3, hT _ (by omega) hlt⟩, fun hn => ⟨⟨by omega, by omega⟩, ⟨by omega, by omega⟩, by simp, by omega, by omega, ⟨by omega, by omega⟩, .inr ⟨x + 1, ⟨by omega, ?_⟩, by omega, ⟨by omega, ⟨trivial, ?_, trivial⟩, trivial⟩, ?_, trivial⟩⟩, fun hn => ⟨⟨by omega, by omega⟩, .inr ⟨x + 1, ⟨by omega, by rw [nbX_far hn]; exact hx.2⟩, by omega, ⟨by omega, ⟨trivial, by rw [nbX_far hn], trivial⟩, trivial⟩, by rw [nbX_far hn], trivial⟩⟩⟩
    all_goals rw [nbX_near hn]; simp
  · have e : N.toNat = x := by omega
    rw [e, List.take_length]
    refine ⟨by omega, ?_⟩
    cases hc : nbX d k base x with
    | nil => exact absurd hc hx.2
    | cons y ys => rfl
theorem v54 : ∀ d, 51 ≤ d → VC d 54 con54 := fun d hd =>
  valid_of_sym (C := ctx seat3 lvlAnn) (G := GC) (B := 45) (m := 6) rfl rfl rfl vs3 (fun us p r hc hp ht => by
    unfold con54 at hc; split at hc
    · cases hc; exact s54 _ _ hp.1 hp.2
    · cases hc) (fun _ _ => rfl) rfl rfl d hd
end Go.Ev

end

section
open Go.Proofs
namespace Go.Ev
theorem beside_symm {sh a b k m : Int} (h : besideP sh a b k m) : besideP sh a b m k := by
  have h := h.out
  unfold hi lo at h
  rw [show max k m = max m k by omega, show min k m = min m k by omega] at h
  exact ⟨⟨fun e => h.1 e.symm, by unfold hi lo; exact h.2⟩⟩
theorem across_symm {sh a b k m : Int} (h : acrossP sh a b k m) : acrossP sh a b m k := by
  have h := h.out
  unfold hi lo at h
  rw [show max k m = max m k by omega, show min k m = min m k by omega] at h
  exact ⟨⟨fun e => h.1 e.symm, by unfold hi lo; exact h.2⟩⟩
theorem near_symm {sh a b k m : Int} (h : nearP sh a b k m) : nearP sh a b m k := ⟨h.out.imp beside_symm across_symm⟩
section
variable {sh a b : Int} {n : Nat}
theorem nN_symm {x y : Nat} (h : nearN sh a b x y) : nearN sh a b y x := near_symm (show nearP sh a b x y from h)
theorem dz_nil {x y : Nat} : distZ n (nearN sh a b) x y = 0 ↔ x = y := ⟨fun h => (distZ_zero h).symm, fun h => by subst h; exact distZ_self⟩
end
end Go.Ev

end

section
open Go.Proofs
namespace Go.Ev
set_option maxRecDepth 100000
set_option maxHeartbeats 4000000
theorem vc149 : ∀ (nm : List UInt8) (sh a b : Int) (o : D) (x y : Int), symFun (ctx seat2 l2Ann) 6 (149 : FuncId) [V.agg [V.str nm, V.int IntKind.u8 sh, V.int IntKind.i64 a, V.int IntKind.i64 b, V.dat (29 : TypeId) o,
 V.int IntKind.i64 x, V.int IntKind.i64 y]] (V.int IntKind.i64 (honZ sh a b)) = ((sh = 1 → 0 = honZ sh a b) ∧ ((sh = 1 → False) → (sh = 2 → (b = 0 → ((2 : Int) = 0 → False) ∧ ((-9223372036854775808) ≤ a.tdiv 2 ∧ a.tdiv 2
 < 9223372036854775808) ∧ a.tdiv 2 = honZ sh a b) ∧ ((b = 0 → False) → a = honZ sh a b)) ∧ ((sh = 2 → False) → (sh = 3 → ((2 : Int) = 0 → False) ∧ ((-9223372036854775808) ≤ a.tdiv 2 ∧ a.tdiv 2 < 9223372036854775808) ∧
 ((-9223372036854775808) ≤ b + a.tdiv 2 ∧ b + a.tdiv 2 < 9223372036854775808) ∧ b + a.tdiv 2 = honZ sh a b) ∧ ((sh = 3 → False) → (sh = 4 → ((2 : Int) = 0 → False) ∧ ((-9223372036854775808) ≤ a.tdiv 2 ∧ a.tdiv 2 <
 9223372036854775808) ∧ a.tdiv 2 = honZ sh a b) ∧ ((sh = 4 → False) → False))))) := by intros; kernel_rfl
theorem vc109 : ∀ (nm : List UInt8) (sh a b : Int) (o : D) (x y : Int), symFun (ctx seat4 l2Ann) 9 (109 : FuncId) [V.agg [V.str nm, V.int IntKind.u8 sh, V.int IntKind.i64 a, V.int IntKind.i64 b, V.dat (29 : TypeId) o,
 V.int IntKind.i64 x, V.int IntKind.i64 y]] (V.dat (29 : TypeId) (D.list (levelRow sh a b))) = ((sizeZ sh a b = 0 → False) ∧ (sizeZ sh a b = 0 → False) ∧ (sizeZ sh a b < 0 → False) ∧ ((sizeZ sh a b < 0 → False) →
 (Int.ofNat 1 = 1 ∧ 0 ≤ IntKind.u64.wrap (sizeZ sh a b) ∧ IntKind.u64.wrap (sizeZ sh a b) ≤ 24) ∧ (((0 : Int) < 0 → False) → (9223372036854775807 < IntKind.u64.wrap (sizeZ sh a b) → False) ∧ ((9223372036854775807 <
 IntKind.u64.wrap (sizeZ sh a b) → False) → 0 ≤ IntKind.i64.wrap (IntKind.u64.wrap (sizeZ sh a b)) ∧ IntKind.i64.wrap (IntKind.u64.wrap (sizeZ sh a b)) ≤ IntKind.i64.wrap (IntKind.u64.wrap (sizeZ sh a b)) ∧
 IntKind.i64.wrap (IntKind.u64.wrap (sizeZ sh a b)) ≤ 16777216 ∧ (ctx seat4 l2Ann).P.types[3].bytes * (nW sh a b) ≤ 281474976710656 ∧ 0 + (nW sh a b) ≤ (List.replicate (nW sh a b) (D.int 0)).length ∧ 0 + 1 ≤ [D.int
 (-1)].length ∧ 0 < (nW sh a b) ∧ (0 : Nat) < 1 ∧ (∃ (x : Nat), (0 < x ∧ x ≤ (nW sh a b)) ∧ ((↑(min 1 (nW sh a b)) : Int) = (x : Int) ∧ True) ∧ List.take 0 (List.replicate (nW sh a b) (D.int 0)) ++ List.take (min 1 (nW sh
 a b)) [D.int (-1)] ++ List.drop (0 + min 1 (nW sh a b)) (List.replicate (nW sh a b) (D.int 0)) = rowF x (nW sh a b) ∧ True) ∧ ∀ (x : Nat), 0 < x ∧ x ≤ (nW sh a b) → (nW sh a b) - x < LIM ∧ ((x : Int) < (↑(nW sh a b) :
 Int) → 0 ≤ (x : Int) ∧ (x : Int) ≤ (↑(nW sh a b) : Int) ∧ ((↑(nW sh a b) : Int) - (↑(nW sh a b) : Int)).NonNeg ∧ (0 : Int) ≤ 0 ∧ 0 ≤ (x : Int) ∧ ((↑(nW sh a b) : Int) - (x : Int)).NonNeg ∧ x + ((nW sh a b) - x) ≤ (rowF x
 (nW sh a b)).length ∧ 0 + 0 + x ≤ (rowF x (nW sh a b)).length ∧ 0 < (nW sh a b) - x ∧ 0 < x ∧ ((-9223372036854775808) ≤ (x : Int) + (↑(min x ((nW sh a b) - x)) : Int) ∧ (x : Int) + (↑(min x ((nW sh a b) - x)) : Int) <
 9223372036854775808) ∧ ∃ (y : Nat), (0 < y ∧ y ≤ (nW sh a b)) ∧ (nW sh a b) - y < (nW sh a b) - x ∧ ((x : Int) + (↑(min x ((nW sh a b) - x)) : Int) = (y : Int) ∧ True) ∧ List.take x (rowF x (nW sh a b)) ++ List.take (min
 x ((nW sh a b) - x)) (List.drop (0 + 0) (rowF x (nW sh a b))) ++ List.drop (x + min x ((nW sh a b) - x)) (rowF x (nW sh a b)) = rowF y (nW sh a b) ∧ True) ∧ (((x : Int) < (↑(nW sh a b) : Int) → False) → 0 ≤ honZ sh a b ∧
 honZ sh a b < (↑(nW sh a b) : Int) ∧ (honZ sh a b).toNat < (rowF x (nW sh a b)).length ∧ ((∃ (x_1 : (Nat → Int) × List D × List Nat), bfsS (nW sh a b) sh a b (honZ sh a b) x_1.fst x_1.snd.snd ∧ ((0 = x_1.snd.fst.length ∧
 1 = x_1.snd.snd.length ∧ 1 = x_1.snd.snd.length) ∧ True) ∧ [D.int (honZ sh a b)] = x_1.snd.fst ++ rowQ x_1.snd.snd ∧ (rowF x (nW sh a b)).set (honZ sh a b).toNat (D.int 0) = rowN (nW sh a b) x_1.fst ∧ True) ∨ ∃ (x : (Nat
 → Int) × List D × List Nat), bfsS (nW sh a b) sh a b (honZ sh a b) x.fst x.snd.snd ∧ False) ∧ (∀ (x : (Nat → Int) × List D × List Nat), bfsS (nW sh a b) sh a b (honZ sh a b) x.fst x.snd.snd → negs (nW sh a b) x.fst +
 x.snd.snd.length < LIM ∧ (0 < (x.snd.snd.length : Int) → (0 : Int) ≤ 0 ∧ 0 < (x.snd.snd.length : Int) ∧ x.snd.fst.length + Int.toNat 0 < (x.snd.fst ++ rowQ x.snd.snd).length ∧ (0 : Int) ≤ 1 ∧ 1 ≤ (x.snd.snd.length : Int)
 ∧ ((x.snd.snd.length : Int) - (x.snd.snd.length : Int)).NonNeg ∧ ((∃ (x_1 : (Nat → Int) × List D × List Nat × Nat), (bfsI (nW sh a b) sh a b (honZ sh a b) (hdQ x.snd) (x_1.snd.snd.snd : Int) x_1.fst x_1.snd.snd.fst ∧
 x_1.snd.snd.snd ≤ (nW sh a b) ∧ negs (nW sh a b) x_1.fst + x_1.snd.snd.fst.length = negsR (rowN (nW sh a b) x.fst) + (x.snd.snd.length - Int.toNat 1)) ∧ (0 = (x_1.snd.snd.snd : Int) ∧ (x.snd.fst.length + Int.toNat 1 =
 x_1.snd.fst.length ∧ x.snd.snd.length - Int.toNat 1 = x_1.snd.snd.fst.length ∧ x.snd.snd.length - Int.toNat 1 = x_1.snd.snd.fst.length) ∧ True) ∧ x.snd.fst ++ rowQ x.snd.snd = x_1.snd.fst ++ rowQ x_1.snd.snd.fst ∧ rowN
 (nW sh a b) x.fst = rowN (nW sh a b) x_1.fst ∧ True) ∨ ∃ (x_1 : (Nat → Int) × List D × List Nat × Nat), (bfsI (nW sh a b) sh a b (honZ sh a b) (hdQ x.snd) (x_1.snd.snd.snd : Int) x_1.fst x_1.snd.snd.fst ∧ x_1.snd.snd.snd
 ≤ (nW sh a b) ∧ negs (nW sh a b) x_1.fst + x_1.snd.snd.fst.length = negsR (rowN (nW sh a b) x.fst) + (x.snd.snd.length - Int.toNat 1)) ∧ False) ∧ (∀ (x_1 : (Nat → Int) × List D × List Nat × Nat), bfsI (nW sh a b) sh a b
 (honZ sh a b) (hdQ x.snd) (x_1.snd.snd.snd : Int) x_1.fst x_1.snd.snd.fst ∧ x_1.snd.snd.snd ≤ (nW sh a b) ∧ negs (nW sh a b) x_1.fst + x_1.snd.snd.fst.length = negsR (rowN (nW sh a b) x.fst) + (x.snd.snd.length -
 Int.toNat 1) → (nW sh a b) - x_1.snd.snd.snd < LIM ∧ ((x_1.snd.snd.snd : Int) < (↑(nW sh a b) : Int) → 0 ≤ (x_1.snd.snd.snd : Int) ∧ (x_1.snd.snd.snd : Int) < (↑(nW sh a b) : Int) ∧ x_1.snd.snd.snd < (rowN (nW sh a b)
 x_1.fst).length ∧ ((nthD (rowN (nW sh a b) x_1.fst) x_1.snd.snd.snd).asInt < 0 → (inTab sh a b (hdQ x.snd) ∧ inTab sh a b (x_1.snd.snd.snd : Int)) ∧ (nearP sh a b (hdQ x.snd) (x_1.snd.snd.snd : Int) → 0 ≤ (hdQ x.snd) ∧
 (hdQ x.snd) < (↑(nW sh a b) : Int) ∧ (hdQ x.snd).toNat < (rowN (nW sh a b) x_1.fst).length ∧ ((-9223372036854775808) ≤ (nthD (rowN (nW sh a b) x_1.fst) (hdQ x.snd).toNat).asInt + 1 ∧ (nthD (rowN (nW sh a b) x_1.fst) (hdQ
 x.snd).toNat).asInt + 1 < 9223372036854775808) ∧ 0 ≤ (x_1.snd.snd.snd : Int) ∧ (x_1.snd.snd.snd : Int) < (↑(nW sh a b) : Int) ∧ x_1.snd.snd.snd < (rowN (nW sh a b) x_1.fst).length ∧ 0 + 1 ≤ [D.int (x_1.snd.snd.snd :
 Int)].length ∧ x_1.snd.fst.length + x_1.snd.snd.fst.length ≤ (x_1.snd.fst ++ rowQ x_1.snd.snd.fst).length ∧ x_1.snd.snd.fst.length + 1 ≤ 16777216 ∧ (x_1.snd.snd.fst.length + 1 ≤ x_1.snd.snd.fst.length →
 x_1.snd.fst.length + x_1.snd.snd.fst.length + 1 ≤ (x_1.snd.fst ++ rowQ x_1.snd.snd.fst).length ∧ ((-9223372036854775808) ≤ (x_1.snd.snd.snd : Int) + 1 ∧ (x_1.snd.snd.snd : Int) + 1 < 9223372036854775808) ∧ ((∃ (y : (Nat
 → Int) × List D × List Nat × Nat), (bfsI (nW sh a b) sh a b (honZ sh a b) (hdQ x.snd) (y.snd.snd.snd : Int) y.fst y.snd.snd.fst ∧ y.snd.snd.snd ≤ (nW sh a b) ∧ negs (nW sh a b) y.fst + y.snd.snd.fst.length = negsR (rowN
 (nW sh a b) x.fst) + (x.snd.snd.length - Int.toNat 1)) ∧ (nW sh a b) - y.snd.snd.snd < (nW sh a b) - x_1.snd.snd.snd ∧ ((x_1.snd.snd.snd : Int) + 1 = (y.snd.snd.snd : Int) ∧ (x_1.snd.fst.length = y.snd.fst.length ∧
 x_1.snd.snd.fst.length + 1 = y.snd.snd.fst.length ∧ x_1.snd.snd.fst.length = y.snd.snd.fst.length) ∧ True) ∧ List.take (x_1.snd.fst.length + x_1.snd.snd.fst.length) (x_1.snd.fst ++ rowQ x_1.snd.snd.fst) ++ List.take 1
 [D.int (x_1.snd.snd.snd : Int)] ++ List.drop (x_1.snd.fst.length + x_1.snd.snd.fst.length + 1) (x_1.snd.fst ++ rowQ x_1.snd.snd.fst) = y.snd.fst ++ rowQ y.snd.snd.fst ∧ (rowN (nW sh a b) x_1.fst).set x_1.snd.snd.snd
 (D.int ((nthD (rowN (nW sh a b) x_1.fst) (hdQ x.snd).toNat).asInt + 1)) = rowN (nW sh a b) y.fst ∧ True) ∨ ∃ (y : (Nat → Int) × List D × List Nat × Nat), (bfsI (nW sh a b) sh a b (honZ sh a b) (hdQ x.snd) (y.snd.snd.snd
 : Int) y.fst y.snd.snd.fst ∧ y.snd.snd.snd ≤ (nW sh a b) ∧ negs (nW sh a b) y.fst + y.snd.snd.fst.length = negsR (rowN (nW sh a b) x.fst) + (x.snd.snd.length - Int.toNat 1)) ∧ (nW sh a b) - y.snd.snd.snd < (nW sh a b) -
 x_1.snd.snd.snd ∧ False)) ∧ (x_1.snd.snd.fst.length < x_1.snd.snd.fst.length + 1 → ((-9223372036854775808) ≤ (x_1.snd.snd.snd : Int) + 1 ∧ (x_1.snd.snd.snd : Int) + 1 < 9223372036854775808) ∧ ((∃ (y : (Nat → Int) × List
 D × List Nat × Nat), (bfsI (nW sh a b) sh a b (honZ sh a b) (hdQ x.snd) (y.snd.snd.snd : Int) y.fst y.snd.snd.fst ∧ y.snd.snd.snd ≤ (nW sh a b) ∧ negs (nW sh a b) y.fst + y.snd.snd.fst.length = negsR (rowN (nW sh a b)
 x.fst) + (x.snd.snd.length - Int.toNat 1)) ∧ (nW sh a b) - y.snd.snd.snd < (nW sh a b) - x_1.snd.snd.snd ∧ False) ∨ ∃ (y : (Nat → Int) × List D × List Nat × Nat), (bfsI (nW sh a b) sh a b (honZ sh a b) (hdQ x.snd)
 (y.snd.snd.snd : Int) y.fst y.snd.snd.fst ∧ y.snd.snd.snd ≤ (nW sh a b) ∧ negs (nW sh a b) y.fst + y.snd.snd.fst.length = negsR (rowN (nW sh a b) x.fst) + (x.snd.snd.length - Int.toNat 1)) ∧ (nW sh a b) - y.snd.snd.snd <
 (nW sh a b) - x_1.snd.snd.snd ∧ ((x_1.snd.snd.snd : Int) + 1 = (y.snd.snd.snd : Int) ∧ (0 = y.snd.fst.length ∧ x_1.snd.snd.fst.length + 1 = y.snd.snd.fst.length ∧ True) ∧ True) ∧ List.take x_1.snd.snd.fst.length
 (List.drop x_1.snd.fst.length (x_1.snd.fst ++ rowQ x_1.snd.snd.fst)) ++ List.take 1 [D.int (x_1.snd.snd.snd : Int)] = y.snd.fst ++ rowQ y.snd.snd.fst ∧ (rowN (nW sh a b) x_1.fst).set x_1.snd.snd.snd (D.int ((nthD (rowN
 (nW sh a b) x_1.fst) (hdQ x.snd).toNat).asInt + 1)) = rowN (nW sh a b) y.fst ∧ True))) ∧ ((nearP sh a b (hdQ x.snd) (x_1.snd.snd.snd : Int) → False) → ((-9223372036854775808) ≤ (x_1.snd.snd.snd : Int) + 1 ∧
 (x_1.snd.snd.snd : Int) + 1 < 9223372036854775808) ∧ ((∃ (y : (Nat → Int) × List D × List Nat × Nat), (bfsI (nW sh a b) sh a b (honZ sh a b) (hdQ x.snd) (y.snd.snd.snd : Int) y.fst y.snd.snd.fst ∧ y.snd.snd.snd ≤ (nW sh
 a b) ∧ negs (nW sh a b) y.fst + y.snd.snd.fst.length = negsR (rowN (nW sh a b) x.fst) + (x.snd.snd.length - Int.toNat 1)) ∧ (nW sh a b) - y.snd.snd.snd < (nW sh a b) - x_1.snd.snd.snd ∧ ((x_1.snd.snd.snd : Int) + 1 =
 (y.snd.snd.snd : Int) ∧ (x_1.snd.fst.length = y.snd.fst.length ∧ x_1.snd.snd.fst.length = y.snd.snd.fst.length ∧ x_1.snd.snd.fst.length = y.snd.snd.fst.length) ∧ True) ∧ x_1.snd.fst ++ rowQ x_1.snd.snd.fst = y.snd.fst ++
 rowQ y.snd.snd.fst ∧ rowN (nW sh a b) x_1.fst = rowN (nW sh a b) y.fst ∧ True) ∨ ∃ (y : (Nat → Int) × List D × List Nat × Nat), (bfsI (nW sh a b) sh a b (honZ sh a b) (hdQ x.snd) (y.snd.snd.snd : Int) y.fst y.snd.snd.fst
 ∧ y.snd.snd.snd ≤ (nW sh a b) ∧ negs (nW sh a b) y.fst + y.snd.snd.fst.length = negsR (rowN (nW sh a b) x.fst) + (x.snd.snd.length - Int.toNat 1)) ∧ (nW sh a b) - y.snd.snd.snd < (nW sh a b) - x_1.snd.snd.snd ∧ False)))
 ∧ (((nthD (rowN (nW sh a b) x_1.fst) x_1.snd.snd.snd).asInt < 0 → False) → ((-9223372036854775808) ≤ (x_1.snd.snd.snd : Int) + 1 ∧ (x_1.snd.snd.snd : Int) + 1 < 9223372036854775808) ∧ ((∃ (y : (Nat → Int) × List D × List
 Nat × Nat), (bfsI (nW sh a b) sh a b (honZ sh a b) (hdQ x.snd) (y.snd.snd.snd : Int) y.fst y.snd.snd.fst ∧ y.snd.snd.snd ≤ (nW sh a b) ∧ negs (nW sh a b) y.fst + y.snd.snd.fst.length = negsR (rowN (nW sh a b) x.fst) +
 (x.snd.snd.length - Int.toNat 1)) ∧ (nW sh a b) - y.snd.snd.snd < (nW sh a b) - x_1.snd.snd.snd ∧ ((x_1.snd.snd.snd : Int) + 1 = (y.snd.snd.snd : Int) ∧ (x_1.snd.fst.length = y.snd.fst.length ∧ x_1.snd.snd.fst.length =
 y.snd.snd.fst.length ∧ x_1.snd.snd.fst.length = y.snd.snd.fst.length) ∧ True) ∧ x_1.snd.fst ++ rowQ x_1.snd.snd.fst = y.snd.fst ++ rowQ y.snd.snd.fst ∧ rowN (nW sh a b) x_1.fst = rowN (nW sh a b) y.fst ∧ True) ∨ ∃ (y :
 (Nat → Int) × List D × List Nat × Nat), (bfsI (nW sh a b) sh a b (honZ sh a b) (hdQ x.snd) (y.snd.snd.snd : Int) y.fst y.snd.snd.fst ∧ y.snd.snd.snd ≤ (nW sh a b) ∧ negs (nW sh a b) y.fst + y.snd.snd.fst.length = negsR
 (rowN (nW sh a b) x.fst) + (x.snd.snd.length - Int.toNat 1)) ∧ (nW sh a b) - y.snd.snd.snd < (nW sh a b) - x_1.snd.snd.snd ∧ False))) ∧ (((x_1.snd.snd.snd : Int) < (↑(nW sh a b) : Int) → False) → (∃ (y : (Nat → Int) ×
 List D × List Nat), bfsS (nW sh a b) sh a b (honZ sh a b) y.fst y.snd.snd ∧ negs (nW sh a b) y.fst + y.snd.snd.length < negs (nW sh a b) x.fst + x.snd.snd.length ∧ ((x_1.snd.fst.length = y.snd.fst.length ∧
 x_1.snd.snd.fst.length = y.snd.snd.length ∧ x_1.snd.snd.fst.length = y.snd.snd.length) ∧ True) ∧ x_1.snd.fst ++ rowQ x_1.snd.snd.fst = y.snd.fst ++ rowQ y.snd.snd ∧ rowN (nW sh a b) x_1.fst = rowN (nW sh a b) y.fst ∧
 True) ∨ ∃ (y : (Nat → Int) × List D × List Nat), bfsS (nW sh a b) sh a b (honZ sh a b) y.fst y.snd.snd ∧ negs (nW sh a b) y.fst + y.snd.snd.length < negs (nW sh a b) x.fst + x.snd.snd.length ∧ False)) ∧ ∀ (x_1 : (Nat →
 Int) × List D × List Nat × Nat), bfsI (nW sh a b) sh a b (honZ sh a b) (hdQ x.snd) (x_1.snd.snd.snd : Int) x_1.fst x_1.snd.snd.fst ∧ x_1.snd.snd.snd ≤ (nW sh a b) ∧ negs (nW sh a b) x_1.fst + x_1.snd.snd.fst.length =
 negsR (rowN (nW sh a b) x.fst) + (x.snd.snd.length - Int.toNat 1) → (nW sh a b) - x_1.snd.snd.snd < LIM ∧ ((x_1.snd.snd.snd : Int) < (↑(nW sh a b) : Int) → 0 ≤ (x_1.snd.snd.snd : Int) ∧ (x_1.snd.snd.snd : Int) < (↑(nW sh
 a b) : Int) ∧ x_1.snd.snd.snd < (rowN (nW sh a b) x_1.fst).length ∧ ((nthD (rowN (nW sh a b) x_1.fst) x_1.snd.snd.snd).asInt < 0 → (inTab sh a b (hdQ x.snd) ∧ inTab sh a b (x_1.snd.snd.snd : Int)) ∧ (nearP sh a b (hdQ
 x.snd) (x_1.snd.snd.snd : Int) → 0 ≤ (hdQ x.snd) ∧ (hdQ x.snd) < (↑(nW sh a b) : Int) ∧ (hdQ x.snd).toNat < (rowN (nW sh a b) x_1.fst).length ∧ ((-9223372036854775808) ≤ (nthD (rowN (nW sh a b) x_1.fst) (hdQ
 x.snd).toNat).asInt + 1 ∧ (nthD (rowN (nW sh a b) x_1.fst) (hdQ x.snd).toNat).asInt + 1 < 9223372036854775808) ∧ 0 ≤ (x_1.snd.snd.snd : Int) ∧ (x_1.snd.snd.snd : Int) < (↑(nW sh a b) : Int) ∧ x_1.snd.snd.snd < (rowN (nW
 sh a b) x_1.fst).length ∧ 0 + 1 ≤ [D.int (x_1.snd.snd.snd : Int)].length ∧ x_1.snd.fst.length + x_1.snd.snd.fst.length ≤ (x_1.snd.fst ++ rowQ x_1.snd.snd.fst).length ∧ x_1.snd.snd.fst.length + 1 ≤ 16777216 ∧
 ((-9223372036854775808) ≤ (x_1.snd.snd.snd : Int) + 1 ∧ (x_1.snd.snd.snd : Int) + 1 < 9223372036854775808) ∧ ((∃ (y : (Nat → Int) × List D × List Nat × Nat), (bfsI (nW sh a b) sh a b (honZ sh a b) (hdQ x.snd)
 (y.snd.snd.snd : Int) y.fst y.snd.snd.fst ∧ y.snd.snd.snd ≤ (nW sh a b) ∧ negs (nW sh a b) y.fst + y.snd.snd.fst.length = negsR (rowN (nW sh a b) x.fst) + (x.snd.snd.length - Int.toNat 1)) ∧ (nW sh a b) - y.snd.snd.snd <
 (nW sh a b) - x_1.snd.snd.snd ∧ False) ∨ ∃ (y : (Nat → Int) × List D × List Nat × Nat), (bfsI (nW sh a b) sh a b (honZ sh a b) (hdQ x.snd) (y.snd.snd.snd : Int) y.fst y.snd.snd.fst ∧ y.snd.snd.snd ≤ (nW sh a b) ∧ negs
 (nW sh a b) y.fst + y.snd.snd.fst.length = negsR (rowN (nW sh a b) x.fst) + (x.snd.snd.length - Int.toNat 1)) ∧ (nW sh a b) - y.snd.snd.snd < (nW sh a b) - x_1.snd.snd.snd ∧ ((x_1.snd.snd.snd : Int) + 1 = (y.snd.snd.snd
 : Int) ∧ (0 = y.snd.fst.length ∧ x_1.snd.snd.fst.length + 1 = y.snd.snd.fst.length ∧ True) ∧ True) ∧ List.take x_1.snd.snd.fst.length (List.drop x_1.snd.fst.length (x_1.snd.fst ++ rowQ x_1.snd.snd.fst)) ++ List.take 1
 [D.int (x_1.snd.snd.snd : Int)] = y.snd.fst ++ rowQ y.snd.snd.fst ∧ (rowN (nW sh a b) x_1.fst).set x_1.snd.snd.snd (D.int ((nthD (rowN (nW sh a b) x_1.fst) (hdQ x.snd).toNat).asInt + 1)) = rowN (nW sh a b) y.fst ∧ True))
 ∧ ((nearP sh a b (hdQ x.snd) (x_1.snd.snd.snd : Int) → False) → ((-9223372036854775808) ≤ (x_1.snd.snd.snd : Int) + 1 ∧ (x_1.snd.snd.snd : Int) + 1 < 9223372036854775808) ∧ ((∃ (y : (Nat → Int) × List D × List Nat ×
 Nat), (bfsI (nW sh a b) sh a b (honZ sh a b) (hdQ x.snd) (y.snd.snd.snd : Int) y.fst y.snd.snd.fst ∧ y.snd.snd.snd ≤ (nW sh a b) ∧ negs (nW sh a b) y.fst + y.snd.snd.fst.length = negsR (rowN (nW sh a b) x.fst) +
 (x.snd.snd.length - Int.toNat 1)) ∧ (nW sh a b) - y.snd.snd.snd < (nW sh a b) - x_1.snd.snd.snd ∧ False) ∨ ∃ (y : (Nat → Int) × List D × List Nat × Nat), (bfsI (nW sh a b) sh a b (honZ sh a b) (hdQ x.snd) (y.snd.snd.snd
 : Int) y.fst y.snd.snd.fst ∧ y.snd.snd.snd ≤ (nW sh a b) ∧ negs (nW sh a b) y.fst + y.snd.snd.fst.length = negsR (rowN (nW sh a b) x.fst) + (x.snd.snd.length - Int.toNat 1)) ∧ (nW sh a b) - y.snd.snd.snd < (nW sh a b) -
 x_1.snd.snd.snd ∧ ((x_1.snd.snd.snd : Int) + 1 = (y.snd.snd.snd : Int) ∧ (x_1.snd.fst.length = y.snd.fst.length ∧ x_1.snd.snd.fst.length = y.snd.snd.fst.length ∧ True) ∧ True) ∧ x_1.snd.fst ++ rowQ x_1.snd.snd.fst =
 y.snd.fst ++ rowQ y.snd.snd.fst ∧ rowN (nW sh a b) x_1.fst = rowN (nW sh a b) y.fst ∧ True))) ∧ (((nthD (rowN (nW sh a b) x_1.fst) x_1.snd.snd.snd).asInt < 0 → False) → ((-9223372036854775808) ≤ (x_1.snd.snd.snd : Int) +
 1 ∧ (x_1.snd.snd.snd : Int) + 1 < 9223372036854775808) ∧ ((∃ (y : (Nat → Int) × List D × List Nat × Nat), (bfsI (nW sh a b) sh a b (honZ sh a b) (hdQ x.snd) (y.snd.snd.snd : Int) y.fst y.snd.snd.fst ∧ y.snd.snd.snd ≤ (nW
 sh a b) ∧ negs (nW sh a b) y.fst + y.snd.snd.fst.length = negsR (rowN (nW sh a b) x.fst) + (x.snd.snd.length - Int.toNat 1)) ∧ (nW sh a b) - y.snd.snd.snd < (nW sh a b) - x_1.snd.snd.snd ∧ False) ∨ ∃ (y : (Nat → Int) ×
 List D × List Nat × Nat), (bfsI (nW sh a b) sh a b (honZ sh a b) (hdQ x.snd) (y.snd.snd.snd : Int) y.fst y.snd.snd.fst ∧ y.snd.snd.snd ≤ (nW sh a b) ∧ negs (nW sh a b) y.fst + y.snd.snd.fst.length = negsR (rowN (nW sh a
 b) x.fst) + (x.snd.snd.length - Int.toNat 1)) ∧ (nW sh a b) - y.snd.snd.snd < (nW sh a b) - x_1.snd.snd.snd ∧ ((x_1.snd.snd.snd : Int) + 1 = (y.snd.snd.snd : Int) ∧ (x_1.snd.fst.length = y.snd.fst.length ∧
 x_1.snd.snd.fst.length = y.snd.snd.fst.length ∧ True) ∧ True) ∧ x_1.snd.fst ++ rowQ x_1.snd.snd.fst = y.snd.fst ++ rowQ y.snd.snd.fst ∧ rowN (nW sh a b) x_1.fst = rowN (nW sh a b) y.fst ∧ True))) ∧ (((x_1.snd.snd.snd :
 Int) < (↑(nW sh a b) : Int) → False) → (∃ (y : (Nat → Int) × List D × List Nat), bfsS (nW sh a b) sh a b (honZ sh a b) y.fst y.snd.snd ∧ negs (nW sh a b) y.fst + y.snd.snd.length < negs (nW sh a b) x.fst +
 x.snd.snd.length ∧ False) ∨ ∃ (y : (Nat → Int) × List D × List Nat), bfsS (nW sh a b) sh a b (honZ sh a b) y.fst y.snd.snd ∧ negs (nW sh a b) y.fst + y.snd.snd.length < negs (nW sh a b) x.fst + x.snd.snd.length ∧
 ((x_1.snd.fst.length = y.snd.fst.length ∧ x_1.snd.snd.fst.length = y.snd.snd.length ∧ True) ∧ True) ∧ x_1.snd.fst ++ rowQ x_1.snd.snd.fst = y.snd.fst ++ rowQ y.snd.snd ∧ rowN (nW sh a b) x_1.fst = rowN (nW sh a b) y.fst
 ∧ True)) ∧ ((0 < (x.snd.snd.length : Int) → False) → (∃ (x_1 : Nat), x_1.le (rowN (nW sh a b) x.fst).length ∧ (0 = (x_1 : Int) ∧ True) ∧ rowN (nW sh a b) x.fst = fixR (rowN (nW sh a b) x.fst) x_1 ∧ True) ∧ ∀ (x_1 : Nat),
 x_1.le (rowN (nW sh a b) x.fst).length → (rowN (nW sh a b) x.fst).length - x_1 < LIM ∧ ((x_1 : Int) < (↑(nW sh a b) : Int) → 0 ≤ (x_1 : Int) ∧ (x_1 : Int) < (↑(nW sh a b) : Int) ∧ x_1 < (fixR (rowN (nW sh a b) x.fst)
 x_1).length ∧ ((nthD (fixR (rowN (nW sh a b) x.fst) x_1) x_1).asInt < 0 → 0 ≤ (x_1 : Int) ∧ (x_1 : Int) < (↑(nW sh a b) : Int) ∧ x_1 < (fixR (rowN (nW sh a b) x.fst) x_1).length ∧ ((-9223372036854775808) ≤ (x_1 : Int) +
 1 ∧ (x_1 : Int) + 1 < 9223372036854775808) ∧ ∃ (y : Nat), y.le (rowN (nW sh a b) x.fst).length ∧ (rowN (nW sh a b) x.fst).length - y < (rowN (nW sh a b) x.fst).length - x_1 ∧ ((x_1 : Int) + 1 = (y : Int) ∧ True) ∧ (fixR
 (rowN (nW sh a b) x.fst) x_1).set x_1 (D.int (↑(nW sh a b) : Int)) = fixR (rowN (nW sh a b) x.fst) y ∧ True) ∧ (((nthD (fixR (rowN (nW sh a b) x.fst) x_1) x_1).asInt < 0 → False) → ((-9223372036854775808) ≤ (x_1 : Int) +
 1 ∧ (x_1 : Int) + 1 < 9223372036854775808) ∧ ∃ (y : Nat), y.le (rowN (nW sh a b) x.fst).length ∧ (rowN (nW sh a b) x.fst).length - y < (rowN (nW sh a b) x.fst).length - x_1 ∧ ((x_1 : Int) + 1 = (y : Int) ∧ True) ∧ fixR
 (rowN (nW sh a b) x.fst) x_1 = fixR (rowN (nW sh a b) x.fst) y ∧ True)) ∧ (((x_1 : Int) < (↑(nW sh a b) : Int) → False) → 0 + (nW sh a b) ≤ (fixR (rowN (nW sh a b) x.fst) x_1).length ∧ D.list (List.take (nW sh a b) (fixR
 (rowN (nW sh a b) x.fst) x_1)) = D.list (levelRow sh a b)))) ∧ ∀ (x : (Nat → Int) × List D × List Nat), bfsS (nW sh a b) sh a b (honZ sh a b) x.fst x.snd.snd → negs (nW sh a b) x.fst + x.snd.snd.length < LIM ∧ (0 <
 (x.snd.snd.length : Int) → (0 : Int) ≤ 0 ∧ 0 < (x.snd.snd.length : Int) ∧ x.snd.fst.length + Int.toNat 0 < (x.snd.fst ++ rowQ x.snd.snd).length ∧ (0 : Int) ≤ 1 ∧ 1 ≤ (x.snd.snd.length : Int) ∧ ((x.snd.snd.length : Int) -
 (x.snd.snd.length : Int)).NonNeg ∧ ((∃ (x_1 : (Nat → Int) × List D × List Nat × Nat), (bfsI (nW sh a b) sh a b (honZ sh a b) (hdQ x.snd) (x_1.snd.snd.snd : Int) x_1.fst x_1.snd.snd.fst ∧ x_1.snd.snd.snd ≤ (nW sh a b) ∧
 negs (nW sh a b) x_1.fst + x_1.snd.snd.fst.length = negsR (rowN (nW sh a b) x.fst) + (x.snd.snd.length - Int.toNat 1)) ∧ (0 = (x_1.snd.snd.snd : Int) ∧ (x.snd.fst.length + Int.toNat 1 = x_1.snd.fst.length ∧
 x.snd.snd.length - Int.toNat 1 = x_1.snd.snd.fst.length ∧ True) ∧ True) ∧ x.snd.fst ++ rowQ x.snd.snd = x_1.snd.fst ++ rowQ x_1.snd.snd.fst ∧ rowN (nW sh a b) x.fst = rowN (nW sh a b) x_1.fst ∧ True) ∨ ∃ (x_1 : (Nat →
 Int) × List D × List Nat × Nat), (bfsI (nW sh a b) sh a b (honZ sh a b) (hdQ x.snd) (x_1.snd.snd.snd : Int) x_1.fst x_1.snd.snd.fst ∧ x_1.snd.snd.snd ≤ (nW sh a b) ∧ negs (nW sh a b) x_1.fst + x_1.snd.snd.fst.length =
 negsR (rowN (nW sh a b) x.fst) + (x.snd.snd.length - Int.toNat 1)) ∧ False) ∧ (∀ (x_1 : (Nat → Int) × List D × List Nat × Nat), bfsI (nW sh a b) sh a b (honZ sh a b) (hdQ x.snd) (x_1.snd.snd.snd : Int) x_1.fst
 x_1.snd.snd.fst ∧ x_1.snd.snd.snd ≤ (nW sh a b) ∧ negs (nW sh a b) x_1.fst + x_1.snd.snd.fst.length = negsR (rowN (nW sh a b) x.fst) + (x.snd.snd.length - Int.toNat 1) → (nW sh a b) - x_1.snd.snd.snd < LIM ∧
 ((x_1.snd.snd.snd : Int) < (↑(nW sh a b) : Int) → 0 ≤ (x_1.snd.snd.snd : Int) ∧ (x_1.snd.snd.snd : Int) < (↑(nW sh a b) : Int) ∧ x_1.snd.snd.snd < (rowN (nW sh a b) x_1.fst).length ∧ ((nthD (rowN (nW sh a b) x_1.fst)
 x_1.snd.snd.snd).asInt < 0 → (inTab sh a b (hdQ x.snd) ∧ inTab sh a b (x_1.snd.snd.snd : Int)) ∧ (nearP sh a b (hdQ x.snd) (x_1.snd.snd.snd : Int) → 0 ≤ (hdQ x.snd) ∧ (hdQ x.snd) < (↑(nW sh a b) : Int) ∧ (hdQ
 x.snd).toNat < (rowN (nW sh a b) x_1.fst).length ∧ ((-9223372036854775808) ≤ (nthD (rowN (nW sh a b) x_1.fst) (hdQ x.snd).toNat).asInt + 1 ∧ (nthD (rowN (nW sh a b) x_1.fst) (hdQ x.snd).toNat).asInt + 1 <
 9223372036854775808) ∧ 0 ≤ (x_1.snd.snd.snd : Int) ∧ (x_1.snd.snd.snd : Int) < (↑(nW sh a b) : Int) ∧ x_1.snd.snd.snd < (rowN (nW sh a b) x_1.fst).length ∧ 0 + 1 ≤ [D.int (x_1.snd.snd.snd : Int)].length ∧
 x_1.snd.fst.length + x_1.snd.snd.fst.length ≤ (x_1.snd.fst ++ rowQ x_1.snd.snd.fst).length ∧ x_1.snd.snd.fst.length + 1 ≤ 16777216 ∧ ((-9223372036854775808) ≤ (x_1.snd.snd.snd : Int) + 1 ∧ (x_1.snd.snd.snd : Int) + 1 <
 9223372036854775808) ∧ ((∃ (y : (Nat → Int) × List D × List Nat × Nat), (bfsI (nW sh a b) sh a b (honZ sh a b) (hdQ x.snd) (y.snd.snd.snd : Int) y.fst y.snd.snd.fst ∧ y.snd.snd.snd ≤ (nW sh a b) ∧ negs (nW sh a b) y.fst
 + y.snd.snd.fst.length = negsR (rowN (nW sh a b) x.fst) + (x.snd.snd.length - Int.toNat 1)) ∧ (nW sh a b) - y.snd.snd.snd < (nW sh a b) - x_1.snd.snd.snd ∧ False) ∨ ∃ (y : (Nat → Int) × List D × List Nat × Nat), (bfsI
 (nW sh a b) sh a b (honZ sh a b) (hdQ x.snd) (y.snd.snd.snd : Int) y.fst y.snd.snd.fst ∧ y.snd.snd.snd ≤ (nW sh a b) ∧ negs (nW sh a b) y.fst + y.snd.snd.fst.length = negsR (rowN (nW sh a b) x.fst) + (x.snd.snd.length -
 Int.toNat 1)) ∧ (nW sh a b) - y.snd.snd.snd < (nW sh a b) - x_1.snd.snd.snd ∧ ((x_1.snd.snd.snd : Int) + 1 = (y.snd.snd.snd : Int) ∧ (0 = y.snd.fst.length ∧ x_1.snd.snd.fst.length + 1 = y.snd.snd.fst.length ∧ True) ∧
 True) ∧ List.take x_1.snd.snd.fst.length (List.drop x_1.snd.fst.length (x_1.snd.fst ++ rowQ x_1.snd.snd.fst)) ++ List.take 1 [D.int (x_1.snd.snd.snd : Int)] = y.snd.fst ++ rowQ y.snd.snd.fst ∧ (rowN (nW sh a b)
 x_1.fst).set x_1.snd.snd.snd (D.int ((nthD (rowN (nW sh a b) x_1.fst) (hdQ x.snd).toNat).asInt + 1)) = rowN (nW sh a b) y.fst ∧ True)) ∧ ((nearP sh a b (hdQ x.snd) (x_1.snd.snd.snd : Int) → False) →
 ((-9223372036854775808) ≤ (x_1.snd.snd.snd : Int) + 1 ∧ (x_1.snd.snd.snd : Int) + 1 < 9223372036854775808) ∧ ((∃ (y : (Nat → Int) × List D × List Nat × Nat), (bfsI (nW sh a b) sh a b (honZ sh a b) (hdQ x.snd)
 (y.snd.snd.snd : Int) y.fst y.snd.snd.fst ∧ y.snd.snd.snd ≤ (nW sh a b) ∧ negs (nW sh a b) y.fst + y.snd.snd.fst.length = negsR (rowN (nW sh a b) x.fst) + (x.snd.snd.length - Int.toNat 1)) ∧ (nW sh a b) - y.snd.snd.snd <
 (nW sh a b) - x_1.snd.snd.snd ∧ ((x_1.snd.snd.snd : Int) + 1 = (y.snd.snd.snd : Int) ∧ (x_1.snd.fst.length = y.snd.fst.length ∧ x_1.snd.snd.fst.length = y.snd.snd.fst.length ∧ True) ∧ True) ∧ x_1.snd.fst ++ rowQ
 x_1.snd.snd.fst = y.snd.fst ++ rowQ y.snd.snd.fst ∧ rowN (nW sh a b) x_1.fst = rowN (nW sh a b) y.fst ∧ True) ∨ ∃ (y : (Nat → Int) × List D × List Nat × Nat), (bfsI (nW sh a b) sh a b (honZ sh a b) (hdQ x.snd)
 (y.snd.snd.snd : Int) y.fst y.snd.snd.fst ∧ y.snd.snd.snd ≤ (nW sh a b) ∧ negs (nW sh a b) y.fst + y.snd.snd.fst.length = negsR (rowN (nW sh a b) x.fst) + (x.snd.snd.length - Int.toNat 1)) ∧ (nW sh a b) - y.snd.snd.snd <
 (nW sh a b) - x_1.snd.snd.snd ∧ False))) ∧ (((nthD (rowN (nW sh a b) x_1.fst) x_1.snd.snd.snd).asInt < 0 → False) → ((-9223372036854775808) ≤ (x_1.snd.snd.snd : Int) + 1 ∧ (x_1.snd.snd.snd : Int) + 1 <
 9223372036854775808) ∧ ((∃ (y : (Nat → Int) × List D × List Nat × Nat), (bfsI (nW sh a b) sh a b (honZ sh a b) (hdQ x.snd) (y.snd.snd.snd : Int) y.fst y.snd.snd.fst ∧ y.snd.snd.snd ≤ (nW sh a b) ∧ negs (nW sh a b) y.fst
 + y.snd.snd.fst.length = negsR (rowN (nW sh a b) x.fst) + (x.snd.snd.length - Int.toNat 1)) ∧ (nW sh a b) - y.snd.snd.snd < (nW sh a b) - x_1.snd.snd.snd ∧ ((x_1.snd.snd.snd : Int) + 1 = (y.snd.snd.snd : Int) ∧
 (x_1.snd.fst.length = y.snd.fst.length ∧ x_1.snd.snd.fst.length = y.snd.snd.fst.length ∧ True) ∧ True) ∧ x_1.snd.fst ++ rowQ x_1.snd.snd.fst = y.snd.fst ++ rowQ y.snd.snd.fst ∧ rowN (nW sh a b) x_1.fst = rowN (nW sh a b)
 y.fst ∧ True) ∨ ∃ (y : (Nat → Int) × List D × List Nat × Nat), (bfsI (nW sh a b) sh a b (honZ sh a b) (hdQ x.snd) (y.snd.snd.snd : Int) y.fst y.snd.snd.fst ∧ y.snd.snd.snd ≤ (nW sh a b) ∧ negs (nW sh a b) y.fst +
 y.snd.snd.fst.length = negsR (rowN (nW sh a b) x.fst) + (x.snd.snd.length - Int.toNat 1)) ∧ (nW sh a b) - y.snd.snd.snd < (nW sh a b) - x_1.snd.snd.snd ∧ False))) ∧ (((x_1.snd.snd.snd : Int) < (↑(nW sh a b) : Int) →
 False) → (∃ (y : (Nat → Int) × List D × List Nat), bfsS (nW sh a b) sh a b (honZ sh a b) y.fst y.snd.snd ∧ negs (nW sh a b) y.fst + y.snd.snd.length < negs (nW sh a b) x.fst + x.snd.snd.length ∧ False) ∨ ∃ (y : (Nat →
 Int) × List D × List Nat), bfsS (nW sh a b) sh a b (honZ sh a b) y.fst y.snd.snd ∧ negs (nW sh a b) y.fst + y.snd.snd.length < negs (nW sh a b) x.fst + x.snd.snd.length ∧ ((x_1.snd.fst.length = y.snd.fst.length ∧
 x_1.snd.snd.fst.length = y.snd.snd.length ∧ True) ∧ True) ∧ x_1.snd.fst ++ rowQ x_1.snd.snd.fst = y.snd.fst ++ rowQ y.snd.snd ∧ rowN (nW sh a b) x_1.fst = rowN (nW sh a b) y.fst ∧ True)) ∧ ∀ (x_1 : (Nat → Int) × List D ×
 List Nat × Nat), bfsI (nW sh a b) sh a b (honZ sh a b) (hdQ x.snd) (x_1.snd.snd.snd : Int) x_1.fst x_1.snd.snd.fst ∧ x_1.snd.snd.snd ≤ (nW sh a b) ∧ negs (nW sh a b) x_1.fst + x_1.snd.snd.fst.length = negsR (rowN (nW sh
 a b) x.fst) + (x.snd.snd.length - Int.toNat 1) → (nW sh a b) - x_1.snd.snd.snd < LIM ∧ ((x_1.snd.snd.snd : Int) < (↑(nW sh a b) : Int) → 0 ≤ (x_1.snd.snd.snd : Int) ∧ (x_1.snd.snd.snd : Int) < (↑(nW sh a b) : Int) ∧
 x_1.snd.snd.snd < (rowN (nW sh a b) x_1.fst).length ∧ ((nthD (rowN (nW sh a b) x_1.fst) x_1.snd.snd.snd).asInt < 0 → (inTab sh a b (hdQ x.snd) ∧ inTab sh a b (x_1.snd.snd.snd : Int)) ∧ (nearP sh a b (hdQ x.snd)
 (x_1.snd.snd.snd : Int) → 0 ≤ (hdQ x.snd) ∧ (hdQ x.snd) < (↑(nW sh a b) : Int) ∧ (hdQ x.snd).toNat < (rowN (nW sh a b) x_1.fst).length ∧ ((-9223372036854775808) ≤ (nthD (rowN (nW sh a b) x_1.fst) (hdQ x.snd).toNat).asInt
 + 1 ∧ (nthD (rowN (nW sh a b) x_1.fst) (hdQ x.snd).toNat).asInt + 1 < 9223372036854775808) ∧ 0 ≤ (x_1.snd.snd.snd : Int) ∧ (x_1.snd.snd.snd : Int) < (↑(nW sh a b) : Int) ∧ x_1.snd.snd.snd < (rowN (nW sh a b)
 x_1.fst).length ∧ 0 + 1 ≤ [D.int (x_1.snd.snd.snd : Int)].length ∧ x_1.snd.fst.length + x_1.snd.snd.fst.length ≤ (x_1.snd.fst ++ rowQ x_1.snd.snd.fst).length ∧ x_1.snd.snd.fst.length + 1 ≤ 16777216 ∧
 ((-9223372036854775808) ≤ (x_1.snd.snd.snd : Int) + 1 ∧ (x_1.snd.snd.snd : Int) + 1 < 9223372036854775808) ∧ ((∃ (y : (Nat → Int) × List D × List Nat × Nat), (bfsI (nW sh a b) sh a b (honZ sh a b) (hdQ x.snd)
 (y.snd.snd.snd : Int) y.fst y.snd.snd.fst ∧ y.snd.snd.snd ≤ (nW sh a b) ∧ negs (nW sh a b) y.fst + y.snd.snd.fst.length = negsR (rowN (nW sh a b) x.fst) + (x.snd.snd.length - Int.toNat 1)) ∧ (nW sh a b) - y.snd.snd.snd <
 (nW sh a b) - x_1.snd.snd.snd ∧ False) ∨ ∃ (y : (Nat → Int) × List D × List Nat × Nat), (bfsI (nW sh a b) sh a b (honZ sh a b) (hdQ x.snd) (y.snd.snd.snd : Int) y.fst y.snd.snd.fst ∧ y.snd.snd.snd ≤ (nW sh a b) ∧ negs
 (nW sh a b) y.fst + y.snd.snd.fst.length = negsR (rowN (nW sh a b) x.fst) + (x.snd.snd.length - Int.toNat 1)) ∧ (nW sh a b) - y.snd.snd.snd < (nW sh a b) - x_1.snd.snd.snd ∧ ((x_1.snd.snd.snd : Int) + 1 = (y.snd.snd.snd
 : Int) ∧ (0 = y.snd.fst.length ∧ x_1.snd.snd.fst.length + 1 = y.snd.snd.fst.length ∧ True) ∧ True) ∧ List.take x_1.snd.snd.fst.length (List.drop x_1.snd.fst.length (x_1.snd.fst ++ rowQ x_1.snd.snd.fst)) ++ List.take 1
 [D.int (x_1.snd.snd.snd : Int)] = y.snd.fst ++ rowQ y.snd.snd.fst ∧ (rowN (nW sh a b) x_1.fst).set x_1.snd.snd.snd (D.int ((nthD (rowN (nW sh a b) x_1.fst) (hdQ x.snd).toNat).asInt + 1)) = rowN (nW sh a b) y.fst ∧ True))
 ∧ ((nearP sh a b (hdQ x.snd) (x_1.snd.snd.snd : Int) → False) → ((-9223372036854775808) ≤ (x_1.snd.snd.snd : Int) + 1 ∧ (x_1.snd.snd.snd : Int) + 1 < 9223372036854775808) ∧ ((∃ (y : (Nat → Int) × List D × List Nat ×
 Nat), (bfsI (nW sh a b) sh a b (honZ sh a b) (hdQ x.snd) (y.snd.snd.snd : Int) y.fst y.snd.snd.fst ∧ y.snd.snd.snd ≤ (nW sh a b) ∧ negs (nW sh a b) y.fst + y.snd.snd.fst.length = negsR (rowN (nW sh a b) x.fst) +
 (x.snd.snd.length - Int.toNat 1)) ∧ (nW sh a b) - y.snd.snd.snd < (nW sh a b) - x_1.snd.snd.snd ∧ False) ∨ ∃ (y : (Nat → Int) × List D × List Nat × Nat), (bfsI (nW sh a b) sh a b (honZ sh a b) (hdQ x.snd) (y.snd.snd.snd
 : Int) y.fst y.snd.snd.fst ∧ y.snd.snd.snd ≤ (nW sh a b) ∧ negs (nW sh a b) y.fst + y.snd.snd.fst.length = negsR (rowN (nW sh a b) x.fst) + (x.snd.snd.length - Int.toNat 1)) ∧ (nW sh a b) - y.snd.snd.snd < (nW sh a b) -
 x_1.snd.snd.snd ∧ ((x_1.snd.snd.snd : Int) + 1 = (y.snd.snd.snd : Int) ∧ (x_1.snd.fst.length = y.snd.fst.length ∧ x_1.snd.snd.fst.length = y.snd.snd.fst.length ∧ True) ∧ True) ∧ x_1.snd.fst ++ rowQ x_1.snd.snd.fst =
 y.snd.fst ++ rowQ y.snd.snd.fst ∧ rowN (nW sh a b) x_1.fst = rowN (nW sh a b) y.fst ∧ True))) ∧ (((nthD (rowN (nW sh a b) x_1.fst) x_1.snd.snd.snd).asInt < 0 → False) → ((-9223372036854775808) ≤ (x_1.snd.snd.snd : Int) +
 1 ∧ (x_1.snd.snd.snd : Int) + 1 < 9223372036854775808) ∧ ((∃ (y : (Nat → Int) × List D × List Nat × Nat), (bfsI (nW sh a b) sh a b (honZ sh a b) (hdQ x.snd) (y.snd.snd.snd : Int) y.fst y.snd.snd.fst ∧ y.snd.snd.snd ≤ (nW
 sh a b) ∧ negs (nW sh a b) y.fst + y.snd.snd.fst.length = negsR (rowN (nW sh a b) x.fst) + (x.snd.snd.length - Int.toNat 1)) ∧ (nW sh a b) - y.snd.snd.snd < (nW sh a b) - x_1.snd.snd.snd ∧ False) ∨ ∃ (y : (Nat → Int) ×
 List D × List Nat × Nat), (bfsI (nW sh a b) sh a b (honZ sh a b) (hdQ x.snd) (y.snd.snd.snd : Int) y.fst y.snd.snd.fst ∧ y.snd.snd.snd ≤ (nW sh a b) ∧ negs (nW sh a b) y.fst + y.snd.snd.fst.length = negsR (rowN (nW sh a
 b) x.fst) + (x.snd.snd.length - Int.toNat 1)) ∧ (nW sh a b) - y.snd.snd.snd < (nW sh a b) - x_1.snd.snd.snd ∧ ((x_1.snd.snd.snd : Int) + 1 = (y.snd.snd.snd : Int) ∧ (x_1.snd.fst.length = y.snd.fst.length ∧
 x_1.snd.snd.fst.length = y.snd.snd.fst.length ∧ True) ∧ True) ∧ x_1.snd.fst ++ rowQ x_1.snd.snd.fst = y.snd.fst ++ rowQ y.snd.snd.fst ∧ rowN (nW sh a b) x_1.fst = rowN (nW sh a b) y.fst ∧ True))) ∧ (((x_1.snd.snd.snd :
 Int) < (↑(nW sh a b) : Int) → False) → (∃ (y : (Nat → Int) × List D × List Nat), bfsS (nW sh a b) sh a b (honZ sh a b) y.fst y.snd.snd ∧ negs (nW sh a b) y.fst + y.snd.snd.length < negs (nW sh a b) x.fst +
 x.snd.snd.length ∧ False) ∨ ∃ (y : (Nat → Int) × List D × List Nat), bfsS (nW sh a b) sh a b (honZ sh a b) y.fst y.snd.snd ∧ negs (nW sh a b) y.fst + y.snd.snd.length < negs (nW sh a b) x.fst + x.snd.snd.length ∧
 ((x_1.snd.fst.length = y.snd.fst.length ∧ x_1.snd.snd.fst.length = y.snd.snd.length ∧ True) ∧ True) ∧ x_1.snd.fst ++ rowQ x_1.snd.snd.fst = y.snd.fst ++ rowQ y.snd.snd ∧ rowN (nW sh a b) x_1.fst = rowN (nW sh a b) y.fst
 ∧ True)) ∧ ((0 < (x.snd.snd.length : Int) → False) → (∃ (x_1 : Nat), x_1.le (rowN (nW sh a b) x.fst).length ∧ (0 = (x_1 : Int) ∧ True) ∧ rowN (nW sh a b) x.fst = fixR (rowN (nW sh a b) x.fst) x_1 ∧ True) ∧ ∀ (x_1 : Nat),
 x_1.le (rowN (nW sh a b) x.fst).length → (rowN (nW sh a b) x.fst).length - x_1 < LIM ∧ ((x_1 : Int) < (↑(nW sh a b) : Int) → 0 ≤ (x_1 : Int) ∧ (x_1 : Int) < (↑(nW sh a b) : Int) ∧ x_1 < (fixR (rowN (nW sh a b) x.fst)
 x_1).length ∧ ((nthD (fixR (rowN (nW sh a b) x.fst) x_1) x_1).asInt < 0 → 0 ≤ (x_1 : Int) ∧ (x_1 : Int) < (↑(nW sh a b) : Int) ∧ x_1 < (fixR (rowN (nW sh a b) x.fst) x_1).length ∧ ((-9223372036854775808) ≤ (x_1 : Int) +
 1 ∧ (x_1 : Int) + 1 < 9223372036854775808) ∧ ∃ (y : Nat), y.le (rowN (nW sh a b) x.fst).length ∧ (rowN (nW sh a b) x.fst).length - y < (rowN (nW sh a b) x.fst).length - x_1 ∧ ((x_1 : Int) + 1 = (y : Int) ∧ True) ∧ (fixR
 (rowN (nW sh a b) x.fst) x_1).set x_1 (D.int (↑(nW sh a b) : Int)) = fixR (rowN (nW sh a b) x.fst) y ∧ True) ∧ (((nthD (fixR (rowN (nW sh a b) x.fst) x_1) x_1).asInt < 0 → False) → ((-9223372036854775808) ≤ (x_1 : Int) +
 1 ∧ (x_1 : Int) + 1 < 9223372036854775808) ∧ ∃ (y : Nat), y.le (rowN (nW sh a b) x.fst).length ∧ (rowN (nW sh a b) x.fst).length - y < (rowN (nW sh a b) x.fst).length - x_1 ∧ ((x_1 : Int) + 1 = (y : Int) ∧ True) ∧ fixR
 (rowN (nW sh a b) x.fst) x_1 = fixR (rowN (nW sh a b) x.fst) y ∧ True)) ∧ (((x_1 : Int) < (↑(nW sh a b) : Int) → False) → 0 + (nW sh a b) ≤ (fixR (rowN (nW sh a b) x.fst) x_1).length ∧ D.list (List.take (nW sh a b) (fixR
 (rowN (nW sh a b) x.fst) x_1)) = D.list (levelRow sh a b)))))) ∧ ((0 : Int) < 0 → False))) := by intros; kernel_rfl
theorem hon_in {sh a b : Int} (h : sizeZ sh a b ≠ 0) : inTab sh a b (honZ sh a b) := by
  have hs := size_cases h
  refine ⟨h, ?_⟩
  have hd : a.tdiv 2 = a / 2 ∨ a < 0 := by
    by_cases h : 0 ≤ a
    · exact .inl (Int.tdiv_eq_ediv_of_nonneg h)
    · exact .inr (by omega)
  unfold honZ
  split
  · omega
  · split
    · split <;> omega
    · split <;> omega
theorem len_fixR {row : List D} {x : Nat} (h : x ≤ row.length) : (fixR row x).length = row.length := by
  unfold fixR; simp; omega
theorem nthD_get : ∀ (l : List D) (i : Nat) (h : i < l.length), nthD l i = l[i]
  | d :: _, 0, _ => rfl
  | _ :: l, i + 1, h => nthD_get l i (by simpa using h)
theorem nth_fixR {row : List D} {x : Nat} (h : x < row.length) : nthD (fixR row x) x = nthD row x := by
  have h1 : x < (fixR row x).length := by rw [len_fixR (by omega)]; exact h
  rw [nthD_get _ _ h1, nthD_get _ _ h]
  simp only [fixR]
  rw [List.getElem_append_right (by simp; omega)]
  simp
  congr 1; omega
theorem fixR_succ {row : List D} {x : Nat} (h : x < row.length) : fixR row (x + 1) = (row.take x).map (fun d => if d.asInt < 0 then .int row.length else d) ++ (if (nthD row x).asInt < 0 then D.int row.length else nthD row x) :: row.drop (x + 1) := by
  unfold fixR
  rw [List.take_succ_eq_append_getElem h, List.map_append, List.append_assoc, nthD_get _ _ h]
  rfl
theorem fixR_neg {row : List D} {x : Nat} (h : x < row.length) (hn : (nthD row x).asInt < 0) : (fixR row x).set x (.int row.length) = fixR row (x + 1) := by
  rw [fixR_succ h, if_pos hn]
  unfold fixR
  rw [List.set_append_right _ _ (by simp; omega), List.drop_eq_getElem_cons h]
  have : x - (List.map (fun d => if d.asInt < 0 then D.int row.length else d) (List.take x row)).length = 0 := by simp; omega
  rw [this]; rfl
theorem fixR_pos {row : List D} {x : Nat} (h : x < row.length) (hn : ¬ (nthD row x).asInt < 0) : fixR row x = fixR row (x + 1) := by
  rw [fixR_succ h, if_neg hn, nthD_get _ _ h]
  unfold fixR
  rw [List.drop_eq_getElem_cons h]
theorem s149 (nm : List UInt8) (sh a b : Int) (o : D) (x y : Int) (h : sizeZ sh a b ≠ 0) : symFun (ctx seat2 l2Ann) 6 149 [.agg [.str nm, .int .u8 sh, .int .i64 a, .int .i64 b, .dat 29 o, .int .i64 x, .int .i64 y]] (.int .i64 (honZ sh a b)) := by
  have hs := size_cases h
  have hd : a.tdiv 2 = a / 2 := Int.tdiv_eq_ediv_of_nonneg (by omega)
  rw [vc149]
  simp only [imp_false, honZ, hd]
  refine ⟨fun h1 => by rw [if_pos h1], fun h1 => ⟨fun h2 => ⟨fun h3 => ⟨by omega, ⟨by omega, by omega⟩, ?_⟩, fun h3 => ?_⟩, fun h2 => ⟨fun h3 => ⟨by omega, ⟨by omega, by omega⟩, ⟨by omega, by omega⟩, ?_⟩, fun h3 => ⟨fun h4 => ⟨by omega, ⟨by omega, by omega⟩, ?_⟩, fun h4 => by omega⟩⟩⟩⟩
  · rw [if_neg h1, if_pos h2, if_pos h3]
  · rw [if_neg h1, if_pos h2, if_neg h3]
  · rw [if_neg h1, if_neg h2, if_pos h3]
  · rw [if_neg h1, if_neg h2, if_neg h3]
theorem s109 (nm : List UInt8) (sh a b : Int) (o : D) (x y : Int) (h0 : sizeZ sh a b ≠ 0) : symFun (ctx seat4 l2Ann) 9 109 [.agg [.str nm, .int .u8 sh, .int .i64 a, .int .i64 b, .dat 29 o, .int .i64 x, .int .i64 y]] (.dat 29 (.list (levelRow sh a b))) := by
  have h := hon_in h0
  have hs := size_cases h.out.1
  have hk := h.out.2
  have h24 : 0 < sizeZ sh a b ∧ sizeZ sh a b ≤ 24 := by omega
  have hT : ∀ m : Int, inTab sh a b m ↔ 0 ≤ m ∧ m < sizeZ sh a b := fun m => ⟨fun h => h.out.2, fun h' => ⟨h.out.1, h'⟩⟩
  rw [vc109]
  unfold nW hdQ
  have hlv : levelRow sh a b = fixR (distRow (sizeZ sh a b).toNat sh a b (honZ sh a b)) (sizeZ sh a b).toNat := rfl
  rw [hlv]
  have e3 : (ctx seat4 l2Ann).P.types[(3 : Nat)].bytes = 8 := rfl
  obtain ⟨n, hn⟩ : ∃ n : Nat, sizeZ sh a b = n := ⟨(sizeZ sh a b).toNat, by omega⟩
  rw [hn] at hk h24
  have e1 := wrapU (n := n) (by omega) h24.2
  have e2 := wrapI (n := n) (by omega) h24.2
  simp only [hT, hn, e1, e2, e3, Int.toNat_natCast, len_rowN, len_rowQ, negsR_row, List.length_append, List.length_replicate, List.length_cons, List.length_nil, Int.toNat_zero, Int.toNat_one, Nat.zero_add, Nat.add_zero, true_and, and_true, and_false, exists_false, exists_const, or_false, false_or, imp_false, Classical.not_not, Int.ofNat_lt, Int.natCast_nonneg, Int.natCast_inj]
  clear e1 e2 e3 hT hlv
  generalize honZ sh a b = k at *
  refine ⟨by omega, by omega, by omega, fun _ => ⟨⟨rfl, by omega⟩, fun _ => ⟨by omega, fun _ => ⟨by omega, by omega, by omega, by omega, by omega, by omega, by omega, ⟨1, ⟨by omega, by omega⟩, by omega, rowF_one (by omega)⟩, fun x hx => ⟨by unfold LIM; omega, fun hlt => ?A, fun hge => ?B⟩⟩⟩, by omega⟩⟩
  case A =>
    have hF := len_rowF hx.2
    refine ⟨by omega, nonneg_of (by omega), by omega, nonneg_of (by omega), by omega, by omega, by omega, by omega, ⟨by omega, by omega⟩, x + min x (n - x), ⟨by omega, by omega⟩, by omega, by omega, rowF_step hx.2⟩
  case B =>
    have hF := len_rowF hx.2
    have hxn : x = n := by omega
    subst hxn
    refine ⟨hk.1, hk.2, by omega, ⟨(upd (fun _ => -1) k.toNat 0, [], [k.toNat]), bfsS.start hk.1 hk.2, ⟨rfl, rfl, rfl⟩, ?_, ?_⟩, ?O0, ?O1⟩
    · show [D.int k] = [D.int (k.toNat : Int)]
      rw [Int.toNat_of_nonneg hk.1]
    · rw [rowF_full, set_rowN]
    all_goals
      rintro ⟨L, pre, Q⟩ hb
      have hlen := hb.len
      refine ⟨by unfold LIM; simp only at hlen ⊢; omega, fun h0 => ?_, fun h0 => ?_⟩
      rotate_left
      · have hQ : Q = [] := List.eq_nil_of_length_eq_zero (by simp only at h0; omega)
        subst hQ
        have hrow := bfsS.finish hb
        simp only at hrow ⊢
        rw [← hrow]
        have hln := len_rowN x L
        refine ⟨⟨0, Nat.zero_le _, rfl, by simp [fixR]⟩, fun z hz => ?_⟩
        have hz' : z ≤ x := hz
        have hfl : (fixR (rowN x L) z).length = x := by rw [len_fixR (by omega)]; exact hln
        refine ⟨by unfold LIM; omega, fun hlt => ⟨by omega, by omega, fun hneg => ⟨by omega, by omega, ⟨by omega, by omega⟩, z + 1, hlt, by omega, by omega, ?_⟩, fun hneg => ⟨⟨by omega, by omega⟩, z + 1, hlt, by omega, by omega, ?_⟩⟩, fun hge => ⟨by omega, ?_⟩⟩
        · rw [nth_fixR (by omega)] at hneg
          have := fixR_neg (row := rowN x L) (x := z) (by omega) hneg
          rw [hln] at this; exact this
        · rw [nth_fixR (by omega)] at hneg
          exact fixR_pos (by omega) hneg
        · have e : z = x := by omega
          subst e
          rw [List.take_of_length_le (by omega)]
      cases Q with
      | nil => exact absurd h0 (by simp)
      | cons q Q =>
        have hq : q < x := (hb.out.q q List.mem_cons_self).1
        simp only [nth_queue, List.length_cons] at hlen ⊢
        refine ⟨by omega, by omega, by omega, by omega, by omega, nonneg_of (by omega), ⟨(L, pre ++ [D.int (q : Int)], Q, 0), ?_⟩, ?_, ?_⟩
        · refine ⟨⟨bfsS.enter hb, Nat.zero_le _, ?_⟩, by simp, by simp [rowQ], rfl⟩
          show negs x L + Q.length = negs x L + (Q.length + 1 - 1); omega
        all_goals
          rintro ⟨L1, p1, Q1, i⟩ ⟨hI, hle, hng⟩
          simp only at hI hle hng ⊢
          have hlen' : negs x L + (Q.length + 1) ≤ x := hlen
          refine ⟨by unfold LIM; omega, fun hi => ?_, fun hi => ⟨(L1, p1, Q1), hI.leave hi hle (by omega), ?_⟩⟩
          · have hL := nth_rowN L1 hi
            have hLq := nth_rowN L1 hq
            simp only [hL, hLq, Int.toNat_natCast]
            refine ⟨hi, hi, fun hneg => ⟨⟨⟨by omega, by omega⟩, hi⟩, fun hn => ?_, fun hn => ⟨⟨by omega, by omega⟩, (L1, p1, Q1, i + 1), ⟨hI.skip fun h => hn h.2, hi, hng⟩, ?_⟩⟩, fun hneg => ⟨⟨by omega, by omega⟩, (L1, p1, Q1, i + 1), ⟨hI.skip fun h => hneg h.1, hi, hng⟩, ?_⟩⟩
            · obtain ⟨hs1, hs2⟩ := hI.step hi hneg hn
              have lq := hI.low q hq
              have hrow := set_rowN (n := x) (i := i) L1 (L1 q + 1)
              have hge : 0 ≤ L1 q := by obtain ⟨d, hd⟩ := hI.out; have := hd.here.2; simp only [Int.toNat_natCast] at this; omega
              repeat' (first | apply And.intro | intro _)
              all_goals first
                | omega
                | (exfalso; omega)
                | (refine ⟨(upd L1 i (L1 q + 1), [], Q1 ++ [i], i + 1), ⟨hs1, hi, ?_⟩, ?_, ?_, ?_, hrow⟩
                   · show negs x (upd L1 i (L1 q + 1)) + (Q1 ++ [i]).length = _
                     simp only [List.length_append, List.length_cons, List.length_nil]; omega
                   · show x - (i + 1) < x - i; omega
                   · simp
                   · simp only [List.nil_append, rowQ, List.map_append, List.drop_left, List.map_cons, List.map_nil, List.take_succ_cons, List.take_zero]
                     rw [List.take_of_length_le (by simp)])
            · exact ⟨by show x - (i + 1) < x - i; omega, by simp, rfl, rfl⟩
            · exact ⟨by show x - (i + 1) < x - i; omega, by simp, rfl, rfl⟩
          · exact ⟨by show negs x L1 + Q1.length < negs x L + (Q.length + 1); omega, by simp, rfl, rfl⟩
theorem v149 : ∀ d, 43 ≤ d → VC d 149 con149 := fun d hd =>
  valid_of_sym (C := ctx seat2 l2Ann) (G := GC) (B := 37) (m := 6) rfl rfl rfl vs2 (fun us p r hc hp ht => by
    unfold con149 at hc; split at hc
    · cases hc; exact s149 _ _ _ _ _ _ _ hp
    · cases hc) (fun _ _ => rfl) rfl rfl d hd
theorem vs4 : ∀ d, 43 ≤ d → ∀ g c, seat4 g = some c → VC d g c := fun d hd g c h => by
  unfold seat4 at h
  split at h
  · cases h; exact v149 d hd
  · exact vs2 d (by omega) _ c h
theorem v109 : ∀ d, 52 ≤ d → VC d 109 con109 := fun d hd =>
  valid_of_sym (C := ctx seat4 l2Ann) (G := GC) (B := 43) (m := 9) rfl rfl rfl vs4 (fun us p r hc hp ht => by
    unfold con109 at hc; split at hc
    · cases hc; exact s109 _ _ _ _ _ _ _ hp
    · cases hc) (fun _ _ => rfl) rfl rfl d hd
theorem len_levelRow (sh a b : Int) : (levelRow sh a b).length = (sizeZ sh a b).toNat := by
  unfold levelRow
  rw [len_fixR (by rw [len_dist]; exact Nat.le_refl _), len_dist]
theorem vc53 : ∀ (l : D) (p : Int), symFun (ctx seat5 l2Ann) 6 (53 : FuncId) [V.dat (22 : TypeId) l, V.int IntKind.i64 p] (V.int IntKind.i64 (levelH l p)) = ((smallD l ∧ i64P p) ∧ ((whereP l p → False) → 0 = levelH l p)
 ∧ (((whereP l p → False) → False) → 0 ≤ whereT l p ∧ whereT l p < (l.len : Int) ∧ (sizeT' (el l (whereT l p).toNat) = 0 → False) ∧ 0 ≤ whereK l p ∧ whereK l p < (↑(levelRow (tShape (el l (whereT l p).toNat)) (tA (el l
 (whereT l p).toNat)) (tB (el l (whereT l p).toNat))).length : Int) ∧ (nthD (levelRow (tShape (el l (whereT l p).toNat)) (tA (el l (whereT l p).toNat)) (tB (el l (whereT l p).toNat))) (whereK l p).toNat).asInt = levelH l
 p)) := by intros; kernel_rfl
theorem s53 (l : D) (p : Int) (hs : smallD l) (hp : i64P p) : symFun (ctx seat5 l2Ann) 6 53 [.dat 22 l, .int .i64 p] (.int .i64 (levelH l p)) := by
  rw [vc53]
  simp only [imp_false, Classical.not_not]
  refine ⟨⟨hs, hp⟩, fun h1 => by unfold levelH; rw [if_neg h1], fun h1 => ?_⟩
  obtain ⟨t1, t2, t3⟩ := whereP_tab h1
  have hk := t3.out
  refine ⟨t1, t2, hk.1, hk.2.1, ?_, ?_⟩
  · rw [len_levelRow]; omega
  · unfold levelH; rw [if_pos h1]; rfl
theorem vs5 : ∀ d, 52 ≤ d → ∀ g c, seat5 g = some c → VC d g c := fun d hd g c h => by
  unfold seat5 at h
  split at h
  · cases h; exact v109 d hd
  · cases h; exact v149 d (by omega)
  · exact vs3 d (by omega) _ c h
theorem v53 : ∀ d, 58 ≤ d → VC d 53 con53 := fun d hd =>
  valid_of_sym (C := ctx seat5 l2Ann) (G := GC) (B := 52) (m := 6) rfl rfl rfl vs5 (fun us p r hc hp ht => by
    unfold con53 at hc; split at hc
    · cases hc; exact s53 _ _ hp.1 hp.2
    · cases hc) (fun _ _ => rfl) rfl rfl d hd
end Go.Ev

end

section
open Go.Proofs
namespace Go.Ev
set_option maxRecDepth 100000
set_option maxHeartbeats 4000000
theorem nth_mapR (f : Nat → D) (n i : Nat) (h : i < n) : nthD ((List.range n).map f) i = f i := by
  unfold nthD; rw [List.getElem?_map, List.getElem?_range h]; rfl
section
variable {sh a b first : Int} {n : Nat}
end
end Go.Ev

end

section
open Go.Proofs
namespace Go.Ev
set_option maxRecDepth 100000
set_option maxHeartbeats 4000000
theorem sum_small {l : D} (hs : l.len ≤ 100) : ∀ n, n ≤ 100 → 0 ≤ sumZ l n ∧ sumZ l n ≤ 24 * (n : Int)
  | 0, _ => ⟨Int.le_refl 0, Int.le_refl _⟩
  | n + 1, h => by
    have ih := sum_small hs n (by omega)
    have hz := size_range (el l n)
    show 0 ≤ sumZ l n + sizeT' (el l n) ∧ sumZ l n + sizeT' (el l n) ≤ 24 * ((n + 1 : Nat) : Int)
    omega
end Go.Ev

end
