/-
  Part of the engine that the claim is proved with: it states nothing of the document by itself.
-/
import Derived.Test.YtgdbbaimkjmkgaaGreatDoorCorePermDefs
open Go.Proofs
namespace Go.Ev
set_option maxRecDepth 100000
theorem vc80 : ∀ (p : D),
  symFun (ctx (fun (x : FuncId) => none) permAnn) (3 : Nat) (80 : FuncId) [V.dat (29 : TypeId) p] (V.prop (isPermD p)) =
    ((∃ (x : Nat), (x ≤ p.len ∧ ∀ (w : Nat), w < x → ∃ (k : Nat), k < p.len ∧ atI p k = (↑w : Int)) ∧ ((0 : Int) = (↑x : Int) ∧ True) ∧ True) ∧
      ∀ (x : Nat),
        (x ≤ p.len ∧ ∀ (w : Nat), w < x → ∃ (k : Nat), k < p.len ∧ atI p k = (↑w : Int)) →
          p.len - x < LIM ∧
            ((↑x : Int) < (↑p.len : Int) →
                (∃ (x_1 : Nat × Prop),
                    (x_1.fst ≤ p.len ∧ (x_1.2 ↔ ∃ (k : Nat), k < x_1.fst ∧ atI p k = (↑x : Int))) ∧
                      ((0 : Int) = (↑x_1.fst : Int) ∧ (false = true ↔ x_1.2) ∧ True) ∧ True) ∧
                  ∀ (x_1 : Nat × Prop),
                    x_1.fst ≤ p.len ∧ (x_1.2 ↔ ∃ (k : Nat), k < x_1.fst ∧ atI p k = (↑x : Int)) →
                      p.len - x_1.fst < LIM ∧
                        ((↑x_1.fst : Int) < (↑p.len : Int) →
                            ((x_1.2 → False) →
                                (0 : Int) ≤ (↑x_1.fst : Int) ∧
                                  (↑x_1.fst : Int) < (↑p.len : Int) ∧
                                    ((-9223372036854775808 : Int) ≤ (↑x_1.fst : Int) + (1 : Int) ∧ (↑x_1.fst : Int) + (1 : Int) < (9223372036854775808 : Int)) ∧
                                      ∃ (y : Nat × Prop),
                                        (y.fst ≤ p.len ∧ (y.2 ↔ ∃ (k : Nat), k < y.fst ∧ atI p k = (↑x : Int))) ∧
                                          p.len - y.fst < p.len - x_1.fst ∧
                                            ((↑x_1.fst : Int) + (1 : Int) = (↑y.fst : Int) ∧
                                                ((nthD p.asList (↑x_1.fst : Int).toNat).asInt = (↑x : Int) ↔ y.2) ∧ True) ∧
                                              True) ∧
                              (x_1.2 →
                                ((-9223372036854775808 : Int) ≤ (↑x_1.fst : Int) + (1 : Int) ∧ (↑x_1.fst : Int) + (1 : Int) < (9223372036854775808 : Int)) ∧
                                  ∃ (y : Nat × Prop),
                                    (y.fst ≤ p.len ∧ (y.2 ↔ ∃ (k : Nat), k < y.fst ∧ atI p k = (↑x : Int))) ∧
                                      p.len - y.fst < p.len - x_1.fst ∧ ((↑x_1.fst : Int) + (1 : Int) = (↑y.fst : Int) ∧ (true = true ↔ y.2) ∧ True) ∧ True)) ∧
                          (((↑x_1.fst : Int) < (↑p.len : Int) → False) →
                            ((x_1.2 → False) → (false = true ↔ ∀ (w : Nat), w < p.len → ∃ (k : Nat), k < p.len ∧ atI p k = (↑w : Int))) ∧
                              (((x_1.2 → False) → False) →
                                ((-9223372036854775808 : Int) ≤ (↑x : Int) + (1 : Int) ∧ (↑x : Int) + (1 : Int) < (9223372036854775808 : Int)) ∧
                                  ∃ (y : Nat),
                                    (y ≤ p.len ∧ ∀ (w : Nat), w < y → ∃ (k : Nat), k < p.len ∧ atI p k = (↑w : Int)) ∧
                                      p.len - y < p.len - x ∧ ((↑x : Int) + (1 : Int) = (↑y : Int) ∧ True) ∧ True))) ∧
              (((↑x : Int) < (↑p.len : Int) → False) → (true = true ↔ ∀ (w : Nat), w < p.len → ∃ (k : Nat), k < p.len ∧ atI p k = (↑w : Int)))) := by intros; kernel_rfl

theorem vc103 : ∀ (p : D),
  symFun (ctx (fun (x : FuncId) => none) permAnn) (3 : Nat) (103 : FuncId) [V.dat (29 : TypeId) p] (V.prop (goodD p)) =
    ((0 : Int) ≤ (↑p.len : Int) ∧
      (↑p.len : Int) ≤ (↑p.len : Int) ∧
        (↑p.len : Int) ≤ (16777216 : Int) ∧
          (ctx (fun (x : FuncId) => none) permAnn).P.types[(4 : Nat)].bytes * (↑p.len : Int).toNat ≤ (281474976710656 : Nat) ∧
            (∃ (x : Nat),
                (x ≤ p.len ∧ (∀ (i : Nat), i < x → (0 : Int) ≤ atI p i ∧ atI p i < (↑p.len : Int)) ∧ ∀ (i j : Nat), i < j → j < x → atI p i = atI p j → False) ∧
                  ((0 : Int) = (↑x : Int) ∧ True) ∧ List.replicate (↑p.len : Int).toNat (D.bool (false = true)) = seenL p x ∧ True) ∧
              ∀ (x : Nat),
                (x ≤ p.len ∧ (∀ (i : Nat), i < x → (0 : Int) ≤ atI p i ∧ atI p i < (↑p.len : Int)) ∧ ∀ (i j : Nat), i < j → j < x → atI p i = atI p j → False) →
                  p.len - x < LIM ∧
                    ((↑x : Int) < (↑p.len : Int) →
                        (0 : Int) ≤ (↑x : Int) ∧
                          (↑x : Int) < (↑p.len : Int) ∧
                            (((nthD p.asList (↑x : Int).toNat).asInt < (0 : Int) → False) →
                                (((↑p.len : Int) ≤ (nthD p.asList (↑x : Int).toNat).asInt → False) →
                                    (0 : Int) ≤ (nthD p.asList (↑x : Int).toNat).asInt ∧
                                      (nthD p.asList (↑x : Int).toNat).asInt < (↑(↑p.len : Int).toNat : Int) ∧
                                        (nthD p.asList (↑x : Int).toNat).asInt.toNat < (seenL p x).length ∧
                                          ((nthD (seenL p x) (nthD p.asList (↑x : Int).toNat).asInt.toNat).asProp →
                                              (false = true ↔
                                                (∀ (i : Nat), i < p.len → (0 : Int) ≤ atI p i ∧ atI p i < (↑p.len : Int)) ∧
                                                  ∀ (i j : Nat), i < j → j < p.len → atI p i = atI p j → False)) ∧
                                            (((nthD (seenL p x) (nthD p.asList (↑x : Int).toNat).asInt.toNat).asProp → False) →
                                              (0 : Int) ≤ (nthD p.asList (↑x : Int).toNat).asInt ∧
                                                (nthD p.asList (↑x : Int).toNat).asInt < (↑(↑p.len : Int).toNat : Int) ∧
                                                  (nthD p.asList (↑x : Int).toNat).asInt.toNat < (seenL p x).length ∧
                                                    ((-9223372036854775808 : Int) ≤ (↑x : Int) + (1 : Int) ∧
                                                        (↑x : Int) + (1 : Int) < (9223372036854775808 : Int)) ∧
                                                      ∃ (y : Nat),
                                                        (y ≤ p.len ∧
                                                            (∀ (i : Nat), i < y → (0 : Int) ≤ atI p i ∧ atI p i < (↑p.len : Int)) ∧
                                                              ∀ (i j : Nat), i < j → j < y → atI p i = atI p j → False) ∧
                                                          p.len - y < p.len - x ∧
                                                            ((↑x : Int) + (1 : Int) = (↑y : Int) ∧ True) ∧
                                                              (seenL p x).set (nthD p.asList (↑x : Int).toNat).asInt.toNat (D.bool (true = true)) = seenL p y ∧
                                                                True)) ∧
                                  ((↑p.len : Int) ≤ (nthD p.asList (↑x : Int).toNat).asInt →
                                    (false = true ↔
                                      (∀ (i : Nat), i < p.len → (0 : Int) ≤ atI p i ∧ atI p i < (↑p.len : Int)) ∧
                                        ∀ (i j : Nat), i < j → j < p.len → atI p i = atI p j → False))) ∧
                              ((nthD p.asList (↑x : Int).toNat).asInt < (0 : Int) →
                                (false = true ↔
                                  (∀ (i : Nat), i < p.len → (0 : Int) ≤ atI p i ∧ atI p i < (↑p.len : Int)) ∧
                                    ∀ (i j : Nat), i < j → j < p.len → atI p i = atI p j → False))) ∧
                      (((↑x : Int) < (↑p.len : Int) → False) →
                        (true = true ↔
                          (∀ (i : Nat), i < p.len → (0 : Int) ≤ atI p i ∧ atI p i < (↑p.len : Int)) ∧
                            ∀ (i j : Nat), i < j → j < p.len → atI p i = atI p j → False))) := by intros; kernel_rfl

theorem vc46 : ∀ (p : D),
  symFun (ctx (fun (x : FuncId) => none) permAnn) (3 : Nat) (46 : FuncId) [V.dat (29 : TypeId) p] (V.dat (29 : TypeId) p) =
    ((p.isNil → D.nil = p) ∧
      ((p.isNil → False) →
        (p.len = (0 : Nat) → (0 : Nat) + (0 : Nat) ≤ ([] : List D).length ∧ D.list (List.take (0 : Nat) (List.drop (0 : Nat) [])) = p) ∧
          ((0 : Nat) < p.len →
            (0 : Nat) + (0 : Nat) ≤ ([] : List D).length ∧
              (0 : Nat) + p.len ≤ (16777216 : Nat) ∧
                ((0 : Nat) + p.len ≤ (0 : Nat) →
                    (0 : Nat) + (0 : Nat) + p.len ≤ ([] : List D).length ∧
                      (0 : Nat) + p.len ≤ (List.take ((0 : Nat) + (0 : Nat)) [] ++ p.asList ++ List.drop ((0 : Nat) + (0 : Nat) + p.len) []).length ∧
                        D.list
                            (List.take p.len
                              (List.drop (0 : Nat) (List.take ((0 : Nat) + (0 : Nat)) [] ++ p.asList ++ List.drop ((0 : Nat) + (0 : Nat) + p.len) []))) =
                          p) ∧
                  ((0 : Nat) < (0 : Nat) + p.len →
                    (0 : Nat) + p.len ≤ (List.take (0 : Nat) (List.drop (0 : Nat) []) ++ p.asList).length ∧
                      D.list (List.take p.len (List.drop (0 : Nat) (List.take (0 : Nat) (List.drop (0 : Nat) []) ++ p.asList))) = p)))) := by intros; kernel_rfl

theorem vc43 : ∀ (p q : D),
  symFun (ctx (fun (x : FuncId) => none) permAnn) (3 : Nat) (43 : FuncId) [V.dat (29 : TypeId) p, V.dat (29 : TypeId) q] (V.prop (eqD p q)) =
    ((((↑p.len : Int) = (↑q.len : Int) → False) → (false = true ↔ p.len = q.len ∧ ∀ (i : Nat), i < p.len → atI p i = atI q i)) ∧
      ((((↑p.len : Int) = (↑q.len : Int) → False) → False) →
        (∃ (x : Nat), (x ≤ p.len ∧ ∀ (i : Nat), i < x → atI p i = atI q i) ∧ ((0 : Int) = (↑x : Int) ∧ True) ∧ True) ∧
          ∀ (x : Nat),
            (x ≤ p.len ∧ ∀ (i : Nat), i < x → atI p i = atI q i) →
              p.len - x < LIM ∧
                ((↑x : Int) < (↑p.len : Int) →
                    (0 : Int) ≤ (↑x : Int) ∧
                      (↑x : Int) < (↑p.len : Int) ∧
                        (0 : Int) ≤ (↑x : Int) ∧
                          (↑x : Int) < (↑q.len : Int) ∧
                            (((nthD p.asList (↑x : Int).toNat).asInt = (nthD q.asList (↑x : Int).toNat).asInt → False) →
                                (false = true ↔ p.len = q.len ∧ ∀ (i : Nat), i < p.len → atI p i = atI q i)) ∧
                              ((((nthD p.asList (↑x : Int).toNat).asInt = (nthD q.asList (↑x : Int).toNat).asInt → False) → False) →
                                ((-9223372036854775808 : Int) ≤ (↑x : Int) + (1 : Int) ∧ (↑x : Int) + (1 : Int) < (9223372036854775808 : Int)) ∧
                                  ∃ (y : Nat),
                                    (y ≤ p.len ∧ ∀ (i : Nat), i < y → atI p i = atI q i) ∧
                                      p.len - y < p.len - x ∧ ((↑x : Int) + (1 : Int) = (↑y : Int) ∧ True) ∧ True)) ∧
                  (((↑x : Int) < (↑p.len : Int) → False) → (true = true ↔ p.len = q.len ∧ ∀ (i : Nat), i < p.len → atI p i = atI q i)))) := by intros; kernel_rfl

theorem s80 (p : D) (h : p.len ≤ 100) : symFun (ctx (fun _ => none) permAnn) 3 80 [V.dat 29 p] (V.prop (isPermD p)) := by
  rw [vc80]
  refine ⟨⟨0, ⟨Nat.zero_le _, fun w hw => absurd hw (Nat.not_lt_zero _)⟩, ⟨rfl, trivial⟩, trivial⟩, fun x ⟨hx, hinv⟩ => ⟨by unfold LIM; omega, fun hlt => ⟨⟨(0, False), ⟨Nat.zero_le _, ?_⟩, ⟨rfl, ?_, trivial⟩, trivial⟩, ?_⟩, fun hge => ?_⟩⟩
  · simp
  · simp
  · rintro ⟨j, f⟩ ⟨hj, hf⟩
    dsimp only at hj hf ⊢
    refine ⟨by unfold LIM; omega, fun hlt2 => ⟨fun hnf => ⟨by omega, hlt2, by omega, (j + 1, atI p j = x), ⟨by dsimp only; omega, ?_⟩, by dsimp only; omega, ⟨by dsimp only; omega, ?_, trivial⟩, trivial⟩, fun hf1 => ⟨by omega, (j + 1, True), ⟨by dsimp only; omega, ?_⟩, by dsimp only; omega, ⟨by dsimp only; omega, by simp, trivial⟩, trivial⟩⟩, fun hge2 => ⟨fun hnf => ?_, fun hnn => ⟨by omega, x + 1, ⟨by omega, fun w hw => ?_⟩, by omega, ⟨by omega, trivial⟩, trivial⟩⟩⟩
    · dsimp only
      constructor
      · intro he; exact ⟨j, by omega, he⟩
      · rintro ⟨k, hk, he⟩
        rcases Nat.lt_or_ge k j with h1 | h1
        · exact absurd (hf.2 ⟨k, h1, he⟩) hnf
        · have hk' : k < j + 1 := hk
          have : k = j := by omega
          rw [← this]; exact he
    · show atI p ((j : Int).toNat) = x ↔ atI p j = x
      simp
    · dsimp only
      obtain ⟨k, hk, he⟩ := hf.1 hf1
      exact ⟨fun _ => ⟨k, by omega, he⟩, fun _ => trivial⟩
    · refine ⟨fun h => by simp at h, fun hall => ?_⟩
      obtain ⟨k, hk, he⟩ := hall x (by omega)
      have hge2' : ¬ (j : Int) < p.len := hge2
      exact absurd (hf.2 ⟨k, by omega, he⟩) hnf
    · rcases Nat.lt_or_ge w x with h1 | h1
      · exact hinv w h1
      · have hw' : w < x + 1 := hw
        have : w = x := by omega
        subst this
        have hf1 : f := Classical.byContradiction hnn
        obtain ⟨k, hk, he⟩ := hf.1 hf1
        exact ⟨k, by omega, he⟩
  · have hge' : ¬ (x : Int) < p.len := hge
    exact ⟨fun _ w hw => hinv w (by omega), fun _ => rfl⟩

theorem seenL_len (p : D) (k : Nat) : (seenL p k).length = p.len := by simp [seenL]
theorem nth_map (f : Nat → D) (n i : Nat) (h : i < n) : nthD ((List.range n).map f) i = f i := by
  simp [nthD, h]
theorem atI_range {p : D} {i n : Nat} (h0 : 0 ≤ atI p i) (h1 : atI p i < n) : (atI p i).toNat < n := by omega
theorem list_ext {a b : List D} (hl : a.length = b.length) (h : ∀ i, i < a.length → nthD a i = nthD b i) : a = b := by
  apply List.ext_getElem hl
  intro i h1 h2
  have := h i h1
  simpa [nthD, h1, h2] using this
theorem nth_set (l : List D) (i j : Nat) (d : D) (h : j < l.length) : nthD (l.set i d) j = if i = j then d else nthD l j := by
  unfold nthD
  rw [List.getElem?_set]
  by_cases e : i = j
  · subst e; simp [h]
  · simp [e]

theorem s103 (p : D) (h : p.len ≤ 100) : symFun (ctx (fun _ => none) permAnn) 3 103 [V.dat 29 p] (V.prop (goodD p)) := by
  rw [vc103]
  have hb : (ctx (fun _ => none) permAnn).P.types[4].bytes = 1 := by kernel_rfl
  refine ⟨by omega, by omega, by omega, by rw [hb]; omega, ⟨0, ⟨Nat.zero_le _, fun i hi => by omega, fun i j _ hj => by omega⟩, ⟨rfl, trivial⟩, ?_, trivial⟩, fun x ⟨hx, hin, hne⟩ => ⟨by unfold LIM; omega, fun hlt => ?_, fun hge => ?_⟩⟩
  · refine list_ext (by simp [seenL_len]) fun i hi => ?_
    rw [show seenL p 0 = (List.range p.len).map _ from rfl, nth_map _ _ _ (by simpa using hi)]
    have hi' : i < p.len := by simpa using hi
    simp [nthD, hi']
  · have ex : ((x : Int).toNat) = x := by omega
    have hsee : ∀ w, w < p.len → ((nthD (seenL p x) w).asProp ↔ ∃ i, i < x ∧ atI p i = w) := fun w hw => by
      rw [show seenL p x = (List.range p.len).map _ from rfl, nth_map _ _ _ hw]; rfl
    rw [ex]
    refine ⟨by omega, hlt, fun hge0 => ⟨fun hlt2 => ?_, fun hbig => ?_⟩, fun hneg => ?_⟩
    · have h0 : 0 ≤ atI p x := by have : ¬ atI p x < 0 := hge0; omega
      have h1 : atI p x < p.len := by have : ¬ (p.len : Int) ≤ atI p x := hlt2; omega
      have hw : (atI p x).toNat < p.len := by omega
      refine ⟨h0, by have : atI p x < _ := h1; show atI p x < _; omega, by rw [seenL_len]; exact hw, fun hs => ?_, fun hns => ⟨h0, by show atI p x < _; omega, by rw [seenL_len]; exact hw, by omega, x + 1, ⟨by omega, fun i hi => ?_, fun i j hij hj => ?_⟩, by omega, ⟨by omega, trivial⟩, ?_, trivial⟩⟩
      · refine ⟨fun h => by simp at h, fun hall => ?_⟩
        obtain ⟨i, hi, he⟩ := (hsee _ hw).1 hs
        exact absurd (by rw [he]; omega) (hall.2 i x hi (by omega))
      · rcases Nat.lt_or_ge i x with hi' | hi'
        · exact hin i hi'
        · have : i = x := by omega
          subst this; exact ⟨h0, h1⟩
      · rcases Nat.lt_or_ge j x with hj' | hj'
        · exact hne i j hij hj'
        · have : j = x := by omega
          subst this
          intro he
          exact hns ((hsee _ hw).2 ⟨i, hij, by rw [he]; omega⟩)
      · refine list_ext (by simp [seenL_len]) fun i hi => ?_
        simp only [List.length_set, seenL_len] at hi
        rw [nth_set _ _ _ _ (by rw [seenL_len]; exact hi), show seenL p (x + 1) = (List.range p.len).map _ from rfl, nth_map _ _ _ hi, show seenL p x = (List.range p.len).map _ from rfl, nth_map _ _ _ hi]
        by_cases e : (atI p x).toNat = i
        · rw [if_pos (show (nthD p.asList x).asInt.toNat = i from e)]
          congr 1
          simp only [eq_iff_iff, true_iff]
          exact ⟨x, by omega, by omega⟩
        · rw [if_neg (show ¬ (nthD p.asList x).asInt.toNat = i from e)]
          congr 1
          apply propext
          constructor
          · rintro ⟨k, hk, he⟩; exact ⟨k, by omega, he⟩
          · rintro ⟨k, hk, he⟩
            refine ⟨k, ?_, he⟩
            rcases Nat.lt_or_ge k x with h2 | h2
            · exact h2
            · have : k = x := by omega
              subst this; omega
    · exact ⟨fun h => by simp at h, fun hall => absurd (hall.1 x (by omega)).2 (by show ¬ atI p x < _; have : (p.len : Int) ≤ atI p x := hbig; omega)⟩
    · exact ⟨fun h => by simp at h, fun hall => absurd (hall.1 x (by omega)).1 (by have : atI p x < 0 := hneg; omega)⟩
  · have hge' : ¬ (x : Int) < p.len := hge
    have : x = p.len := by omega
    subst this
    exact ⟨fun _ => ⟨hin, hne⟩, fun _ => rfl⟩

theorem s46 (p : D) (h : p.len ≤ 100) (ht : p = .nil ∨ ∃ l, p = .list l) : symFun (ctx (fun _ => none) permAnn) 3 46 [V.dat 29 p] (V.dat 29 p) := by
  rw [vc46]
  rcases ht with rfl | ⟨l, rfl⟩
  · exact ⟨fun _ => rfl, fun h => absurd trivial h⟩
  · have h' : l.length ≤ 100 := h
    refine ⟨fun h => h.elim, fun _ => ⟨fun h0 => ⟨by simp, ?_⟩, fun hp => ⟨by simp, by simp [D.len, D.asList]; omega, fun h0 => ?_, fun _ => ?_⟩⟩⟩
    · have : l = [] := List.eq_nil_of_length_eq_zero h0
      subst this; rfl
    · simp [D.len, D.asList] at h0 hp; subst h0; simp at hp
    · simp [D.len, D.asList]

theorem s43 (p q : D) (h : p.len ≤ 100) : symFun (ctx (fun _ => none) permAnn) 3 43 [V.dat 29 p, V.dat 29 q] (V.prop (eqD p q)) := by
  rw [vc43]
  refine ⟨fun hne => ⟨fun h => by simp at h, fun hall => absurd (by rw [hall.1]) hne⟩, fun hnn => ?_⟩
  have hlen : p.len = q.len := by
    have : (p.len : Int) = (q.len : Int) := Classical.byContradiction hnn
    omega
  refine ⟨⟨0, ⟨Nat.zero_le _, fun i hi => by omega⟩, ⟨rfl, trivial⟩, trivial⟩, fun x ⟨hx, hinv⟩ => ⟨by unfold LIM; omega, fun hlt => ?_, fun hge => ⟨fun _ => ⟨hlen, fun i hi => hinv i (by have hge' : ¬ (x : Int) < p.len := hge; omega)⟩, fun _ => rfl⟩⟩⟩
  have ex : ((x : Int).toNat) = x := by omega
  rw [ex]
  refine ⟨by omega, hlt, by omega, by omega, fun hne => ⟨fun h => by simp at h, fun hall => absurd (hall.2 x (by omega)) hne⟩, fun hnn2 => ⟨by omega, x + 1, ⟨by omega, fun i hi => ?_⟩, by omega, ⟨by omega, trivial⟩, trivial⟩⟩
  rcases Nat.lt_or_ge i x with h1 | h1
  · exact hinv i h1
  · have : i = x := by omega
    subst this
    exact Classical.byContradiction hnn2

/-! ### Permutations -/
theorem pigeon : ∀ (n : Nat) (f : Nat → Nat), (∀ i, i < n + 1 → f i < n) → ∃ i j, i < j ∧ j < n + 1 ∧ f i = f j
  | 0, f, h => absurd (h 0 (by omega)) (by omega)
  | n + 1, f, h => by
    -- the last one's place is taken by the greatest
    by_cases hd : ∃ i, i < n + 1 ∧ f i = f (n + 1)
    · obtain ⟨i, h1, h2⟩ := hd; exact ⟨i, n + 1, by omega, by omega, h2⟩
    · have hne : ∀ i, i < n + 1 → f i ≠ f (n + 1) := fun i hi he => hd ⟨i, hi, he⟩
      obtain ⟨i, j, h1, h2, h3⟩ := pigeon n (fun i => if f i > f (n + 1) then f i - 1 else f i) (fun i hi => by
        have a := h i (by omega)
        have b := h (n + 1) (by omega)
        have c := hne i hi
        try dsimp only
        split <;> omega)
      have a := hne i (by omega)
      have b := hne j (by omega)
      refine ⟨i, j, h1, by omega, ?_⟩
      try dsimp only at h3
      split at h3 <;> split at h3 <;> omega
/-- Different numbers below n are all of them. -/
theorem inj_sur {n : Nat} {f : Nat → Nat} (hb : ∀ i, i < n → f i < n) (hi : ∀ i j, i < j → j < n → f i ≠ f j) : ∀ w, w < n → ∃ k, k < n ∧ f k = w := by
  intro w hw
  refine Classical.byContradiction fun hno => ?_
  have hne : ∀ k, k < n → f k ≠ w := fun k hk he => hno ⟨k, hk, he⟩
  obtain ⟨m, rfl⟩ : ∃ m, n = m + 1 := ⟨n - 1, by omega⟩
  obtain ⟨i, j, h1, h2, h3⟩ := pigeon m (fun i => if f i > w then f i - 1 else f i) (fun i h => by
    have a := hb i h
    have b := hne i h
    try dsimp only
    split <;> omega)
  have a := hne i (by omega)
  have b := hne j h2
  refine hi i j h1 h2 ?_
  try dsimp only at h3
  split at h3 <;> split at h3 <;> omega
theorem good_perm {d : D} (h : goodD d) : isPermD d := by
  intro w hw
  obtain ⟨k, h1, h2⟩ := inj_sur (n := d.len) (f := fun i => (atI d i).toNat) (fun i hi => by have := h.1 i hi; show (atI d i).toNat < d.len; omega) (fun i j h1 h2 he => h.2 i j h1 h2 (by
    have a := h.1 i (by omega)
    have b := h.1 j h2
    try dsimp only at he
    omega)) w hw
  exact ⟨k, h1, by have := h.1 k h1; have h2' : (atI d k).toNat = w := h2; omega⟩
theorem perm_good {d : D} (h : isPermD d) : goodD d := by
  have hex : ∃ g : Nat → Nat, ∀ w, w < d.len → g w < d.len ∧ atI d (g w) = w := by
    refine ⟨fun w => if hw : w < d.len then Classical.choose (h w hw) else 0, fun w hw => ?_⟩
    simp only [dif_pos hw]
    exact Classical.choose_spec (h w hw)
  obtain ⟨g, hg⟩ := hex
  have sur := inj_sur (n := d.len) (f := g) (fun i hi => (hg i hi).1) (fun i j h1 h2 he => by
    have a := (hg i (by omega)).2
    have b := (hg j h2).2
    rw [he, b] at a
    omega)
  constructor
  · intro i hi
    obtain ⟨w, hw, rfl⟩ := sur i hi
    rw [(hg w hw).2]
    omega
  · intro i j hij hj he
    obtain ⟨w, hw, rfl⟩ := sur i (by omega)
    obtain ⟨w', hw', rfl⟩ := sur j hj
    rw [(hg w hw).2, (hg w' hw').2] at he
    have : w = w' := by omega
    subst this
    omega

theorem vc42 : ∀ (p : D),
  symFun (ctx conA permAnn) (3 : Nat) (42 : FuncId) [V.dat (29 : TypeId) p] (V.dat (29 : TypeId) (invD p)) =
    (p.len ≤ (100 : Nat) ∧
      ((((∀ (i : Nat), i < p.len → (0 : Int) ≤ atI p i ∧ atI p i < (↑p.len : Int)) ∧ ∀ (i j : Nat), i < j → j < p.len → atI p i = atI p j → False) → False) →
          D.nil = invD p) ∧
        (((((∀ (i : Nat), i < p.len → (0 : Int) ≤ atI p i ∧ atI p i < (↑p.len : Int)) ∧ ∀ (i j : Nat), i < j → j < p.len → atI p i = atI p j → False) → False) →
            False) →
          (0 : Int) ≤ (↑p.len : Int) ∧
            (↑p.len : Int) ≤ (↑p.len : Int) ∧
              (↑p.len : Int) ≤ (16777216 : Int) ∧
                (ctx conA permAnn).P.types[(3 : Nat)].bytes * (↑p.len : Int).toNat ≤ (281474976710656 : Nat) ∧
                  (∃ (x : Nat), x.le p.len ∧ ((0 : Int) = (↑x : Int) ∧ True) ∧ List.replicate (↑p.len : Int).toNat (D.int (0 : Int)) = backL p x ∧ True) ∧
                    ∀ (x : Nat),
                      x.le p.len →
                        p.len - x < LIM ∧
                          ((↑x : Int) < (↑p.len : Int) →
                              (0 : Int) ≤ (↑x : Int) ∧
                                (↑x : Int) < (↑p.len : Int) ∧
                                  (0 : Int) ≤ (nthD p.asList (↑x : Int).toNat).asInt ∧
                                    (nthD p.asList (↑x : Int).toNat).asInt < (↑(↑p.len : Int).toNat : Int) ∧
                                      (nthD p.asList (↑x : Int).toNat).asInt.toNat < (backL p x).length ∧
                                        ((-9223372036854775808 : Int) ≤ (↑x : Int) + (1 : Int) ∧ (↑x : Int) + (1 : Int) < (9223372036854775808 : Int)) ∧
                                          ∃ (y : Nat),
                                            y.le p.len ∧
                                              p.len - y < p.len - x ∧
                                                ((↑x : Int) + (1 : Int) = (↑y : Int) ∧ True) ∧
                                                  (backL p x).set (nthD p.asList (↑x : Int).toNat).asInt.toNat (D.int (↑x : Int)) = backL p y ∧ True) ∧
                            (((↑x : Int) < (↑p.len : Int) → False) →
                              (0 : Nat) + (↑p.len : Int).toNat ≤ (backL p x).length ∧
                                D.list (List.take (↑p.len : Int).toNat (List.drop (0 : Nat) (backL p x))) = invD p))) := by intros; kernel_rfl

theorem vc44 : ∀ (p q : D),
  symFun (ctx conA (annComp p q)) (3 : Nat) (44 : FuncId) [V.dat (29 : TypeId) p, V.dat (29 : TypeId) q] (V.dat (29 : TypeId) (compD p q)) =
    (((((↑p.len : Int) = (↑q.len : Int) → False) → False) →
        p.len ≤ (100 : Nat) ∧
          (((((∀ (i : Nat), i < p.len → (0 : Int) ≤ atI p i ∧ atI p i < (↑p.len : Int)) ∧ ∀ (i j : Nat), i < j → j < p.len → atI p i = atI p j → False) →
                  False) →
                False) →
              q.len ≤ (100 : Nat) ∧
                ((((∀ (i : Nat), i < q.len → (0 : Int) ≤ atI q i ∧ atI q i < (↑q.len : Int)) ∧ ∀ (i j : Nat), i < j → j < q.len → atI q i = atI q j → False) →
                      False) →
                    D.nil = compD p q) ∧
                  (((((∀ (i : Nat), i < q.len → (0 : Int) ≤ atI q i ∧ atI q i < (↑q.len : Int)) ∧
                          ∀ (i j : Nat), i < j → j < q.len → atI q i = atI q j → False) →
                        False) →
                      False) →
                    (0 : Int) ≤ (↑q.len : Int) ∧
                      (↑q.len : Int) ≤ (↑q.len : Int) ∧
                        (↑q.len : Int) ≤ (16777216 : Int) ∧
                          Tryz.prog.types[(3 : Nat)].bytes * (↑q.len : Int).toNat ≤ (281474976710656 : Nat) ∧
                            (∃ (x : Nat),
                                x.le q.len ∧
                                  ((0 : Int) = (↑x : Int) ∧ True) ∧ List.replicate (↑q.len : Int).toNat (D.int (0 : Int)) = compL p q q.len x ∧ True) ∧
                              ∀ (x : Nat),
                                x.le q.len →
                                  q.len - x < LIM ∧
                                    ((↑x : Int) < (↑(↑q.len : Int).toNat : Int) →
                                        (0 : Int) ≤ (↑x : Int) ∧
                                          (↑x : Int) < (↑q.len : Int) ∧
                                            (0 : Int) ≤ (nthD q.asList (↑x : Int).toNat).asInt ∧
                                              (nthD q.asList (↑x : Int).toNat).asInt < (↑p.len : Int) ∧
                                                (0 : Int) ≤ (↑x : Int) ∧
                                                  (↑x : Int) < (↑(↑q.len : Int).toNat : Int) ∧
                                                    (↑x : Int).toNat < (compL p q q.len x).length ∧
                                                      ((-9223372036854775808 : Int) ≤ (↑x : Int) + (1 : Int) ∧
                                                          (↑x : Int) + (1 : Int) < (9223372036854775808 : Int)) ∧
                                                        ∃ (y : Nat),
                                                          y.le q.len ∧
                                                            q.len - y < q.len - x ∧
                                                              ((↑x : Int) + (1 : Int) = (↑y : Int) ∧ True) ∧
                                                                (compL p q q.len x).set (↑x : Int).toNat
                                                                      (D.int (nthD p.asList (nthD q.asList (↑x : Int).toNat).asInt.toNat).asInt) =
                                                                    compL p q q.len y ∧
                                                                  True) ∧
                                      (((↑x : Int) < (↑(↑q.len : Int).toNat : Int) → False) →
                                        (0 : Nat) + (↑q.len : Int).toNat ≤ (compL p q q.len x).length ∧
                                          D.list (List.take (↑q.len : Int).toNat (List.drop (0 : Nat) (compL p q q.len x))) = compD p q))) ∧
            ((((∀ (i : Nat), i < p.len → (0 : Int) ≤ atI p i ∧ atI p i < (↑p.len : Int)) ∧ ∀ (i j : Nat), i < j → j < p.len → atI p i = atI p j → False) →
                False) →
              D.nil = compD p q)) ∧
      (((↑p.len : Int) = (↑q.len : Int) → False) → D.nil = compD p q)) := by intros; kernel_rfl

theorem backL_len (p : D) (k : Nat) : (backL p k).length = p.len := by simp [backL]
theorem back_zero (p : D) : List.replicate (↑p.len : Int).toNat (D.int 0) = backL p 0 := by
  refine list_ext (by simp [backL_len]) fun i hi => ?_
  rw [show backL p 0 = (List.range p.len).map _ from rfl, nth_map _ _ _ (by simpa using hi)]
  have hi' : i < p.len := by simpa using hi
  simp [nthD, hi', lastAt]
theorem back_step (p : D) (x : Nat) (h0 : 0 ≤ atI p x) (h1 : atI p x < p.len) : (backL p x).set (atI p x).toNat (D.int x) = backL p (x + 1) := by
  refine list_ext (by simp [backL_len]) fun i hi => ?_
  simp only [List.length_set, backL_len] at hi
  rw [nth_set _ _ _ _ (by rw [backL_len]; exact hi), show backL p (x + 1) = (List.range p.len).map _ from rfl, nth_map _ _ _ hi, show backL p x = (List.range p.len).map _ from rfl, nth_map _ _ _ hi]
  simp only [lastAt]
  by_cases e : (atI p x).toNat = i
  · rw [if_pos e, if_pos (by omega)]
  · rw [if_neg e, if_neg (by omega)]
theorem compL_len (p q : D) (n k : Nat) : (compL p q n k).length = n := by simp [compL]
theorem compA_len (p q : D) (k : Nat) : (compA p q k).length = k := by simp [compA]

theorem s42 (p : D) (h : p.len ≤ 100) : symFun (ctx conA permAnn) 3 42 [V.dat 29 p] (V.dat 29 (invD p)) := by
  rw [vc42]
  have hb : (ctx conA permAnn).P.types[3].bytes = 8 := by kernel_rfl
  refine ⟨h, fun hn => ?_, fun hnn => ?_⟩
  · have : ¬ goodD p := hn
    unfold invD; rw [if_neg this]
  · have hg : goodD p := Classical.byContradiction hnn
    refine ⟨by omega, by omega, by omega, by rw [hb]; omega, ⟨0, Nat.zero_le _, ⟨rfl, trivial⟩, back_zero p, trivial⟩, fun x hx => ⟨by unfold LIM; omega, fun hlt => ?_, fun hge => ?_⟩⟩
    · have ex : ((x : Int).toNat) = x := by omega
      rw [ex]
      have hr := hg.1 x (by omega)
      exact ⟨by omega, hlt, hr.1, by show atI p x < _; omega, by rw [backL_len]; show (atI p x).toNat < _; omega, by omega, x + 1, by show x + 1 ≤ p.len; omega, by omega, ⟨by omega, trivial⟩, back_step p x hr.1 hr.2, trivial⟩
    · have hge' : ¬ (x : Int) < p.len := hge
      have hx' : x ≤ p.len := hx
      have : x = p.len := by omega
      subst this
      refine ⟨by rw [backL_len]; omega, ?_⟩
      unfold invD; rw [if_pos hg]
      rw [List.drop_zero, List.take_of_length_le (by rw [backL_len]; omega)]

theorem s44 (p q : D) (hp : p.len ≤ 100) (hq : q.len ≤ 100) : symFun (ctx conA (annComp p q)) 3 44 [V.dat 29 p, V.dat 29 q] (V.dat 29 (compD p q)) := by
  rw [vc44]
  have hb : Tryz.prog.types[3].bytes = 8 := by kernel_rfl
  refine ⟨fun hnn => ⟨hp, fun hnn1 => ⟨hq, fun hn2 => ?_, fun hnn2 => ?_⟩, fun hn1 => ?_⟩, fun hne => ?_⟩
  · have : ¬ goodD q := hn2
    unfold compD; rw [if_neg (fun h => this h.2.2)]
  · have hlen : p.len = q.len := by
      have : (p.len : Int) = (q.len : Int) := Classical.byContradiction hnn
      omega
    have hg1 : goodD p := Classical.byContradiction hnn1
    have hg2 : goodD q := Classical.byContradiction hnn2
    refine ⟨by omega, by omega, by omega, by rw [hb]; omega, ⟨0, Nat.zero_le _, ⟨rfl, trivial⟩, ?_, trivial⟩, fun x hx => ⟨by unfold LIM; omega, fun hlt => ?_, fun hge => ?_⟩⟩
    · refine list_ext (by simp [compL_len]) fun i hi => ?_
      rw [show compL p q q.len 0 = (List.range q.len).map _ from rfl, nth_map _ _ _ (by simpa using hi)]
      have hi' : i < q.len := by simpa using hi
      simp [nthD, hi']
    · have ex : ((x : Int).toNat) = x := by omega
      have hxq : x < q.len := by omega
      rw [ex]
      have hr := hg2.1 x hxq
      refine ⟨by omega, by omega, hr.1, by show atI q x < _; omega, by omega, hlt, by rw [compL_len]; exact hxq, by omega, x + 1, by show x + 1 ≤ q.len; omega, by omega, ⟨by omega, trivial⟩, ?_, trivial⟩
      refine list_ext (by simp [compL_len]) fun i hi => ?_
      simp only [List.length_set, compL_len] at hi
      rw [nth_set _ _ _ _ (by rw [compL_len]; exact hi), show compL p q q.len (x + 1) = (List.range q.len).map _ from rfl, nth_map _ _ _ hi, show compL p q q.len x = (List.range q.len).map _ from rfl, nth_map _ _ _ hi]
      by_cases e : x = i
      · subst e; rw [if_pos rfl, if_pos (by omega)]; rfl
      · rw [if_neg e]
        by_cases e2 : i < x
        · rw [if_pos e2, if_pos (by omega)]
        · rw [if_neg e2, if_neg (by omega)]
    · have hge' : ¬ (x : Int) < ((q.len : Int).toNat : Int) := hge
      have hx' : x ≤ q.len := hx
      have : x = q.len := by omega
      subst this
      refine ⟨by rw [compL_len]; omega, ?_⟩
      unfold compD; rw [if_pos ⟨hlen, hg1, hg2⟩]
      rw [List.drop_zero, List.take_of_length_le (by rw [compL_len]; omega)]
      congr 1
      refine list_ext (by simp [compL_len, compA_len]) fun i hi => ?_
      rw [compL_len] at hi
      rw [show compL p q q.len q.len = (List.range q.len).map _ from rfl, nth_map _ _ _ hi, show compA p q q.len = (List.range q.len).map _ from rfl, nth_map _ _ _ hi, if_pos hi]
  · have : ¬ goodD p := hn1
    unfold compD; rw [if_neg (fun h => this h.2.1)]
  · have : ¬ p.len = q.len := fun h => hne (by rw [h])
    unfold compD; rw [if_neg (fun h => this h.1)]
end Go.Ev
