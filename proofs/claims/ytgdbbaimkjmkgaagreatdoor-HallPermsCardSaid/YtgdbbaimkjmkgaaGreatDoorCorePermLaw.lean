/-
  Part of the engine that the claim is proved with: it states nothing of the document by itself.
-/
import Derived.Test.YtgdbbaimkjmkgaaGreatDoorCorePerm
open Go.Proofs
namespace Go.Ev
set_option maxRecDepth 100000
theorem vc25 : ∀ (p q : D),
  symFun (ctx conB (annLaw p q)) (3 : Nat) (25 : FuncId) [V.dat (29 : TypeId) p, V.dat (29 : TypeId) q] (V.prop True) =
    (p.len ≤ (100 : Nat) ∧
      q.len ≤ (100 : Nat) ∧
        p.len ≤ (100 : Nat) ∧
          ((∀ (w : Nat), w < p.len → ∃ (k : Nat), k < p.len ∧ atI p k = (↑w : Int)) →
              (0 : Int) ≤ (↑p.len : Int) ∧
                (↑p.len : Int) ≤ (↑p.len : Int) ∧
                  (↑p.len : Int) ≤ (16777216 : Int) ∧
                    Tryz.prog.types[(3 : Nat)].bytes * (↑p.len : Int).toNat ≤ (281474976710656 : Nat) ∧
                      (∃ (x : Nat), x.le p.len ∧ ((0 : Int) = (↑x : Int) ∧ True) ∧ List.replicate (↑p.len : Int).toNat (D.int (0 : Int)) = backL p x ∧ True) ∧
                        ∀ (x : Nat),
                          x.le p.len →
                            p.len - x < LIM ∧
                              ((↑x : Int) < (↑p.len : Int) →
                                  (0 : Int) ≤ (↑x : Int) ∧
                                    (↑x : Int) < (↑p.len : Int) ∧
                                      (0 : Int) ≤ (nthD p.asList (↑x : Int).toNat).asInt ∧
                                        (nthD p.asList (↑x : Int).toNat).asInt < (↑(↑p.len : Int).toNat : Int) ∧
                                          (nthD p.asList (↑x : Int).toNat).asInt.toNat < (backL p x).length ∧
                                            ((-9223372036854775808 : Int) ≤ (↑x : Int) + (1 : Int) ∧ (↑x : Int) + (1 : Int) < (9223372036854775808 : Int)) ∧
                                              ∃ (y : Nat),
                                                y.le p.len ∧
                                                  p.len - y < p.len - x ∧
                                                    ((↑x : Int) + (1 : Int) = (↑y : Int) ∧ True) ∧
                                                      (backL p x).set (nthD p.asList (↑x : Int).toNat).asInt.toNat (D.int (↑x : Int)) = backL p y ∧ True) ∧
                                (((↑x : Int) < (↑p.len : Int) → False) →
                                  q.len ≤ (100 : Nat) ∧
                                    ((∀ (w : Nat), w < q.len → ∃ (k : Nat), k < q.len ∧ atI q k = (↑w : Int)) →
                                        ((↑p.len : Int) = (↑q.len : Int) →
                                            ((∃ (x : Nat), x = (0 : Nat) ∧ ((0 : Int) = (0 : Int) ∧ True ∧ True) ∧ True) ∨
                                                ∃ (x : Nat), ((0 : Nat) < x ∧ x ≤ q.len) ∧ ((0 : Int) = (↑x : Int) ∧ False ∧ True) ∧ False ∧ True) ∧
                                              (∀ (x_1 : Nat),
                                                  x_1 = (0 : Nat) →
                                                    q.len - x_1 < LIM ∧
                                                      ((0 : Int) < (↑q.len : Int) →
                                                          (0 : Int) ≤ (0 : Int) ∧
                                                            (0 : Int) < (↑q.len : Int) ∧
                                                              (0 : Int) ≤ (nthD q.asList (Int.toNat (0 : Int))).asInt ∧
                                                                (nthD q.asList (Int.toNat (0 : Int))).asInt < (↑p.len : Int) ∧
                                                                  (0 : Nat) + (1 : Nat) ≤
                                                                      [D.int (nthD p.asList (nthD q.asList (Int.toNat (0 : Int))).asInt.toNat).asInt].length ∧
                                                                    (1 : Nat) ≤ (16777216 : Nat) ∧
                                                                      ((-9223372036854775808 : Int) ≤ (0 : Int) + (1 : Int) ∧
                                                                          (0 : Int) + (1 : Int) < (9223372036854775808 : Int)) ∧
                                                                        ((∃ (y : Nat),
                                                                            y = (0 : Nat) ∧
                                                                              q.len - y < q.len - x_1 ∧
                                                                                ((0 : Int) + (1 : Int) = (0 : Int) ∧ False ∧ True) ∧ True) ∨
                                                                          ∃ (y : Nat),
                                                                            ((0 : Nat) < y ∧ y ≤ q.len) ∧
                                                                              q.len - y < q.len - x_1 ∧
                                                                                ((0 : Int) + (1 : Int) = (↑y : Int) ∧
                                                                                    ((0 : Nat) = (0 : Nat) ∧ (1 : Nat) = y ∧ True) ∧ True) ∧
                                                                                  List.take (1 : Nat)
                                                                                        (List.drop (0 : Nat)
                                                                                          [D.int
                                                                                              (nthD p.asList
                                                                                                  (nthD q.asList (Int.toNat (0 : Int))).asInt.toNat).asInt]) =
                                                                                      compA p q y ∧
                                                                                    True)) ∧
                                                        (((0 : Int) < (↑q.len : Int) → False) →
                                                          (p.len ≤ (100 : Nat) ∧ q.len ≤ (100 : Nat)) ∧
                                                            (compD p q).len ≤ (100 : Nat) ∧
                                                              (((compD p q).len = (0 : Nat) ∧
                                                                    ∀ (i : Nat), i < (compD p q).len → atI (compD p q) i = atI D.nil i) →
                                                                  p.len ≤ (100 : Nat) ∧
                                                                    (0 : Nat) + (↑p.len : Int).toNat ≤ (backL p x).length ∧
                                                                      (invD p).len ≤ (100 : Nat) ∧
                                                                        (((invD p).len =
                                                                                (List.take (↑p.len : Int).toNat (List.drop (0 : Nat) (backL p x))).length ∧
                                                                              ∀ (i : Nat),
                                                                                i < (invD p).len →
                                                                                  atI (invD p) i =
                                                                                    atI
                                                                                      (D.list
                                                                                        (List.take (↑p.len : Int).toNat (List.drop (0 : Nat) (backL p x))))
                                                                                      i) →
                                                                            p.len ≤ (100 : Nat) ∧
                                                                              ((p.len = p.len ∧ ∀ (i : Nat), i < p.len → atI p i = atI p i) →
                                                                                  q.len ≤ (100 : Nat) ∧
                                                                                    ((q.len = q.len ∧ ∀ (i : Nat), i < q.len → atI q i = atI q i) ↔ True)) ∧
                                                                                (((p.len = p.len ∧ ∀ (i : Nat), i < p.len → atI p i = atI p i) → False) →
                                                                                  (false = true ↔ True))) ∧
                                                                          ((((invD p).len =
                                                                                  (List.take (↑p.len : Int).toNat (List.drop (0 : Nat) (backL p x))).length ∧
                                                                                ∀ (i : Nat),
                                                                                  i < (invD p).len →
                                                                                    atI (invD p) i =
                                                                                      atI
                                                                                        (D.list
                                                                                          (List.take (↑p.len : Int).toNat (List.drop (0 : Nat) (backL p x))))
                                                                                        i) →
                                                                              False) →
                                                                            (false = true ↔ True))) ∧
                                                                ((((compD p q).len = (0 : Nat) ∧
                                                                      ∀ (i : Nat), i < (compD p q).len → atI (compD p q) i = atI D.nil i) →
                                                                    False) →
                                                                  (false = true ↔ True)))) ∧
                                                ∀ (x_1 : Nat),
                                                  (0 : Nat) < x_1 ∧ x_1 ≤ q.len →
                                                    q.len - x_1 < LIM ∧
                                                      ((↑x_1 : Int) < (↑q.len : Int) →
                                                          (0 : Int) ≤ (↑x_1 : Int) ∧
                                                            (↑x_1 : Int) < (↑q.len : Int) ∧
                                                              (0 : Int) ≤ (nthD q.asList (↑x_1 : Int).toNat).asInt ∧
                                                                (nthD q.asList (↑x_1 : Int).toNat).asInt < (↑p.len : Int) ∧
                                                                  (0 : Nat) + (1 : Nat) ≤
                                                                      [D.int (nthD p.asList (nthD q.asList (↑x_1 : Int).toNat).asInt.toNat).asInt].length ∧
                                                                    (0 : Nat) + x_1 ≤ (compA p q x_1).length ∧
                                                                      x_1 + (1 : Nat) ≤ (16777216 : Nat) ∧
                                                                        ((-9223372036854775808 : Int) ≤ (↑x_1 : Int) + (1 : Int) ∧
                                                                            (↑x_1 : Int) + (1 : Int) < (9223372036854775808 : Int)) ∧
                                                                          ((∃ (y : Nat),
                                                                              y = (0 : Nat) ∧
                                                                                q.len - y < q.len - x_1 ∧
                                                                                  ((↑x_1 : Int) + (1 : Int) = (0 : Int) ∧ False ∧ True) ∧ True) ∨
                                                                            ∃ (y : Nat),
                                                                              ((0 : Nat) < y ∧ y ≤ q.len) ∧
                                                                                q.len - y < q.len - x_1 ∧
                                                                                  ((↑x_1 : Int) + (1 : Int) = (↑y : Int) ∧
                                                                                      ((0 : Nat) = (0 : Nat) ∧ x_1 + (1 : Nat) = y ∧ True) ∧ True) ∧
                                                                                    List.take x_1 (List.drop (0 : Nat) (compA p q x_1)) ++
                                                                                          List.take (1 : Nat)
                                                                                            (List.drop (0 : Nat)
                                                                                              [D.int
                                                                                                  (nthD p.asList
                                                                                                      (nthD q.asList (↑x_1 : Int).toNat).asInt.toNat).asInt]) =
                                                                                        compA p q y ∧
                                                                                      True)) ∧
                                                        (((↑x_1 : Int) < (↑q.len : Int) → False) →
                                                          (p.len ≤ (100 : Nat) ∧ q.len ≤ (100 : Nat)) ∧
                                                            (0 : Nat) + x_1 ≤ (compA p q x_1).length ∧
                                                              (compD p q).len ≤ (100 : Nat) ∧
                                                                (((compD p q).len = (List.take x_1 (List.drop (0 : Nat) (compA p q x_1))).length ∧
                                                                      ∀ (i : Nat),
                                                                        i < (compD p q).len →
                                                                          atI (compD p q) i =
                                                                            atI (D.list (List.take x_1 (List.drop (0 : Nat) (compA p q x_1)))) i) →
                                                                    p.len ≤ (100 : Nat) ∧
                                                                      (0 : Nat) + (↑p.len : Int).toNat ≤ (backL p x).length ∧
                                                                        (invD p).len ≤ (100 : Nat) ∧
                                                                          (((invD p).len =
                                                                                  (List.take (↑p.len : Int).toNat (List.drop (0 : Nat) (backL p x))).length ∧
                                                                                ∀ (i : Nat),
                                                                                  i < (invD p).len →
                                                                                    atI (invD p) i =
                                                                                      atI
                                                                                        (D.list
                                                                                          (List.take (↑p.len : Int).toNat (List.drop (0 : Nat) (backL p x))))
                                                                                        i) →
                                                                              p.len ≤ (100 : Nat) ∧
                                                                                ((p.len = p.len ∧ ∀ (i : Nat), i < p.len → atI p i = atI p i) →
                                                                                    q.len ≤ (100 : Nat) ∧
                                                                                      ((q.len = q.len ∧ ∀ (i : Nat), i < q.len → atI q i = atI q i) ↔ True)) ∧
                                                                                  (((p.len = p.len ∧ ∀ (i : Nat), i < p.len → atI p i = atI p i) → False) →
                                                                                    (false = true ↔ True))) ∧
                                                                            ((((invD p).len =
                                                                                    (List.take (↑p.len : Int).toNat (List.drop (0 : Nat) (backL p x))).length ∧
                                                                                  ∀ (i : Nat),
                                                                                    i < (invD p).len →
                                                                                      atI (invD p) i =
                                                                                        atI
                                                                                          (D.list
                                                                                            (List.take (↑p.len : Int).toNat (List.drop (0 : Nat) (backL p x))))
                                                                                          i) →
                                                                                False) →
                                                                              (false = true ↔ True))) ∧
                                                                  ((((compD p q).len = (List.take x_1 (List.drop (0 : Nat) (compA p q x_1))).length ∧
                                                                        ∀ (i : Nat),
                                                                          i < (compD p q).len →
                                                                            atI (compD p q) i =
                                                                              atI (D.list (List.take x_1 (List.drop (0 : Nat) (compA p q x_1)))) i) →
                                                                      False) →
                                                                    (false = true ↔ True)))) ∧
                                          (((↑p.len : Int) = (↑q.len : Int) → False) →
                                            (p.len ≤ (100 : Nat) ∧ q.len ≤ (100 : Nat)) ∧
                                              (compD p q).len ≤ (100 : Nat) ∧
                                                (((compD p q).len = (0 : Nat) ∧ ∀ (i : Nat), i < (compD p q).len → atI (compD p q) i = atI D.nil i) →
                                                    p.len ≤ (100 : Nat) ∧
                                                      (0 : Nat) + (↑p.len : Int).toNat ≤ (backL p x).length ∧
                                                        (invD p).len ≤ (100 : Nat) ∧
                                                          (((invD p).len = (List.take (↑p.len : Int).toNat (List.drop (0 : Nat) (backL p x))).length ∧
                                                                ∀ (i : Nat),
                                                                  i < (invD p).len →
                                                                    atI (invD p) i =
                                                                      atI (D.list (List.take (↑p.len : Int).toNat (List.drop (0 : Nat) (backL p x)))) i) →
                                                              p.len ≤ (100 : Nat) ∧
                                                                ((p.len = p.len ∧ ∀ (i : Nat), i < p.len → atI p i = atI p i) →
                                                                    q.len ≤ (100 : Nat) ∧
                                                                      ((q.len = q.len ∧ ∀ (i : Nat), i < q.len → atI q i = atI q i) ↔ True)) ∧
                                                                  (((p.len = p.len ∧ ∀ (i : Nat), i < p.len → atI p i = atI p i) → False) →
                                                                    (false = true ↔ True))) ∧
                                                            ((((invD p).len = (List.take (↑p.len : Int).toNat (List.drop (0 : Nat) (backL p x))).length ∧
                                                                  ∀ (i : Nat),
                                                                    i < (invD p).len →
                                                                      atI (invD p) i =
                                                                        atI (D.list (List.take (↑p.len : Int).toNat (List.drop (0 : Nat) (backL p x)))) i) →
                                                                False) →
                                                              (false = true ↔ True))) ∧
                                                  ((((compD p q).len = (0 : Nat) ∧ ∀ (i : Nat), i < (compD p q).len → atI (compD p q) i = atI D.nil i) →
                                                      False) →
                                                    (false = true ↔ True)))) ∧
                                      (((∀ (w : Nat), w < q.len → ∃ (k : Nat), k < q.len ∧ atI q k = (↑w : Int)) → False) →
                                        (p.len ≤ (100 : Nat) ∧ q.len ≤ (100 : Nat)) ∧
                                          (compD p q).len ≤ (100 : Nat) ∧
                                            (((compD p q).len = (0 : Nat) ∧ ∀ (i : Nat), i < (compD p q).len → atI (compD p q) i = atI D.nil i) →
                                                p.len ≤ (100 : Nat) ∧
                                                  (0 : Nat) + (↑p.len : Int).toNat ≤ (backL p x).length ∧
                                                    (invD p).len ≤ (100 : Nat) ∧
                                                      (((invD p).len = (List.take (↑p.len : Int).toNat (List.drop (0 : Nat) (backL p x))).length ∧
                                                            ∀ (i : Nat),
                                                              i < (invD p).len →
                                                                atI (invD p) i =
                                                                  atI (D.list (List.take (↑p.len : Int).toNat (List.drop (0 : Nat) (backL p x)))) i) →
                                                          p.len ≤ (100 : Nat) ∧
                                                            ((p.len = p.len ∧ ∀ (i : Nat), i < p.len → atI p i = atI p i) →
                                                                q.len ≤ (100 : Nat) ∧ ((q.len = q.len ∧ ∀ (i : Nat), i < q.len → atI q i = atI q i) ↔ True)) ∧
                                                              (((p.len = p.len ∧ ∀ (i : Nat), i < p.len → atI p i = atI p i) → False) →
                                                                (false = true ↔ True))) ∧
                                                        ((((invD p).len = (List.take (↑p.len : Int).toNat (List.drop (0 : Nat) (backL p x))).length ∧
                                                              ∀ (i : Nat),
                                                                i < (invD p).len →
                                                                  atI (invD p) i =
                                                                    atI (D.list (List.take (↑p.len : Int).toNat (List.drop (0 : Nat) (backL p x)))) i) →
                                                            False) →
                                                          (false = true ↔ True))) ∧
                                              ((((compD p q).len = (0 : Nat) ∧ ∀ (i : Nat), i < (compD p q).len → atI (compD p q) i = atI D.nil i) → False) →
                                                (false = true ↔ True))))) ∧
            (((∀ (w : Nat), w < p.len → ∃ (k : Nat), k < p.len ∧ atI p k = (↑w : Int)) → False) →
              (p.len ≤ (100 : Nat) ∧ q.len ≤ (100 : Nat)) ∧
                (compD p q).len ≤ (100 : Nat) ∧
                  (((compD p q).len = (0 : Nat) ∧ ∀ (i : Nat), i < (compD p q).len → atI (compD p q) i = atI D.nil i) →
                      p.len ≤ (100 : Nat) ∧
                        (invD p).len ≤ (100 : Nat) ∧
                          (((invD p).len = (0 : Nat) ∧ ∀ (i : Nat), i < (invD p).len → atI (invD p) i = atI D.nil i) →
                              p.len ≤ (100 : Nat) ∧
                                ((p.len = p.len ∧ ∀ (i : Nat), i < p.len → atI p i = atI p i) →
                                    q.len ≤ (100 : Nat) ∧ ((q.len = q.len ∧ ∀ (i : Nat), i < q.len → atI q i = atI q i) ↔ True)) ∧
                                  (((p.len = p.len ∧ ∀ (i : Nat), i < p.len → atI p i = atI p i) → False) → (false = true ↔ True))) ∧
                            ((((invD p).len = (0 : Nat) ∧ ∀ (i : Nat), i < (invD p).len → atI (invD p) i = atI D.nil i) → False) → (false = true ↔ True))) ∧
                    ((((compD p q).len = (0 : Nat) ∧ ∀ (i : Nat), i < (compD p q).len → atI (compD p q) i = atI D.nil i) → False) → (false = true ↔ True)))) := by intros; kernel_rfl

theorem vc7 : ∀ (p q : D),
  symFun (ctx conC permAnn) (3 : Nat) (7 : FuncId) [V.dat (29 : TypeId) p, V.dat (29 : TypeId) q] (V.prop True) =
    ((((60 : Int) < (↑p.len : Int) → False) →
        (((60 : Int) < (↑q.len : Int) → False) →
            (p.len ≤ (60 : Nat) ∧ q.len ≤ (60 : Nat)) ∧
              (True → (q.len ≤ (60 : Nat) ∧ p.len ≤ (60 : Nat)) ∧ (True → (true = true ↔ True)) ∧ ((True → False) → (false = true ↔ True))) ∧
                ((True → False) → (false = true ↔ True))) ∧
          ((60 : Int) < (↑q.len : Int) → (true = true ↔ True))) ∧
      ((60 : Int) < (↑p.len : Int) → (true = true ↔ True))) := by intros; kernel_rfl

theorem eqD_refl (a : D) : eqD a a := ⟨rfl, fun _ _ => rfl⟩
theorem compA_succ (p q : D) (x : Nat) : compA p q x ++ [D.int (atI p (atI q x).toNat)] = compA p q (x + 1) := by
  unfold compA; rw [List.range_succ, List.map_append]; rfl

theorem s25 (p q : D) (hp : p.len ≤ 60) (hq : q.len ≤ 60) : symFun (ctx conB (annLaw p q)) 3 25 [V.dat 29 p, V.dat 29 q] (V.prop True) := by
  rw [vc25]
  have hp' : p.len ≤ 100 := by omega
  have hq' : q.len ≤ 100 := by omega
  have hpp := eqD_refl p
  have hqq := eqD_refl q
  have hb : Tryz.prog.types[3].bytes = 8 := by kernel_rfl
  have hc : (compD p q).len ≤ 100 := by
    unfold compD
    split
    · rw [len_list, compA_len]; exact hq'
    · exact Nat.zero_le _
  have hi : (invD p).len ≤ 100 := by
    unfold invD
    split
    · rw [len_list, backL_len]; exact hp'
    · exact Nat.zero_le _
  have cnil : (¬ (p.len = q.len ∧ goodD p ∧ goodD q)) → eqD (compD p q) .nil := fun h => by
    unfold compD; rw [if_neg h]; exact eqD_refl _
  refine ⟨hp', hq', hp', fun hpm => ?_, fun hnp => ?_⟩
  · have hgp : goodD p := perm_good hpm
    refine ⟨by omega, by omega, by omega, by rw [hb]; omega, ⟨0, Nat.zero_le _, ⟨rfl, trivial⟩, back_zero p, trivial⟩, fun x hx => ⟨by unfold LIM; omega, fun hlt => ?_, fun hge => ?_⟩⟩
    · have ex : ((x : Int).toNat) = x := by omega
      rw [ex]
      have hr := hgp.1 x (by omega)
      exact ⟨by omega, hlt, hr.1, by show atI p x < _; omega, by rw [backL_len]; show (atI p x).toNat < _; omega, by omega, x + 1, by show x + 1 ≤ p.len; omega, by omega, ⟨by omega, trivial⟩, back_step p x hr.1 hr.2, trivial⟩
    · have hge' : ¬ (x : Int) < p.len := hge
      have hx' : x ≤ p.len := hx
      have : x = p.len := by omega
      subst this
      have hbl : 0 + (p.len : Int).toNat ≤ (backL p p.len).length := by rw [backL_len]; omega
      have hK : eqD (invD p) (.list (List.take (p.len : Int).toNat (List.drop 0 (backL p p.len)))) := by
        unfold invD; rw [if_pos hgp, List.drop_zero, List.take_of_length_le (by rw [backL_len]; omega)]
        exact eqD_refl _
      have tail : ∀ B : D, eqD (compD p q) B → (p.len ≤ 100 ∧ q.len ≤ 100) ∧ (compD p q).len ≤ 100 ∧ (eqD (compD p q) B → p.len ≤ 100 ∧ 0 + (p.len : Int).toNat ≤ (backL p p.len).length ∧ (invD p).len ≤ 100 ∧ (eqD (invD p) (.list (List.take (p.len : Int).toNat (List.drop 0 (backL p p.len)))) → p.len ≤ 100 ∧ (eqD p p → q.len ≤ 100 ∧ (eqD q q ↔ True)) ∧ ((eqD p p → False) → (false = true ↔ True))) ∧
          ((eqD (invD p) (.list (List.take (p.len : Int).toNat (List.drop 0 (backL p p.len)))) → False) → (false = true ↔ True))) ∧ ((eqD (compD p q) B → False) → (false = true ↔ True)) := fun B hB =>
        ⟨⟨hp', hq'⟩, hc, fun _ => ⟨hp', hbl, hi, fun _ => ⟨hp', fun _ => ⟨hq', iff_true_intro hqq⟩, fun h => (h hpp).elim⟩, fun h => (h hK).elim⟩, fun h => (h hB).elim⟩
      refine ⟨hq', fun hqm => ⟨fun hle => ?_, fun hne => ?_⟩, fun hnq => ?_⟩
      · have hgq : goodD q := perm_good hqm
        have hle' : p.len = q.len := by omega
        have hcd : compD p q = .list (compA p q q.len) := by unfold compD; rw [if_pos ⟨hle', hgp, hgq⟩]
        refine ⟨.inl ⟨0, rfl, ⟨rfl, trivial, trivial⟩, trivial⟩, fun y hy => ⟨by unfold LIM; omega, fun hlt => ?_, fun hge => ?_⟩, fun y hy => ⟨by unfold LIM; omega, fun hlt => ?_, fun hge => ?_⟩⟩
        · have hr := hgq.1 0 (by omega)
          refine ⟨by omega, hlt, hr.1, by show atI q 0 < _; omega, by simp, by omega, by omega, .inr ⟨1, by omega, by omega, ⟨rfl, ⟨rfl, rfl, trivial⟩, trivial⟩, ?_, trivial⟩⟩
          exact compA_succ p q 0
        · have hge' : ¬ (0 : Int) < q.len := hge
          have h0 : q.len = 0 := by omega
          refine tail .nil ?_
          rw [hcd, h0]; exact ⟨rfl, fun _ _ => rfl⟩
        · have hy2 : y < q.len := by omega
          have hr := hgq.1 y hy2
          have ex : ((y : Int).toNat) = y := by omega
          rw [ex]
          refine ⟨by omega, hlt, hr.1, by show atI q y < _; omega, by simp, by rw [compA_len]; omega, by omega, by omega, .inr ⟨y + 1, by omega, by omega, ⟨by omega, ⟨rfl, rfl, trivial⟩, trivial⟩, ?_, trivial⟩⟩
          rw [List.drop_zero, List.take_of_length_le (by rw [compA_len]; omega)]
          exact compA_succ p q y
        · have hge' : ¬ (y : Int) < q.len := hge
          have hyq : y = q.len := by omega
          subst hyq
          have hB : eqD (compD p q) (.list (List.take q.len (List.drop 0 (compA p q q.len)))) := by
            rw [hcd, List.drop_zero, List.take_of_length_le (by rw [compA_len]; omega)]; exact eqD_refl _
          obtain ⟨t1, t2⟩ := tail _ hB
          exact ⟨t1, by rw [compA_len]; omega, t2⟩
      · refine tail .nil (cnil fun h => ?_)
        have : (p.len : Int) = q.len := by rw [h.1]
        exact hne this
      · exact tail .nil (cnil fun h => hnq (good_perm h.2.2))
  · have hng : ¬ goodD p := fun h => hnp (good_perm h)
    have hB : eqD (compD p q) .nil := cnil fun h => hng h.2.1
    have hK : eqD (invD p) .nil := by unfold invD; rw [if_neg hng]; exact eqD_refl _
    exact ⟨⟨hp', hq'⟩, hc, fun _ => ⟨hp', hi, fun _ => ⟨hp', fun _ => ⟨hq', iff_true_intro hqq⟩, fun h => (h hpp).elim⟩, fun h => (h hK).elim⟩, fun h => (h hB).elim⟩

theorem s7 (p q : D) : symFun (ctx conC permAnn) 3 7 [V.dat 29 p, V.dat 29 q] (V.prop True) := by
  rw [vc7]
  refine ⟨fun h1 => ⟨fun h2 => ?_, fun _ => by simp⟩, fun _ => by simp⟩
  have h1' : ¬ (60 : Int) < p.len := h1
  have h2' : ¬ (60 : Int) < q.len := h2
  exact ⟨⟨by omega, by omega⟩, fun _ => ⟨⟨by omega, by omega⟩, fun _ => by simp, fun h => (h trivial).elim⟩, fun h => (h trivial).elim⟩

/-! ### The contracts -/
noncomputable def GS : Msk := { bits := 8148143480379123944539124198372026339899032286168269601245373172583125750031685756655763455, fast := false, ora := fun g => cond (Nat.beq g 21) (some (.bool true)) none }

theorem one29 {f : D → Prop × V} {us : List V} {p : Prop} {r : V} (h : (match us with | [.dat 29 d] => some (f d) | _ => none) = some (p, r)) : ∃ d, us = [.dat 29 d] ∧ f d = (p, r) := by
  split at h
  · exact ⟨_, rfl, Option.some.inj h⟩
  · cases h
theorem two29 {f : D → D → Prop × V} {us : List V} {p : Prop} {r : V} (h : (match us with | [.dat 29 a, .dat 29 b] => some (f a b) | _ => none) = some (p, r)) : ∃ a b, us = [.dat 29 a, .dat 29 b] ∧ f a b = (p, r) := by
  split at h
  · exact ⟨_, _, rfl, Option.some.inj h⟩
  · cases h

theorem v80 : ∀ d, 3 ≤ d → Valid Tryz.prog GS (ev Tryz.prog GS d) 80 con80 :=
  valid_of_sym (C := ctx (fun _ => none) permAnn) (G := GS) (B := 0) (m := 3) rfl rfl rfl (fun _ _ _ _ h => by cases h) fun us p r hc hp ht => by
    obtain ⟨d, rfl, he⟩ := one29 (f := fun d => (d.len ≤ 100, .prop (isPermD d))) hc
    cases he; exact s80 d hp
theorem v103 : ∀ d, 3 ≤ d → Valid Tryz.prog GS (ev Tryz.prog GS d) 103 con103 :=
  valid_of_sym (C := ctx (fun _ => none) permAnn) (G := GS) (B := 0) (m := 3) rfl rfl rfl (fun _ _ _ _ h => by cases h) fun us p r hc hp ht => by
    obtain ⟨d, rfl, he⟩ := one29 (f := fun d => (d.len ≤ 100, .prop (goodD d))) hc
    cases he; exact s103 d hp
theorem v46 : ∀ d, 3 ≤ d → Valid Tryz.prog GS (ev Tryz.prog GS d) 46 con46 :=
  valid_of_sym (C := ctx (fun _ => none) permAnn) (G := GS) (B := 0) (m := 3) rfl rfl rfl (fun _ _ _ _ h => by cases h) fun us p r hc hp ht => by
    obtain ⟨d, rfl, he⟩ := one29 (f := fun d => (d.len ≤ 100, .dat 29 d)) hc
    cases he; exact s46 d hp (ht 29 d (by simp))
theorem v43 : ∀ d, 3 ≤ d → Valid Tryz.prog GS (ev Tryz.prog GS d) 43 con43 :=
  valid_of_sym (C := ctx (fun _ => none) permAnn) (G := GS) (B := 0) (m := 3) rfl rfl rfl (fun _ _ _ _ h => by cases h) fun us p r hc hp ht => by
    obtain ⟨a, b, rfl, he⟩ := two29 (f := fun a b => (a.len ≤ 100, .prop (eqD a b))) hc
    cases he; exact s43 a b hp
theorem vA : ∀ d, 3 ≤ d → ∀ g c, conA g = some c → Valid Tryz.prog GS (ev Tryz.prog GS d) g c := fun d hd g c h => by
  unfold conA at h
  split at h
  · cases h; exact v80 d hd
  · cases h; exact v103 d hd
  · cases h; exact v46 d hd
  · cases h; exact v43 d hd
  · cases h
theorem v42 : ∀ d, 6 ≤ d → Valid Tryz.prog GS (ev Tryz.prog GS d) 42 con42 :=
  valid_of_sym (C := ctx conA permAnn) (G := GS) (B := 3) (m := 3) rfl rfl rfl vA fun us p r hc hp ht => by
    obtain ⟨d, rfl, he⟩ := one29 (f := fun d => (d.len ≤ 100, .dat 29 (invD d))) hc
    cases he; exact s42 d hp
open Classical in
theorem v44 : ∀ d, 6 ≤ d → Valid Tryz.prog GS (ev Tryz.prog GS d) 44 con44 := fun d hd us p r hc hp => by
  obtain ⟨a, b, rfl, he⟩ := two29 (f := fun p q => (p.len ≤ 100 ∧ q.len ≤ 100, .dat 29 (compD p q))) hc
  exact valid_of_sym (C := ctx conA (annComp a b)) (G := GS) (B := 3) (m := 3) (g := 44) (c := fun us => if us = [.dat 29 a, .dat 29 b] then con44 us else none) rfl rfl rfl vA (fun us p r hc hp ht => by
    split at hc
    · rename_i e; subst e
      have hc2 : some (a.len ≤ 100 ∧ b.len ≤ 100, V.dat 29 (compD a b)) = some (p, r) := hc
      cases hc2; exact s44 a b hp.1 hp.2
    · cases hc) d hd _ p r (by show (if _ then _ else _) = _; rw [if_pos rfl]; exact hc) hp
theorem vB : ∀ d, 6 ≤ d → ∀ g c, conB g = some c → Valid Tryz.prog GS (ev Tryz.prog GS d) g c := fun d hd g c h => by
  unfold conB at h
  split at h
  · cases h; exact v42 d hd
  · cases h; exact v44 d hd
  · exact vA d (by omega) _ c h
open Classical in
theorem v25 : ∀ d, 9 ≤ d → Valid Tryz.prog GS (ev Tryz.prog GS d) 25 con25 := fun d hd us p r hc hp => by
  obtain ⟨a, b, rfl, he⟩ := two29 (f := fun p q => (p.len ≤ 60 ∧ q.len ≤ 60, .prop True)) hc
  exact valid_of_sym (C := ctx conB (annLaw a b)) (G := GS) (B := 6) (m := 3) (g := 25) (c := fun us => if us = [.dat 29 a, .dat 29 b] then con25 us else none) rfl rfl rfl vB (fun us p r hc hp ht => by
    split at hc
    · rename_i e; subst e
      have hc2 : some (a.len ≤ 60 ∧ b.len ≤ 60, V.prop True) = some (p, r) := hc
      cases hc2; exact s25 a b hp.1 hp.2
    · cases hc) d hd _ p r (by show (if _ then _ else _) = _; rw [if_pos rfl]; exact hc) hp
theorem vC : ∀ d, 9 ≤ d → ∀ g c, conC g = some c → Valid Tryz.prog GS (ev Tryz.prog GS d) g c := fun d hd g c h => by
  unfold conC at h
  split at h
  · cases h; exact v25 d hd
  · cases h
theorem v7 : ∀ d, 12 ≤ d → Valid Tryz.prog GS (ev Tryz.prog GS d) 7 con7 :=
  valid_of_sym (C := ctx conC permAnn) (G := GS) (B := 9) (m := 3) rfl rfl rfl vC fun us p r hc hp ht => by
    obtain ⟨a, b, rfl, he⟩ := two29 (f := fun _ _ => (True, .prop True)) hc
    cases he; exact s7 a b
#print axioms v7
end Go.Ev
