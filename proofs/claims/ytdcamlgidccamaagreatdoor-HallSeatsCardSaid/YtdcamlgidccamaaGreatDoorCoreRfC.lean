/-
  Part of the engine that the claim is proved with: it states nothing of the document by itself.
-/
import Derived.Test.YtdcamlgidccamaaGreatDoorCoreRfB
open Go.Proofs
namespace Go.Ev
set_option maxRecDepth 100000
set_option maxHeartbeats 4000000
/-- What is to be shown of the loops of Distances; Q: of what comes behind them. -/
def ScanC (sh a b k : Int) (Q : Nat → Nat → Prop) : Prop := (True ∧ ((∃ (x : Nat), x = (0 : Nat) ∧ ((0 : Int) = (0 : Int) ∧ True ∧ True) ∧ True) ∨ ∃ (x : Nat), ((0 : Nat) < x ∧ x ≤ (sizeZ sh a b).toNat) ∧ ((0 : Int) = (↑x : Int) ∧ False ∧ True) ∧ False ∧ True)
 ∧ (∀ (x : Nat), x = (0 : Nat) → (sizeZ sh a b).toNat - x < LIM ∧ ((0 : Int) < sizeZ sh a b → (0 : Nat) + (1 : Nat) ≤ [D.int (-1 : Int)].length ∧ (1 : Nat) ≤ (16777216 : Nat) ∧ ((-9223372036854775808 :
 Int) ≤ (0 : Int) + (1 : Int) ∧ (0 : Int) + (1 : Int) < (9223372036854775808 : Int)) ∧ ((∃ (y : Nat), y = (0 : Nat) ∧ (sizeZ sh a b).toNat - y < (sizeZ sh a b).toNat - x ∧ ((0 : Int) + (1 : Int) = (0 :
 Int) ∧ False ∧ True) ∧ True) ∨ ∃ (y : Nat), ((0 : Nat) < y ∧ y ≤ (sizeZ sh a b).toNat) ∧ (sizeZ sh a b).toNat - y < (sizeZ sh a b).toNat - x ∧ ((0 : Int) + (1 : Int) = (↑y : Int) ∧ ((0 : Nat) = (0 :
 Nat) ∧ (1 : Nat) = y ∧ True) ∧ True) ∧ (List.take (1 : Nat) [D.int (-1 : Int)] = rowN y fun (x : Nat) => (-1 : Int)) ∧ True)) ∧ (((0 : Int) < sizeZ sh a b → False) → False)) ∧ ∀ (x : Nat), (0 : Nat) <
 x ∧ x ≤ (sizeZ sh a b).toNat → (sizeZ sh a b).toNat - x < LIM ∧ ((↑x : Int) < sizeZ sh a b → (0 : Nat) + (1 : Nat) ≤ [D.int (-1 : Int)].length ∧ (0 : Nat) + x ≤ (rowN x fun (x : Nat) => (-1 :
 Int)).length ∧ x + (1 : Nat) ≤ (16777216 : Nat) ∧ ((-9223372036854775808 : Int) ≤ (↑x : Int) + (1 : Int) ∧ (↑x : Int) + (1 : Int) < (9223372036854775808 : Int)) ∧ ((∃ (y : Nat), y = (0 : Nat) ∧ (sizeZ
 sh a b).toNat - y < (sizeZ sh a b).toNat - x ∧ ((↑x : Int) + (1 : Int) = (0 : Int) ∧ False ∧ True) ∧ True) ∨ ∃ (y : Nat), ((0 : Nat) < y ∧ y ≤ (sizeZ sh a b).toNat) ∧ (sizeZ sh a b).toNat - y < (sizeZ
 sh a b).toNat - x ∧ ((↑x : Int) + (1 : Int) = (↑y : Int) ∧ ((0 : Nat) = (0 : Nat) ∧ x + (1 : Nat) = y ∧ True) ∧ True) ∧ (List.take x (rowN x fun (x : Nat) => (-1 : Int)) ++ List.take (1 : Nat) [D.int
 (-1 : Int)] = rowN y fun (x : Nat) => (-1 : Int)) ∧ True)) ∧ (((↑x : Int) < sizeZ sh a b → False) → (0 : Int) ≤ k ∧ k < (↑x : Int) ∧ k.toNat < (rowN x fun (x : Nat) => (-1 : Int)).length ∧ (∃ (x_1 :
 Nat), x_1.le x ∧ ((0 : Int) = (↑x_1 : Int) ∧ True) ∧ (rowN x fun (x : Nat) => (-1 : Int)).set k.toNat (D.int (0 : Int)) = rowN x (midL x (nearN sh a b) k.toNat x_1 (0 : Nat) (0 : Nat)) ∧ True) ∧ ∀
 (x_1 : Nat), x_1.le x → x - x_1 < LIM ∧ ((↑x_1 : Int) < sizeZ sh a b → (∃ (x_2 : Nat), x_2.le x ∧ ((0 : Int) = (↑x_2 : Int) ∧ True) ∧ rowN x (midL x (nearN sh a b) k.toNat x_1 (0 : Nat) (0 : Nat)) =
 rowN x (midL x (nearN sh a b) k.toNat x_1 x_2 (0 : Nat)) ∧ True) ∧ ∀ (x_2 : Nat), x_2.le x → x - x_2 < LIM ∧ ((↑x_2 : Int) < sizeZ sh a b → (∃ (x_3 : Nat), x_3.le x ∧ ((0 : Int) = (↑x_3 : Int) ∧ True)
 ∧ rowN x (midL x (nearN sh a b) k.toNat x_1 x_2 (0 : Nat)) = rowN x (midL x (nearN sh a b) k.toNat x_1 x_2 x_3) ∧ True) ∧ ∀ (x_3 : Nat), x_3.le x → x - x_3 < LIM ∧ ((↑x_3 : Int) < sizeZ sh a b → (0 :
 Int) ≤ (↑x_2 : Int) ∧ (↑x_2 : Int) < (↑x : Int) ∧ x_2 < (rowN x (midL x (nearN sh a b) k.toNat x_1 x_2 x_3)).length ∧ ((nthD (rowN x (midL x (nearN sh a b) k.toNat x_1 x_2 x_3)) x_2).asInt = (↑x_1 :
 Int) → (0 : Int) ≤ (↑x_3 : Int) ∧ (↑x_3 : Int) < (↑x : Int) ∧ x_3 < (rowN x (midL x (nearN sh a b) k.toNat x_1 x_2 x_3)).length ∧ ((nthD (rowN x (midL x (nearN sh a b) k.toNat x_1 x_2 x_3)) x_3).asInt
 < (0 : Int) → (inTab sh a b (↑x_2 : Int) ∧ inTab sh a b (↑x_3 : Int)) ∧ (nearP sh a b (↑x_2 : Int) (↑x_3 : Int) → ((-9223372036854775808 : Int) ≤ (↑x_1 : Int) + (1 : Int) ∧ (↑x_1 : Int) + (1 : Int) <
 (9223372036854775808 : Int)) ∧ (0 : Int) ≤ (↑x_3 : Int) ∧ (↑x_3 : Int) < (↑x : Int) ∧ x_3 < (rowN x (midL x (nearN sh a b) k.toNat x_1 x_2 x_3)).length ∧ ((-9223372036854775808 : Int) ≤ (↑x_3 : Int) +
 (1 : Int) ∧ (↑x_3 : Int) + (1 : Int) < (9223372036854775808 : Int)) ∧ ∃ (y : Nat), y.le x ∧ x - y < x - x_3 ∧ ((↑x_3 : Int) + (1 : Int) = (↑y : Int) ∧ True) ∧ (rowN x (midL x (nearN sh a b) k.toNat
 x_1 x_2 x_3)).set x_3 (D.int ((↑x_1 : Int) + (1 : Int))) = rowN x (midL x (nearN sh a b) k.toNat x_1 x_2 y) ∧ True) ∧ ((nearP sh a b (↑x_2 : Int) (↑x_3 : Int) → False) → ((-9223372036854775808 : Int)
 ≤ (↑x_3 : Int) + (1 : Int) ∧ (↑x_3 : Int) + (1 : Int) < (9223372036854775808 : Int)) ∧ ∃ (y : Nat), y.le x ∧ x - y < x - x_3 ∧ ((↑x_3 : Int) + (1 : Int) = (↑y : Int) ∧ True) ∧ rowN x (midL x (nearN sh
 a b) k.toNat x_1 x_2 x_3) = rowN x (midL x (nearN sh a b) k.toNat x_1 x_2 y) ∧ True)) ∧ (((nthD (rowN x (midL x (nearN sh a b) k.toNat x_1 x_2 x_3)) x_3).asInt < (0 : Int) → False) →
 ((-9223372036854775808 : Int) ≤ (↑x_3 : Int) + (1 : Int) ∧ (↑x_3 : Int) + (1 : Int) < (9223372036854775808 : Int)) ∧ ∃ (y : Nat), y.le x ∧ x - y < x - x_3 ∧ ((↑x_3 : Int) + (1 : Int) = (↑y : Int) ∧
 True) ∧ rowN x (midL x (nearN sh a b) k.toNat x_1 x_2 x_3) = rowN x (midL x (nearN sh a b) k.toNat x_1 x_2 y) ∧ True)) ∧ (((nthD (rowN x (midL x (nearN sh a b) k.toNat x_1 x_2 x_3)) x_2).asInt = (↑x_1
 : Int) → False) → ((-9223372036854775808 : Int) ≤ (↑x_3 : Int) + (1 : Int) ∧ (↑x_3 : Int) + (1 : Int) < (9223372036854775808 : Int)) ∧ ∃ (y : Nat), y.le x ∧ x - y < x - x_3 ∧ ((↑x_3 : Int) + (1 : Int)
 = (↑y : Int) ∧ True) ∧ rowN x (midL x (nearN sh a b) k.toNat x_1 x_2 x_3) = rowN x (midL x (nearN sh a b) k.toNat x_1 x_2 y) ∧ True)) ∧ (((↑x_3 : Int) < sizeZ sh a b → False) → ((-9223372036854775808
 : Int) ≤ (↑x_2 : Int) + (1 : Int) ∧ (↑x_2 : Int) + (1 : Int) < (9223372036854775808 : Int)) ∧ ∃ (y : Nat), y.le x ∧ x - y < x - x_2 ∧ ((↑x_2 : Int) + (1 : Int) = (↑y : Int) ∧ True) ∧ rowN x (midL x
 (nearN sh a b) k.toNat x_1 x_2 x_3) = rowN x (midL x (nearN sh a b) k.toNat x_1 y (0 : Nat)) ∧ True)) ∧ (((↑x_2 : Int) < sizeZ sh a b → False) → ((-9223372036854775808 : Int) ≤ (↑x_1 : Int) + (1 :
 Int) ∧ (↑x_1 : Int) + (1 : Int) < (9223372036854775808 : Int)) ∧ ∃ (y : Nat), y.le x ∧ x - y < x - x_1 ∧ ((↑x_1 : Int) + (1 : Int) = (↑y : Int) ∧ True) ∧ rowN x (midL x (nearN sh a b) k.toNat x_1 x_2
 (0 : Nat)) = rowN x (midL x (nearN sh a b) k.toNat y (0 : Nat) (0 : Nat)) ∧ True)) ∧ (((↑x_1 : Int) < sizeZ sh a b → False) → Q x x_1)))
theorem scan_cond (sh a b k : Int) (hk : inTab sh a b k) (Q : Nat → Nat → Prop) (hQ : Q (sizeZ sh a b).toNat (sizeZ sh a b).toNat) : ScanC sh a b k Q := by
  unfold ScanC
  have hs := size_cases hk.out.1
  have hk' := hk.out.2
  have h24 : 0 < sizeZ sh a b ∧ sizeZ sh a b ≤ 24 := by omega
  obtain ⟨n, hn⟩ : ∃ n : Nat, sizeZ sh a b = n := ⟨(sizeZ sh a b).toNat, by omega⟩
  have hT : ∀ m : Nat, m < n → inTab sh a b m := fun m hm => ⟨hk.out.1, by omega, by omega⟩
  have hnt : (sizeZ sh a b).toNat = n := by omega
  rw [hnt] at hQ
  simp only [imp_false]
  rw [hnt]
  have cg : ∀ {L L' : Nat → Int}, (∀ m, m < n → L m = L' m) → rowN n L = rowN n L' := fun h => by
    unfold rowN
    apply List.map_congr_left
    intro m hm
    rw [h m (List.mem_range.1 hm)]
  have hLIM : ∀ m : Nat, m ≤ 24 → m < LIM := fun m h => by unfold LIM; omega
  refine ⟨trivial, .inl ⟨0, rfl, (by simp)⟩, ?_, ?_⟩
  · intro x hx
    subst hx
    refine ⟨hLIM _ (by omega), fun _ => ⟨by simp, by omega, by omega, .inr ⟨1, ⟨by omega, by omega⟩, by omega, (by simp), rfl, trivial⟩⟩, fun h => by omega⟩
  · intro x hx
    obtain ⟨hx0, hx1⟩ := hx
    refine ⟨hLIM _ (by omega), fun hlt => ⟨by simp, by rw [len_rowN]; omega, by omega, by omega, .inr ⟨x + 1, ⟨by omega, by omega⟩, by omega, (by simp), ?_, trivial⟩⟩, fun hge => ?_⟩
    · rw [List.take_of_length_le (by rw [len_rowN]; omega)]
      unfold rowN
      rw [List.range_succ, List.map_append]; rfl
    · have hxn : x = n := by omega
      subst hxn
      have hkn : k.toNat < x := by omega
      refine ⟨by omega, by omega, by rw [len_rowN]; omega, ⟨0, Nat.zero_le _, (by simp), ?_, trivial⟩, fun d hd => ?_⟩
      · rw [set_rowN]
        apply cg
        intro m _
        rw [mid_zero]; rfl
      have hd : d ≤ x := hd
      refine ⟨hLIM _ (by omega), fun h1 => ⟨⟨0, Nat.zero_le _, (by simp), rfl, trivial⟩, fun p hp => ?_⟩, fun h1 => ?_⟩
      · have hp : p ≤ x := hp
        refine ⟨hLIM _ (by omega), fun h2 => ⟨⟨0, Nat.zero_le _, (by simp), rfl, trivial⟩, fun q hq => ?_⟩, fun h2 => ?_⟩
        · have hq : q ≤ x := hq
          refine ⟨hLIM _ (by omega), fun h3 => ?_, fun h3 => ?_⟩
          · have hpx : p < x := by omega
            have hqx : q < x := by omega
            have skip : ¬ (midL x (nearN sh a b) k.toNat d p q p = d ∧ midL x (nearN sh a b) k.toNat d p q q < 0 ∧ nearN sh a b p q) → ∃ y : Nat, y.le x ∧ x - y < x - q ∧ ((q : Int) + 1 = (y : Int) ∧ True) ∧ rowN x (midL x (nearN sh a b) k.toNat d p q) = rowN x (midL x (nearN sh a b) k.toNat d p y) ∧ True := fun h =>
              ⟨q + 1, show q + 1 ≤ x by omega, by omega, (by simp), by rw [mid_skip h], trivial⟩
            rw [nth_rowN _ hpx, nth_rowN _ hqx, len_rowN]
            refine ⟨by omega, by omega, by omega, fun e1 => ⟨by omega, by omega, by omega, fun e2 => ⟨⟨hT p hpx, hT q hqx⟩, fun e3 => ⟨by omega, by omega, by omega, by omega, by omega, q + 1, show q + 1 ≤ x by omega, by omega, (by simp), ?_, trivial⟩, fun e3 => ⟨by omega, skip fun h => e3 h.2.2⟩⟩, fun e2 => ⟨by omega, skip fun h => e2 h.2.1⟩⟩, fun e1 => ⟨by omega, skip fun h => e1 h.1⟩⟩
            rw [set_rowN, mid_set hpx e1 e2 e3]
          · have : q = x := by omega
            subst this
            exact ⟨by omega, p + 1, show p + 1 ≤ q by omega, by omega, (by simp), cg fun m hm => mid_row hm, trivial⟩
        · have : p = x := by omega
          subst this
          exact ⟨by omega, d + 1, show d + 1 ≤ p by omega, by omega, (by simp), cg fun m _ => mid_lvl, trivial⟩
      · have : d = x := by omega
        subst this
        exact hQ
theorem vc134 : ∀ (nm : List UInt8) (sh a b : Int) (o : D) (x y k : Int), symFun (ctx rf2 rfAnn) 4 (134 : FuncId) [V.agg [V.str nm, V.int IntKind.u8 sh, V.int IntKind.i64 a, V.int IntKind.i64 b, V.dat (29 : TypeId) o,
 V.int IntKind.i64 x, V.int IntKind.i64 y], V.int IntKind.i64 k] (V.dat (29 : TypeId) (D.list (distRow (sizeZ sh a b).toNat sh a b k))) = ScanC sh a b k (fun x d => 0 + x ≤ (rowN x (midL x (nearN sh a b) k.toNat d 0
 0)).length ∧ D.list (List.take x (rowN x (midL x (nearN sh a b) k.toNat d 0 0))) = D.list (distRow (sizeZ sh a b).toNat sh a b k)) := by intros; kernel_rfl
theorem vc132 : ∀ (nm : List UInt8) (sh a b : Int) (o : D) (x y : Int), symFun (ctx rf2 rfAnn) 6 (132 : FuncId) [V.agg [V.str nm, V.int IntKind.u8 sh, V.int IntKind.i64 a, V.int IntKind.i64 b, V.dat (29 : TypeId) o,
 V.int IntKind.i64 x, V.int IntKind.i64 y]] (V.dat (29 : TypeId) (D.list (levelRow sh a b))) = ((sizeZ sh a b = 0 → False) ∧ ScanC sh a b (honZ sh a b) (fun x d => (∃ (x_2 : Nat), x_2.le (rowN x (midL x (nearN sh a b)
 (honZ sh a b).toNat d 0 0)).length ∧ (0 = (x_2 : Int) ∧ True) ∧ rowN x (midL x (nearN sh a b) (honZ sh a b).toNat d 0 0) = fixR (rowN x (midL x (nearN sh a b) (honZ sh a b).toNat d 0 0)) x_2 ∧ True) ∧ ∀ (x_2 : Nat),
 x_2.le (rowN x (midL x (nearN sh a b) (honZ sh a b).toNat d 0 0)).length → (rowN x (midL x (nearN sh a b) (honZ sh a b).toNat d 0 0)).length - x_2 < LIM ∧ ((x_2 : Int) < (x : Int) → 0 ≤ (x_2 : Int) ∧ (x_2 : Int) < (x :
 Int) ∧ x_2 < (fixR (rowN x (midL x (nearN sh a b) (honZ sh a b).toNat d 0 0)) x_2).length ∧ ((nthD (fixR (rowN x (midL x (nearN sh a b) (honZ sh a b).toNat d 0 0)) x_2) x_2).asInt < 0 → 0 ≤ (x_2 : Int) ∧ (x_2 : Int) < (x
 : Int) ∧ x_2 < (fixR (rowN x (midL x (nearN sh a b) (honZ sh a b).toNat d 0 0)) x_2).length ∧ ((-9223372036854775808) ≤ (x_2 : Int) + 1 ∧ (x_2 : Int) + 1 < 9223372036854775808) ∧ ∃ (y : Nat), y.le (rowN x (midL x (nearN
 sh a b) (honZ sh a b).toNat d 0 0)).length ∧ (rowN x (midL x (nearN sh a b) (honZ sh a b).toNat d 0 0)).length - y < (rowN x (midL x (nearN sh a b) (honZ sh a b).toNat d 0 0)).length - x_2 ∧ ((x_2 : Int) + 1 = (y : Int)
 ∧ True) ∧ (fixR (rowN x (midL x (nearN sh a b) (honZ sh a b).toNat d 0 0)) x_2).set x_2 (D.int (x : Int)) = fixR (rowN x (midL x (nearN sh a b) (honZ sh a b).toNat d 0 0)) y ∧ True) ∧ (((nthD (fixR (rowN x (midL x (nearN
 sh a b) (honZ sh a b).toNat d 0 0)) x_2) x_2).asInt < 0 → False) → ((-9223372036854775808) ≤ (x_2 : Int) + 1 ∧ (x_2 : Int) + 1 < 9223372036854775808) ∧ ∃ (y : Nat), y.le (rowN x (midL x (nearN sh a b) (honZ sh a b).toNat
 d 0 0)).length ∧ (rowN x (midL x (nearN sh a b) (honZ sh a b).toNat d 0 0)).length - y < (rowN x (midL x (nearN sh a b) (honZ sh a b).toNat d 0 0)).length - x_2 ∧ ((x_2 : Int) + 1 = (y : Int) ∧ True) ∧ fixR (rowN x (midL
 x (nearN sh a b) (honZ sh a b).toNat d 0 0)) x_2 = fixR (rowN x (midL x (nearN sh a b) (honZ sh a b).toNat d 0 0)) y ∧ True)) ∧ (((x_2 : Int) < (x : Int) → False) → 0 + x ≤ (fixR (rowN x (midL x (nearN sh a b) (honZ sh a
 b).toNat d 0 0)) x_2).length ∧ D.list (List.take x (fixR (rowN x (midL x (nearN sh a b) (honZ sh a b).toNat d 0 0)) x_2)) = D.list (levelRow sh a b)))) := by intros; kernel_rfl
theorem mid_dist {sh a b k : Int} (hk : inTab sh a b k) : rowN (sizeZ sh a b).toNat (midL (sizeZ sh a b).toNat (nearN sh a b) k.toNat (sizeZ sh a b).toNat 0 0) = distRow (sizeZ sh a b).toNat sh a b k := by
  have hk' := hk.out.2
  unfold distRow rowN
  apply List.map_congr_left
  intro m hm
  rw [mid_end (by omega) (List.mem_range.1 hm)]
theorem s134 (nm : List UInt8) (sh a b : Int) (o : D) (x y k : Int) (hk : inTab sh a b k) : symFun (ctx rf2 rfAnn) 4 134 [.agg [.str nm, .int .u8 sh, .int .i64 a, .int .i64 b, .dat 29 o, .int .i64 x, .int .i64 y], .int .i64 k] (.dat 29 (.list (distRow (sizeZ sh a b).toNat sh a b k))) := by
  rw [vc134]
  refine scan_cond sh a b k hk _ ?_
  refine ⟨by rw [len_rowN]; omega, ?_⟩
  rw [List.take_of_length_le (by rw [len_rowN]; omega), mid_dist hk]
theorem s132 (nm : List UInt8) (sh a b : Int) (o : D) (x y : Int) (h0 : sizeZ sh a b ≠ 0) : symFun (ctx rf2 rfAnn) 6 132 [.agg [.str nm, .int .u8 sh, .int .i64 a, .int .i64 b, .dat 29 o, .int .i64 x, .int .i64 y]] (.dat 29 (.list (levelRow sh a b))) := by
  have hk := hon_in h0
  have hs := size_cases h0
  rw [vc132]
  refine ⟨h0, scan_cond sh a b (honZ sh a b) hk _ ?_⟩
  rw [mid_dist hk, len_dist]
  have hr : (distRow (sizeZ sh a b).toNat sh a b (honZ sh a b)).length = (sizeZ sh a b).toNat := len_dist _ _ _ _ _
  have hlv : levelRow sh a b = fixR (distRow (sizeZ sh a b).toNat sh a b (honZ sh a b)) (sizeZ sh a b).toNat := rfl
  rw [hlv]
  generalize distRow (sizeZ sh a b).toNat sh a b (honZ sh a b) = R at *
  generalize hN : (sizeZ sh a b).toNat = N at *
  have h24 : N ≤ 24 := by omega
  clear hlv hk h0
  refine ⟨⟨0, Nat.zero_le _, ⟨rfl, trivial⟩, by simp [fixR], trivial⟩, fun z hz => ?_⟩
  have hz : z ≤ N := hz
  have hl : (fixR R z).length = N := by rw [len_fixR (by omega), hr]
  refine ⟨by unfold LIM; omega, fun hlt => ⟨by omega, hlt, by omega, fun hneg => ⟨by omega, hlt, by omega, by omega, z + 1, show z + 1 ≤ N by omega, by omega, ⟨rfl, trivial⟩, ?_, trivial⟩, fun hneg => ⟨by omega, z + 1, show z + 1 ≤ N by omega, by omega, ⟨rfl, trivial⟩, ?_, trivial⟩⟩, fun hge => ⟨by omega, ?_⟩⟩
  · rw [nth_fixR (by omega)] at hneg
    have := fixR_neg (row := R) (x := z) (by omega) hneg
    rw [hr] at this; exact this
  · rw [nth_fixR (by omega)] at hneg
    exact fixR_pos (by omega) hneg
  · have hge : ¬ ((z : Int) < (N : Int)) := hge
    have e : z = N := by omega
    subst e
    rw [List.take_of_length_le (by omega)]
theorem v134 : ∀ d, 49 ≤ d → VC d 134 con134 := fun d hd =>
  valid_of_sym (C := ctx rf2 rfAnn) (G := GC) (B := 45) (m := 4) rfl rfl rfl vf2 (fun us p r hc hp ht => by
    unfold con134 at hc; split at hc
    · cases hc; exact s134 _ _ _ _ _ _ _ _ hp
    · cases hc) (fun _ _ => rfl) rfl d hd
theorem v132 : ∀ d, 51 ≤ d → VC d 132 con132 := fun d hd =>
  valid_of_sym (C := ctx rf2 rfAnn) (G := GC) (B := 45) (m := 6) rfl rfl rfl vf2 (fun us p r hc hp ht => by
    unfold con132 at hc; split at hc
    · cases hc; exact s132 _ _ _ _ _ _ _ hp
    · cases hc) (fun _ _ => rfl) rfl d hd
end Go.Ev
