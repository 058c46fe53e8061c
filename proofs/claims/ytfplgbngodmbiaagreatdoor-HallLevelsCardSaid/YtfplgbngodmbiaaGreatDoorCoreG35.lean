/-
  Part of the engine that the claim is proved with: it states nothing of the document by itself.
-/
import Derived.Test.YtfplgbngodmbiaaGreatDoorCoreG28
import Derived.Test.YtfplgbngodmbiaaGreatDoorCoreG34
import Derived.Test.YtfplgbngodmbiaaGreatDoorCoreScan
import Derived.Test.YtfplgbngodmbiaaGreatDoorCoreG31
import Derived.Test.YtfplgbngodmbiaaGreatDoorCoreKit

section
open Go.Proofs
namespace Go.Ev
set_option maxRecDepth 100000
set_option maxHeartbeats 4000000
theorem lv_val {d : D} {k : Nat} (hk : k < dN d) : lvN d k = if distZ (dN d) (nearN (tShape d) (tA d) (tB d)) (honZ (tShape d) (tA d) (tB d)).toNat k < 0 then (dN d : Int) else distZ (dN d) (nearN (tShape d) (tA d) (tB d)) (honZ (tShape d) (tA d) (tB d)).toNat k := by
  have hl : (distRow (dN d) (tShape d) (tA d) (tB d) (honZ (tShape d) (tA d) (tB d))).length = dN d := len_dist _ _ _ _ _
  have e : levelRow (tShape d) (tA d) (tB d) = (distRow (dN d) (tShape d) (tA d) (tB d) (honZ (tShape d) (tA d) (tB d))).map fun u => if u.asInt < 0 then D.int (dN d) else u := by
    show fixR (distRow (dN d) (tShape d) (tA d) (tB d) (honZ (tShape d) (tA d) (tB d))) (dN d) = _
    unfold fixR
    rw [List.take_of_length_le (by omega), List.drop_eq_nil_of_le (by omega), List.append_nil, hl]
  unfold lvN
  rw [e]
  unfold nthD
  rw [List.getElem?_map, List.getElem?_eq_getElem (by omega)]
  have g : (distRow (dN d) (tShape d) (tA d) (tB d) (honZ (tShape d) (tA d) (tB d)))[k]'(by omega) = D.int (distZ (dN d) (nearN (tShape d) (tA d) (tB d)) (honZ (tShape d) (tA d) (tB d)).toNat k) := by
    rw [← nthD_get _ _ (by omega)]
    unfold distRow rowN
    exact nth_mapR _ _ _ hk
  rw [g]
  simp only [Option.map_some, Option.getD_some]
  generalize distZ (dN d) (nearN (tShape d) (tA d) (tB d)) (honZ (tShape d) (tA d) (tB d)).toNat k = z
  by_cases hz : z < 0
  · rw [if_pos (show (D.int z).asInt < 0 from hz), if_pos hz]; rfl
  · rw [if_neg (show ¬ (D.int z).asInt < 0 from hz), if_neg hz]; rfl
theorem lv_range {d : D} {k : Nat} (hk : k < dN d) (hh : (honZ (tShape d) (tA d) (tB d)).toNat < dN d) : 0 ≤ lvN d k ∧ lvN d k ≤ dN d := by
  rw [lv_val hk]
  have := distZ_lt (near := nearN (tShape d) (tA d) (tB d)) hh hk
  split <;> omega
section
variable {d : D} {F : Int}
end
end Go.Ev

end

section
open Go.Proofs
namespace Go.Ev
set_option maxRecDepth 100000
set_option maxHeartbeats 4000000
theorem hoP_sum {d : D} {F : Int} : ∀ x, (hoL d F x).length = ((List.range x).map fun (v : Nat) => (List.range (dN d)).countP fun k => decide (lvN d k = v)).sum
  | 0 => rfl
  | x + 1 => by
    rw [List.range_succ, List.map_append, List.sum_append, ← hoP_sum (d := d) (F := F) x]
    show (hoL d F x ++ hoP d F x (dN d)).length = _
    rw [List.length_append]
    unfold hoP
    rw [List.length_map, ← List.countP_eq_length_filter]; simp
theorem sum_swap (p : Nat → Nat → Bool) (us : List Nat) : ∀ bs : List Nat, (us.map fun a => bs.countP fun b => p a b).sum = (bs.map fun b => us.countP fun a => p a b).sum
  | [] => by
    have hz : ∀ l : List Nat, (l.map fun _ => 0).sum = 0 := fun l => by induction l with | nil => rfl | cons a l ih => simp [ih]
    simpa using hz us
  | b :: bs => by
    have step : ∀ us : List Nat, (us.map fun a => (b :: bs).countP fun b => p a b).sum = (us.map fun a => bs.countP fun b => p a b).sum + us.countP (fun a => p a b) := by
      intro us
      induction us with
      | nil => rfl
      | cons a us ih =>
        rw [List.map_cons, List.map_cons, List.sum_cons, List.sum_cons, ih]
        cases hp : p a b <;> simp [List.countP_cons, hp] <;> omega
    rw [step, sum_swap p us bs, List.map_cons, List.sum_cons]; omega
end Go.Ev

end

section
open Go.Proofs
namespace Go.Ev
set_option maxRecDepth 100000
set_option maxHeartbeats 4000000
theorem vc15 : ∀ (l : D), symFun (ctxF hl1 hlAnn (fun _ _ => []) hlJoin) 4 (15 : FuncId) [V.dat (65 : TypeId) l] (V.prop True) = (codesP l ∧ (∃ (x : Nat), x.le (madeD l).len ∧ (0 = (x : Int) ∧ 0 = sumZ (madeD l) x ∧
 True) ∧ True) ∧ ∀ (x : Nat), x.le (madeD l).len → (madeD l).len - x < LIM ∧ ((x : Int) < (↑(madeD l).len : Int) → 0 ≤ (x : Int) ∧ (x : Int) < (↑(madeD l).len : Int) ∧ (tOpen (el (madeD l) x)).len ≤ 100 ∧ smallD (madeD l)
 ∧ ((seatsZ (tName (el (madeD l) x)) (tShape (el (madeD l) x)) (tA (el (madeD l) x)) (tB (el (madeD l) x)) (tOpen (el (madeD l) x)) (tX (el (madeD l) x)) (tY (el (madeD l) x)) < 1 → False) → ((((↑(honD (madeD l) (x :
 Int)).len : Int) = seatsZ (tName (el (madeD l) x)) (tShape (el (madeD l) x)) (tA (el (madeD l) x)) (tB (el (madeD l) x)) (tOpen (el (madeD l) x)) (tX (el (madeD l) x)) (tY (el (madeD l) x)) → False) → False) → smallD
 (madeD l) ∧ ((firstZ (madeD l) (x : Int) = sumZ (madeD l) x → False) → (false = true ↔ True)) ∧ (((firstZ (madeD l) (x : Int) = sumZ (madeD l) x → False) → False) → (∃ (x_1 : Nat), x_1.le (honD (madeD l) (x : Int)).len ∧
 (0 = (x_1 : Int) ∧ True) ∧ True) ∧ ∀ (x_1 : Nat), x_1.le (honD (madeD l) (x : Int)).len → (honD (madeD l) (x : Int)).len - x_1 < LIM ∧ ((x_1 : Int) < (↑(honD (madeD l) (x : Int)).len : Int) → 0 ≤ (x_1 : Int) ∧ (x_1 :
 Int) < (↑(honD (madeD l) (x : Int)).len : Int) ∧ (smallD (madeD l) ∧ i64P (el (honD (madeD l) (x : Int)) x_1).asInt) ∧ (((el (honD (madeD l) (x : Int)) x_1).asInt < sumZ (madeD l) x → False) → ((-9223372036854775808) ≤
 sumZ (madeD l) x + seatsZ (tName (el (madeD l) x)) (tShape (el (madeD l) x)) (tA (el (madeD l) x)) (tB (el (madeD l) x)) (tOpen (el (madeD l) x)) (tX (el (madeD l) x)) (tY (el (madeD l) x)) ∧ sumZ (madeD l) x + seatsZ
 (tName (el (madeD l) x)) (tShape (el (madeD l) x)) (tA (el (madeD l) x)) (tB (el (madeD l) x)) (tOpen (el (madeD l) x)) (tX (el (madeD l) x)) (tY (el (madeD l) x)) < 9223372036854775808) ∧ ((sumZ (madeD l) x + seatsZ
 (tName (el (madeD l) x)) (tShape (el (madeD l) x)) (tA (el (madeD l) x)) (tB (el (madeD l) x)) (tOpen (el (madeD l) x)) (tX (el (madeD l) x)) (tY (el (madeD l) x)) ≤ (el (honD (madeD l) (x : Int)) x_1).asInt → False) →
 ((((levelH (madeD l) (el (honD (madeD l) (x : Int)) x_1).asInt = 0 ↔ (x_1 : Int) = 0) → False) → False) → (seatsZ (tName (el (madeD l) x)) (tShape (el (madeD l) x)) (tA (el (madeD l) x)) (tB (el (madeD l) x)) (tOpen (el
 (madeD l) x)) (tX (el (madeD l) x)) (tY (el (madeD l) x)) < levelH (madeD l) (el (honD (madeD l) (x : Int)) x_1).asInt → (false = true ↔ True)) ∧ ((seatsZ (tName (el (madeD l) x)) (tShape (el (madeD l) x)) (tA (el (madeD
 l) x)) (tB (el (madeD l) x)) (tOpen (el (madeD l) x)) (tX (el (madeD l) x)) (tY (el (madeD l) x)) < levelH (madeD l) (el (honD (madeD l) (x : Int)) x_1).asInt → False) → ((0 < (x_1 : Int) → ((-9223372036854775808) ≤ (x_1
 : Int) - 1 ∧ (x_1 : Int) - 1 < 9223372036854775808) ∧ 0 ≤ (x_1 : Int) - 1 ∧ (x_1 : Int) - 1 < (↑(honD (madeD l) (x : Int)).len : Int) ∧ (smallD (madeD l) ∧ i64P (el (honD (madeD l) (x : Int)) ((x_1 : Int) -
 1).toNat).asInt) ∧ ((levelH (madeD l) (el (honD (madeD l) (x : Int)) x_1).asInt < levelH (madeD l) (el (honD (madeD l) (x : Int)) ((x_1 : Int) - 1).toNat).asInt → False) → ((-9223372036854775808) ≤ (x_1 : Int) - 1 ∧ (x_1
 : Int) - 1 < 9223372036854775808) ∧ 0 ≤ (x_1 : Int) - 1 ∧ (x_1 : Int) - 1 < (↑(honD (madeD l) (x : Int)).len : Int) ∧ (smallD (madeD l) ∧ i64P (el (honD (madeD l) (x : Int)) ((x_1 : Int) - 1).toNat).asInt) ∧ (levelH
 (madeD l) (el (honD (madeD l) (x : Int)) ((x_1 : Int) - 1).toNat).asInt = levelH (madeD l) (el (honD (madeD l) (x : Int)) x_1).asInt → ((-9223372036854775808) ≤ (x_1 : Int) - 1 ∧ (x_1 : Int) - 1 < 9223372036854775808) ∧
 0 ≤ (x_1 : Int) - 1 ∧ (x_1 : Int) - 1 < (↑(honD (madeD l) (x : Int)).len : Int) ∧ ((el (honD (madeD l) (x : Int)) x_1).asInt ≤ (el (honD (madeD l) (x : Int)) ((x_1 : Int) - 1).toNat).asInt → (false = true ↔ True)) ∧
 (((el (honD (madeD l) (x : Int)) x_1).asInt ≤ (el (honD (madeD l) (x : Int)) ((x_1 : Int) - 1).toNat).asInt → False) → ∃ (x : Unit), True ∧ True ∧ True)) ∧ ((levelH (madeD l) (el (honD (madeD l) (x : Int)) ((x_1 : Int) -
 1).toNat).asInt = levelH (madeD l) (el (honD (madeD l) (x : Int)) x_1).asInt → False) → ∃ (x : Unit), True ∧ True ∧ True)) ∧ (levelH (madeD l) (el (honD (madeD l) (x : Int)) x_1).asInt < levelH (madeD l) (el (honD (madeD
 l) (x : Int)) ((x_1 : Int) - 1).toNat).asInt → (false = true ↔ True))) ∧ ((0 < (x_1 : Int) → False) → ∃ (x : Unit), True ∧ True ∧ True)) ∧ ∀ (x_2 : Unit), True → (((levelH (madeD l) (el (honD (madeD l) (x : Int))
 x_1).asInt = 0 → False) → ∃ (x_3 : Unit), True ∧ ((levelH (madeD l) (el (honD (madeD l) (x : Int)) x_1).asInt = seatsZ (tName (el (madeD l) x)) (tShape (el (madeD l) x)) (tA (el (madeD l) x)) (tB (el (madeD l) x)) (tOpen
 (el (madeD l) x)) (tX (el (madeD l) x)) (tY (el (madeD l) x)) ↔ endP (levelH (madeD l) (el (honD (madeD l) (x : Int)) x_1).asInt) (seatsZ (tName (el (madeD l) x)) (tShape (el (madeD l) x)) (tA (el (madeD l) x)) (tB (el
 (madeD l) x)) (tOpen (el (madeD l) x)) (tX (el (madeD l) x)) (tY (el (madeD l) x)))) ∧ True) ∧ True) ∧ (levelH (madeD l) (el (honD (madeD l) (x : Int)) x_1).asInt = 0 → ∃ (x_3 : Unit), True ∧ ((true = true ↔ endP (levelH
 (madeD l) (el (honD (madeD l) (x : Int)) x_1).asInt) (seatsZ (tName (el (madeD l) x)) (tShape (el (madeD l) x)) (tA (el (madeD l) x)) (tB (el (madeD l) x)) (tOpen (el (madeD l) x)) (tX (el (madeD l) x)) (tY (el (madeD l)
 x)))) ∧ True) ∧ True)) ∧ ∀ (x_3 : Unit), True → (smallD (madeD l) ∧ i64P (el (honD (madeD l) (x : Int)) x_1).asInt) ∧ (∃ (x_4 : Nat), x_4.le (nbD (madeD l) (el (honD (madeD l) (x : Int)) x_1).asInt).len ∧ (0 = (x_4 :
 Int) ∧ (endP (levelH (madeD l) (el (honD (madeD l) (x : Int)) x_1).asInt) (seatsZ (tName (el (madeD l) x)) (tShape (el (madeD l) x)) (tA (el (madeD l) x)) (tB (el (madeD l) x)) (tOpen (el (madeD l) x)) (tX (el (madeD l)
 x)) (tY (el (madeD l) x))) ↔ downP (madeD l) (nbD (madeD l) (el (honD (madeD l) (x : Int)) x_1).asInt) (levelH (madeD l) (el (honD (madeD l) (x : Int)) x_1).asInt) (seatsZ (tName (el (madeD l) x)) (tShape (el (madeD l)
 x)) (tA (el (madeD l) x)) (tB (el (madeD l) x)) (tOpen (el (madeD l) x)) (tX (el (madeD l) x)) (tY (el (madeD l) x))) x_4) ∧ True) ∧ True) ∧ ∀ (x_4 : Nat), x_4.le (nbD (madeD l) (el (honD (madeD l) (x : Int))
 x_1).asInt).len → (nbD (madeD l) (el (honD (madeD l) (x : Int)) x_1).asInt).len - x_4 < LIM ∧ ((x_4 : Int) < (↑(nbD (madeD l) (el (honD (madeD l) (x : Int)) x_1).asInt).len : Int) → 0 ≤ (x_4 : Int) ∧ (x_4 : Int) < (↑(nbD
 (madeD l) (el (honD (madeD l) (x : Int)) x_1).asInt).len : Int) ∧ (smallD (madeD l) ∧ i64P (el (nbD (madeD l) (el (honD (madeD l) (x : Int)) x_1).asInt) x_4).asInt) ∧ ((-9223372036854775808) ≤ levelH (madeD l) (el (nbD
 (madeD l) (el (honD (madeD l) (x : Int)) x_1).asInt) x_4).asInt - levelH (madeD l) (el (honD (madeD l) (x : Int)) x_1).asInt ∧ levelH (madeD l) (el (nbD (madeD l) (el (honD (madeD l) (x : Int)) x_1).asInt) x_4).asInt -
 levelH (madeD l) (el (honD (madeD l) (x : Int)) x_1).asInt < 9223372036854775808) ∧ ((levelH (madeD l) (el (nbD (madeD l) (el (honD (madeD l) (x : Int)) x_1).asInt) x_4).asInt - levelH (madeD l) (el (honD (madeD l) (x :
 Int)) x_1).asInt < (-1) → False) → (1 < levelH (madeD l) (el (nbD (madeD l) (el (honD (madeD l) (x : Int)) x_1).asInt) x_4).asInt - levelH (madeD l) (el (honD (madeD l) (x : Int)) x_1).asInt → (false = true ↔ True)) ∧
 ((1 < levelH (madeD l) (el (nbD (madeD l) (el (honD (madeD l) (x : Int)) x_1).asInt) x_4).asInt - levelH (madeD l) (el (honD (madeD l) (x : Int)) x_1).asInt → False) → ((downP (madeD l) (nbD (madeD l) (el (honD (madeD l)
 (x : Int)) x_1).asInt) (levelH (madeD l) (el (honD (madeD l) (x : Int)) x_1).asInt) (seatsZ (tName (el (madeD l) x)) (tShape (el (madeD l) x)) (tA (el (madeD l) x)) (tB (el (madeD l) x)) (tOpen (el (madeD l) x)) (tX (el
 (madeD l) x)) (tY (el (madeD l) x))) x_4 → False) → ((-9223372036854775808) ≤ (x_4 : Int) + 1 ∧ (x_4 : Int) + 1 < 9223372036854775808) ∧ ∃ (y : Nat), y.le (nbD (madeD l) (el (honD (madeD l) (x : Int)) x_1).asInt).len ∧
 (nbD (madeD l) (el (honD (madeD l) (x : Int)) x_1).asInt).len - y < (nbD (madeD l) (el (honD (madeD l) (x : Int)) x_1).asInt).len - x_4 ∧ ((x_4 : Int) + 1 = (y : Int) ∧ (levelH (madeD l) (el (nbD (madeD l) (el (honD
 (madeD l) (x : Int)) x_1).asInt) x_4).asInt - levelH (madeD l) (el (honD (madeD l) (x : Int)) x_1).asInt = (-1) ↔ downP (madeD l) (nbD (madeD l) (el (honD (madeD l) (x : Int)) x_1).asInt) (levelH (madeD l) (el (honD
 (madeD l) (x : Int)) x_1).asInt) (seatsZ (tName (el (madeD l) x)) (tShape (el (madeD l) x)) (tA (el (madeD l) x)) (tB (el (madeD l) x)) (tOpen (el (madeD l) x)) (tX (el (madeD l) x)) (tY (el (madeD l) x))) y) ∧ True) ∧
 True) ∧ (downP (madeD l) (nbD (madeD l) (el (honD (madeD l) (x : Int)) x_1).asInt) (levelH (madeD l) (el (honD (madeD l) (x : Int)) x_1).asInt) (seatsZ (tName (el (madeD l) x)) (tShape (el (madeD l) x)) (tA (el (madeD l)
 x)) (tB (el (madeD l) x)) (tOpen (el (madeD l) x)) (tX (el (madeD l) x)) (tY (el (madeD l) x))) x_4 → ((-9223372036854775808) ≤ (x_4 : Int) + 1 ∧ (x_4 : Int) + 1 < 9223372036854775808) ∧ ∃ (y : Nat), y.le (nbD (madeD l)
 (el (honD (madeD l) (x : Int)) x_1).asInt).len ∧ (nbD (madeD l) (el (honD (madeD l) (x : Int)) x_1).asInt).len - y < (nbD (madeD l) (el (honD (madeD l) (x : Int)) x_1).asInt).len - x_4 ∧ ((x_4 : Int) + 1 = (y : Int) ∧
 (true = true ↔ downP (madeD l) (nbD (madeD l) (el (honD (madeD l) (x : Int)) x_1).asInt) (levelH (madeD l) (el (honD (madeD l) (x : Int)) x_1).asInt) (seatsZ (tName (el (madeD l) x)) (tShape (el (madeD l) x)) (tA (el
 (madeD l) x)) (tB (el (madeD l) x)) (tOpen (el (madeD l) x)) (tX (el (madeD l) x)) (tY (el (madeD l) x))) y) ∧ True) ∧ True))) ∧ (levelH (madeD l) (el (nbD (madeD l) (el (honD (madeD l) (x : Int)) x_1).asInt) x_4).asInt
 - levelH (madeD l) (el (honD (madeD l) (x : Int)) x_1).asInt < (-1) → (false = true ↔ True))) ∧ (((x_4 : Int) < (↑(nbD (madeD l) (el (honD (madeD l) (x : Int)) x_1).asInt).len : Int) → False) → (0 : Int) ≤ 0 ∧ 0 <
 (↑(honD (madeD l) (x : Int)).len : Int) ∧ (smallD (madeD l) ∧ i64P (el (honD (madeD l) (x : Int)) (Int.toNat 0)).asInt ∧ i64P (el (honD (madeD l) (x : Int)) x_1).asInt) ∧ (((downP (madeD l) (nbD (madeD l) (el (honD
 (madeD l) (x : Int)) x_1).asInt) (levelH (madeD l) (el (honD (madeD l) (x : Int)) x_1).asInt) (seatsZ (tName (el (madeD l) x)) (tShape (el (madeD l) x)) (tA (el (madeD l) x)) (tB (el (madeD l) x)) (tOpen (el (madeD l)
 x)) (tX (el (madeD l) x)) (tY (el (madeD l) x))) x_4 → False) → False) → (((distP (madeD l) (el (honD (madeD l) (x : Int)) (Int.toNat 0)).asInt (el (honD (madeD l) (x : Int)) x_1).asInt ↔ levelH (madeD l) (el (honD
 (madeD l) (x : Int)) x_1).asInt < seatsZ (tName (el (madeD l) x)) (tShape (el (madeD l) x)) (tA (el (madeD l) x)) (tB (el (madeD l) x)) (tOpen (el (madeD l) x)) (tX (el (madeD l) x)) (tY (el (madeD l) x))) → False) →
 (false = true ↔ True)) ∧ ((((distP (madeD l) (el (honD (madeD l) (x : Int)) (Int.toNat 0)).asInt (el (honD (madeD l) (x : Int)) x_1).asInt ↔ levelH (madeD l) (el (honD (madeD l) (x : Int)) x_1).asInt < seatsZ (tName (el
 (madeD l) x)) (tShape (el (madeD l) x)) (tA (el (madeD l) x)) (tB (el (madeD l) x)) (tOpen (el (madeD l) x)) (tX (el (madeD l) x)) (tY (el (madeD l) x))) → False) → False) → ((-9223372036854775808) ≤ (x_1 : Int) + 1 ∧
 (x_1 : Int) + 1 < 9223372036854775808) ∧ ∃ (y : Nat), y.le (honD (madeD l) (x : Int)).len ∧ (honD (madeD l) (x : Int)).len - y < (honD (madeD l) (x : Int)).len - x_1 ∧ ((x_1 : Int) + 1 = (y : Int) ∧ True) ∧ True)) ∧
 ((downP (madeD l) (nbD (madeD l) (el (honD (madeD l) (x : Int)) x_1).asInt) (levelH (madeD l) (el (honD (madeD l) (x : Int)) x_1).asInt) (seatsZ (tName (el (madeD l) x)) (tShape (el (madeD l) x)) (tA (el (madeD l) x))
 (tB (el (madeD l) x)) (tOpen (el (madeD l) x)) (tX (el (madeD l) x)) (tY (el (madeD l) x))) x_4 → False) → (false = true ↔ True))))) ∧ (((levelH (madeD l) (el (honD (madeD l) (x : Int)) x_1).asInt = 0 ↔ (x_1 : Int) = 0)
 → False) → (false = true ↔ True))) ∧ (sumZ (madeD l) x + seatsZ (tName (el (madeD l) x)) (tShape (el (madeD l) x)) (tA (el (madeD l) x)) (tB (el (madeD l) x)) (tOpen (el (madeD l) x)) (tX (el (madeD l) x)) (tY (el (madeD
 l) x)) ≤ (el (honD (madeD l) (x : Int)) x_1).asInt → (false = true ↔ True))) ∧ ((el (honD (madeD l) (x : Int)) x_1).asInt < sumZ (madeD l) x → (false = true ↔ True))) ∧ (((x_1 : Int) < (↑(honD (madeD l) (x : Int)).len :
 Int) → False) → ((-9223372036854775808) ≤ sumZ (madeD l) x + seatsZ (tName (el (madeD l) x)) (tShape (el (madeD l) x)) (tA (el (madeD l) x)) (tB (el (madeD l) x)) (tOpen (el (madeD l) x)) (tX (el (madeD l) x)) (tY (el
 (madeD l) x)) ∧ sumZ (madeD l) x + seatsZ (tName (el (madeD l) x)) (tShape (el (madeD l) x)) (tA (el (madeD l) x)) (tB (el (madeD l) x)) (tOpen (el (madeD l) x)) (tX (el (madeD l) x)) (tY (el (madeD l) x)) <
 9223372036854775808) ∧ ((-9223372036854775808) ≤ (x : Int) + 1 ∧ (x : Int) + 1 < 9223372036854775808) ∧ ∃ (y : Nat), y.le (madeD l).len ∧ (madeD l).len - y < (madeD l).len - x ∧ ((x : Int) + 1 = (y : Int) ∧ sumZ (madeD
 l) x + seatsZ (tName (el (madeD l) x)) (tShape (el (madeD l) x)) (tA (el (madeD l) x)) (tB (el (madeD l) x)) (tOpen (el (madeD l) x)) (tX (el (madeD l) x)) (tY (el (madeD l) x)) = sumZ (madeD l) y ∧ True) ∧ True))) ∧
 (((↑(honD (madeD l) (x : Int)).len : Int) = seatsZ (tName (el (madeD l) x)) (tShape (el (madeD l) x)) (tA (el (madeD l) x)) (tB (el (madeD l) x)) (tOpen (el (madeD l) x)) (tX (el (madeD l) x)) (tY (el (madeD l) x)) →
 False) → (false = true ↔ True))) ∧ (seatsZ (tName (el (madeD l) x)) (tShape (el (madeD l) x)) (tA (el (madeD l) x)) (tB (el (madeD l) x)) (tOpen (el (madeD l) x)) (tX (el (madeD l) x)) (tY (el (madeD l) x)) < 1 → (false
 = true ↔ True))) ∧ (((x : Int) < (↑(madeD l).len : Int) → False) → smallD (madeD l) ∧ (countZ (madeD l) = sumZ (madeD l) x → (true = true ↔ True)) ∧ ((countZ (madeD l) = sumZ (madeD l) x → False) → (false = true ↔
 True)))) := by intros; kernel_rfl
section
variable {d : D} {F : Int}
theorem hoP_mem {v y : Nat} {u : D} (h : u ∈ hoP d F v y) : ∃ k : Nat, k < y ∧ lvN d k = v ∧ u = .int (F + k) := by
  unfold hoP at h
  obtain ⟨k, hk, rfl⟩ := List.mem_map.1 h
  exact ⟨k, List.mem_range.1 (List.mem_filter.1 hk).1, by simpa using (List.mem_filter.1 hk).2, rfl⟩
theorem hoL_mem2 : ∀ {x : Nat} {u : D}, u ∈ hoL d F x → ∃ k : Nat, k < dN d ∧ 0 ≤ lvN d k ∧ lvN d k < x ∧ u = .int (F + k)
  | 0, u, h => by cases h
  | x + 1, u, h => by
    rcases List.mem_append.1 (show u ∈ hoL d F x ++ hoP d F x (dN d) from h) with g | g
    · obtain ⟨k, h1, h2, h3, h4⟩ := hoL_mem2 g
      exact ⟨k, h1, h2, by omega, h4⟩
    · obtain ⟨k, h1, h2, h3⟩ := hoP_mem g
      exact ⟨k, h1, by omega, by omega, h3⟩
structure befP (d : D) (F : Int) (u w : D) : Prop where
  out : ∃ k m : Nat, u = .int (F + k) ∧ w = .int (F + m) ∧ (lvN d k < lvN d m ∨ (lvN d k = lvN d m ∧ k < m))
theorem hoL_sorted : ∀ x, (hoL d F x).Pairwise (befP d F)
  | 0 => List.Pairwise.nil
  | x + 1 => by
    show (hoL d F x ++ hoP d F x (dN d)).Pairwise (befP d F)
    rw [List.pairwise_append]
    refine ⟨hoL_sorted x, ?_, fun u hu w hw => ?_⟩
    · unfold hoP
      rw [List.pairwise_map]
      have h1 : ((List.range (dN d)).filter fun k => decide (lvN d k = (x : Int))).Pairwise fun a b => a < b := List.Pairwise.filter _ List.pairwise_lt_range
      have h2 := List.Pairwise.and_mem.1 h1
      refine h2.imp fun {a b} ⟨ha, hb, hab⟩ => ?_
      have e1 : lvN d a = x := by simpa using (List.mem_filter.1 ha).2
      have e2 : lvN d b = x := by simpa using (List.mem_filter.1 hb).2
      exact ⟨a, b, rfl, rfl, .inr ⟨by rw [e1, e2], hab⟩⟩
    · obtain ⟨k, h1, h2, h3, rfl⟩ := hoL_mem2 hu
      obtain ⟨m, h4, h5, rfl⟩ := hoP_mem hw
      exact ⟨k, m, rfl, rfl, .inl (by omega)⟩
theorem count_eq1 {z : Int} : ∀ {x : Nat}, 0 ≤ z → z < x → (List.range x).countP (fun (v : Nat) => decide (z = v)) = 1
  | 0, h0, h1 => by omega
  | x + 1, h0, h1 => by
    rw [List.range_succ, List.countP_append]
    by_cases h : z = (x : Int)
    · have hz : (List.range x).countP (fun (v : Nat) => decide (z = v)) = 0 := by
        rw [List.countP_eq_zero]
        intro v hv hp
        have := List.mem_range.1 hv
        have : z = v := by simpa using hp
        omega
      rw [hz]; simp [h]
    · have := count_eq1 (z := z) (x := x) h0 (by omega)
      simp [h]; exact this
theorem hoL_count (hr : ∀ k, k < dN d → 0 ≤ lvN d k ∧ lvN d k ≤ dN d) : (hoL d F (dN d + 1)).length = dN d := by
  rw [hoP_sum, sum_swap (fun v k => decide (lvN d k = (v : Int)))]
  have : ∀ l : List Nat, (∀ k ∈ l, k < dN d) → (l.map fun k => (List.range (dN d + 1)).countP fun (v : Nat) => decide (lvN d k = (v : Int))).sum = l.length := by
    intro l
    induction l with
    | nil => intro _; rfl
    | cons k l ih =>
      intro hl
      rw [List.map_cons, List.sum_cons, List.length_cons, ih fun m hm => hl m (List.mem_cons_of_mem _ hm)]
      have := hr k (hl k List.mem_cons_self)
      rw [count_eq1 this.1 (by omega)]; omega
  have h := this (List.range (dN d)) fun k hk => List.mem_range.1 hk
  rw [List.length_range] at h; exact h
theorem hoL_in {k : Nat} (hk : k < dN d) (h0 : 0 ≤ lvN d k) : ∀ {x : Nat}, lvN d k < x → D.int (F + k) ∈ hoL d F x
  | 0, h => by omega
  | x + 1, h => by
    refine List.mem_append.2 ?_
    by_cases g : lvN d k < x
    · exact .inl (hoL_in hk h0 g)
    · exact .inr (List.mem_map.2 ⟨k, List.mem_filter.2 ⟨List.mem_range.2 hk, by simp; omega⟩, rfl⟩)
end
section
variable {d : D} {s : Nat}
theorem lv_zero {k : Nat} (hk : k < dN d) (hs : (honZ (tShape d) (tA d) (tB d)).toNat = s) (hsn : s < dN d) : lvN d k = 0 ↔ k = s := by
  rw [lv_val hk, hs]
  have := dz_nil (sh := tShape d) (a := tA d) (b := tB d) (n := dN d) (x := s) (y := k)
  constructor
  · intro h
    split at h
    · omega
    · exact (this.1 h).symm
  · intro h
    have h2 := this.2 h.symm
    rw [if_neg (by omega)]; exact h2
theorem lv_near {k m : Nat} (hk : k < dN d) (hm : m < dN d) (hs : (honZ (tShape d) (tA d) (tB d)).toNat = s) (hn : nearN (tShape d) (tA d) (tB d) k m) : lvN d m - lvN d k ≤ 1 := by
  rw [lv_val hk, lv_val hm, hs]
  have g1 := distZ_ge (n := dN d) (near := nearN (tShape d) (tA d) (tB d)) (s := s) k
  by_cases h : distZ (dN d) (nearN (tShape d) (tA d) (tB d)) s k < 0
  · by_cases h2 : distZ (dN d) (nearN (tShape d) (tA d) (tB d)) s m < 0
    · rw [if_pos h, if_pos h2]; omega
    · have e : distZ (dN d) (nearN (tShape d) (tA d) (tB d)) s m = ((distZ (dN d) (nearN (tShape d) (tA d) (tB d)) s m).toNat : Int) := by omega
      have := distZ_next (d := (distZ (dN d) (nearN (tShape d) (tA d) (tB d)) s m).toNat) hm e (nN_symm hn)
      omega
  · have e : distZ (dN d) (nearN (tShape d) (tA d) (tB d)) s k = ((distZ (dN d) (nearN (tShape d) (tA d) (tB d)) s k).toNat : Int) := by omega
    have := distZ_next (d := (distZ (dN d) (nearN (tShape d) (tA d) (tB d)) s k).toNat) hk e hn
    rw [if_neg h, if_neg (by omega)]; omega
theorem lv_down {k : Nat} (hk : k < dN d) (hs : (honZ (tShape d) (tA d) (tB d)).toNat = s) (h0 : lvN d k ≠ 0) (hn : lvN d k ≠ dN d) : ∃ m, m < dN d ∧ nearN (tShape d) (tA d) (tB d) k m ∧ lvN d m - lvN d k = -1 := by
  rw [lv_val hk, hs] at h0 hn
  split at hn
  · exact absurd rfl hn
  · rename_i hz
    rw [if_neg hz] at h0
    obtain ⟨v, hv⟩ : ∃ v : Nat, distZ (dN d) (nearN (tShape d) (tA d) (tB d)) s k = ((v + 1 : Nat) : Int) := ⟨(distZ (dN d) (nearN (tShape d) (tA d) (tB d)) s k).toNat - 1, by omega⟩
    obtain ⟨m, hm, h1, h2⟩ := distZ_pred hv
    refine ⟨m, hm, nN_symm h2, ?_⟩
    rw [lv_val hm, lv_val hk, hs, if_neg (by omega), if_neg hz]
    omega
end
theorem el_listD (L : List D) (j : Nat) : el (listD L) j = nthD L j := by unfold el; rw [listD_as]
theorem s15 (l : D) (hc : codesP l) : symFun (ctxF hl1 hlAnn (fun _ _ => []) hlJoin) 4 15 [.dat 65 l] (.prop True) := by
  rw [vc15]
  have hok := made_ok hc
  have hsm := made_small hc
  have hlen := made_len l
  have htab : ∀ x, x < (madeD l).len → errT (el (madeD l) x) = 0 ∧ 1 ≤ sizeT' (el (madeD l) x) ∧ sizeT' (el (madeD l) x) ≤ 24 ∧ (tOpen (el (madeD l) x)).len ≤ 100 := fun x hx => by
    have hx' : x < min l.len 16 := by omega
    have hcode := hc.out x (by omega)
    have he := made_el l hx'
    have h1 := made_err (c := el l x) (i := x) hcode (by omega)
    have h2 := made_size hcode.out.1 hcode.out.2.1 hcode.out.2.2.1
    rw [he]
    exact ⟨h1.1, by rw [h1.2.1]; exact h2.2.1, by rw [h1.2.1]; exact h2.2.2, by omega⟩
  generalize hM : madeD l = M at *
  clear hM
  have h16 : M.len ≤ 16 := by omega
  have hLIM : ∀ m : Nat, m ≤ 64 → m < LIM := fun m g => by unfold LIM; omega
  refine ⟨hc, ⟨0, Nat.zero_le _, ⟨rfl, rfl, trivial⟩, trivial⟩, fun x hx => ?_⟩
  have hx : x ≤ M.len := hx
  have hF := sum_small hsm.out.1 x (by omega)
  refine ⟨hLIM _ (by omega), fun hlx => ?_, fun hgx => ?_⟩
  rotate_left
  · have hgx : ¬ (x : Int) < (M.len : Int) := hgx
    have : x = M.len := by omega
    subst this
    have e : countZ M = sumZ M M.len := by unfold countZ; rw [if_pos hok]
    exact ⟨hsm, fun _ => ⟨fun _ => trivial, fun _ => rfl⟩, fun g => absurd e g⟩
  have hxM : x < M.len := by omega
  obtain ⟨he, hs1, hs24, hop⟩ := htab x hxM
  have hN : seatsZ (tName (el M x)) (tShape (el M x)) (tA (el M x)) (tB (el M x)) (tOpen (el M x)) (tX (el M x)) (tY (el M x)) = (dN (el M x) : Int) := by
    unfold seatsZ
    show (if errT (el M x) = 0 then sizeT' (el M x) else 0) = _
    rw [if_pos he]; unfold dN; omega
  have hH : honD M x = .list (hoL (el M x) (sumZ M x) (dN (el M x) + 1)) := by
    unfold honD
    rw [if_pos ⟨by omega, hlx, hok⟩]
    simp only [Int.toNat_natCast]
  have hnext : sumZ M (x + 1) = sumZ M x + (dN (el M x) : Int) := by
    show sumZ M x + sizeT' (el M x) = _; unfold dN; omega
  -- where the seats of this table are
  have hw : ∀ {k : Nat}, k < dN (el M x) → whereP M (sumZ M x + k) ∧ whereT M (sumZ M x + k) = x ∧ whereK M (sumZ M x + k) = k := fun {k} hk => by
    have hk' : (k : Int) < sizeT' (el M x) := by unfold dN at hk; omega
    have ho : whereO M (sumZ M x + k) = some ((x : Int), (k : Int)) := by
      unfold whereO
      rw [if_neg (by rintro (g | g); · omega
                     · exact g hok)]
      have := where_at M (j := x) (k := (k : Int)) (by omega) hk' M.len 0 (by omega) (by omega)
      rw [show sumZ M x - sumZ M 0 + (k : Int) = sumZ M x + k by have : sumZ M 0 = 0 := rfl; omega] at this
      exact this
    refine ⟨⟨by rw [ho]; simp⟩, ?_, ?_⟩
    · unfold whereT; rw [ho]; rfl
    · unfold whereK; rw [ho]; rfl
  have htb : ∀ {k : Nat}, k < dN (el M x) → tabAt M (sumZ M x + k) = el M x := fun hk => by unfold tabAt; rw [(hw hk).2.1, Int.toNat_natCast]
  have hlv : ∀ {k : Nat}, k < dN (el M x) → levelH M (sumZ M x + k) = lvN (el M x) k := fun hk => by
    unfold levelH lvN; rw [if_pos (hw hk).1, htb hk, (hw hk).2.2, Int.toNat_natCast]
  have hnb : ∀ {k : Nat}, k < dN (el M x) → nbD M (sumZ M x + k) = listD (nbX (el M x) k (sumZ M x) (dN (el M x))) := fun {k} hk => by
    unfold nbD nearL; rw [if_pos (hw hk).1, htb hk, (hw hk).2.2]
    rw [show sumZ M x + (k : Int) - (k : Int) = sumZ M x by omega]; rfl
  have hin := hon_in (show sizeZ (tShape (el M x)) (tA (el M x)) (tB (el M x)) ≠ 0 by show sizeT' (el M x) ≠ 0; omega)
  obtain ⟨s, hs⟩ : ∃ s, (honZ (tShape (el M x)) (tA (el M x)) (tB (el M x))).toNat = s := ⟨_, rfl⟩
  have hsn : s < dN (el M x) := by have := hin.out.2; unfold dN; show s < (sizeZ _ _ _).toNat; omega
  have hrange : ∀ k, k < dN (el M x) → 0 ≤ lvN (el M x) k ∧ lvN (el M x) k ≤ dN (el M x) := fun k hk => lv_range hk (by rw [hs]; exact hsn)
  have hdist : ∀ {k : Nat}, k < dN (el M x) → (distP M (sumZ M x + s) (sumZ M x + k) ↔ lvN (el M x) k < (dN (el M x) : Int)) := fun {k} hk => by
    have e : distD M (sumZ M x + s) (sumZ M x + k) = distZ (dN (el M x)) (nearN (tShape (el M x)) (tA (el M x)) (tB (el M x))) s k := by
      unfold distD rowT
      rw [htb hsn, (hw hsn).2.2, (hw hk).2.2, Int.toNat_natCast]
      show (nthD (distRow (dN (el M x)) _ _ _ _) k).asInt = _
      unfold distRow; rw [nth_rowN _ hk, Int.toNat_natCast]
    have hz : distP M (sumZ M x + s) (sumZ M x + k) ↔ 0 ≤ distZ (dN (el M x)) (nearN (tShape (el M x)) (tA (el M x)) (tB (el M x))) s k := by
      constructor
      · intro g; have := g.out.2; rw [e] at this; exact this
      · intro g; exact ⟨⟨⟨(hw hsn).1, (hw hk).1, by rw [(hw hsn).2.1, (hw hk).2.1]⟩⟩, by rw [e]; exact g⟩
    rw [hz, lv_val hk, hs]
    have b := distZ_lt (near := nearN (tShape (el M x)) (tA (el M x)) (tB (el M x))) hsn hk
    split <;> omega
  have hlz := fun {k : Nat} (hk : k < dN (el M x)) => lv_zero (d := el M x) hk hs hsn
  have hln := fun {k m : Nat} (hk : k < dN (el M x)) (hm : m < dN (el M x)) => lv_near (d := el M x) hk hm hs
  have hld := fun {k : Nat} (hk : k < dN (el M x)) => lv_down (d := el M x) hk hs
  have hnbX : ∀ {k j : Nat}, k < dN (el M x) → j < (listD (nbX (el M x) k (sumZ M x) (dN (el M x)))).len → ∃ m : Nat, m < dN (el M x) ∧ nearN (tShape (el M x)) (tA (el M x)) (tB (el M x)) k m ∧ (el (listD (nbX (el M x) k (sumZ M x) (dN (el M x)))) j).asInt = sumZ M x + m := fun {k j} hk hj => by
    rw [listD_len] at hj
    have hm : nthD (nbX (el M x) k (sumZ M x) (dN (el M x))) j ∈ nbX (el M x) k (sumZ M x) (dN (el M x)) := by rw [nthD_get _ _ hj]; exact List.getElem_mem _
    have e : el (listD (nbX (el M x) k (sumZ M x) (dN (el M x)))) j = nthD (nbX (el M x) k (sumZ M x) (dN (el M x))) j := by unfold el; rw [listD_as]
    rw [e]
    generalize nthD (nbX (el M x) k (sumZ M x) (dN (el M x))) j = u at *
    unfold nbX nbL at hm
    obtain ⟨m, hm', rfl⟩ := List.mem_map.1 hm
    exact ⟨m, List.mem_range.1 (List.mem_filter.1 hm').1, by have q := (List.mem_filter.1 hm').2; simp only [decide_eq_true_eq] at q; exact q, rfl⟩
  have hnbI : ∀ {k m : Nat}, m < dN (el M x) → nearN (tShape (el M x)) (tA (el M x)) (tB (el M x)) k m → ∃ j, j < (listD (nbX (el M x) k (sumZ M x) (dN (el M x)))).len ∧ (el (listD (nbX (el M x) k (sumZ M x) (dN (el M x)))) j).asInt = sumZ M x + m := fun {k m} hm hn => by
    have hmem : D.int (sumZ M x + m) ∈ nbX (el M x) k (sumZ M x) (dN (el M x)) := by
      unfold nbX nbL
      exact List.mem_map.2 ⟨m, List.mem_filter.2 ⟨List.mem_range.2 hm, by simp only [decide_eq_true_eq]; exact hn⟩, rfl⟩
    obtain ⟨j, hj, hg⟩ := List.getElem_of_mem hmem
    refine ⟨j, by rw [listD_len]; exact hj, ?_⟩
    rw [el_listD, nthD_get _ _ hj, hg]; rfl
  have hnbl : ∀ {k : Nat}, (listD (nbX (el M x) k (sumZ M x) (dN (el M x)))).len ≤ 24 := fun {k} => by
    rw [listD_len]; have := nbX_len (el M x) k (sumZ M x) (dN (el M x)); unfold dN at *; omega
  have hcnt := hoL_count (d := el M x) (F := sumZ M x) hrange
  have hsort := hoL_sorted (d := el M x) (F := sumZ M x) (dN (el M x) + 1)
  have hall : ∀ {k : Nat}, k < dN (el M x) → D.int (sumZ M x + k) ∈ hoL (el M x) (sumZ M x) (dN (el M x) + 1) := fun hk => hoL_in hk (hrange _ hk).1 (by have := (hrange _ hk).2; omega)
  have hmem2 : ∀ {u : D}, u ∈ hoL (el M x) (sumZ M x) (dN (el M x) + 1) → ∃ k : Nat, k < dN (el M x) ∧ u = .int (sumZ M x + k) := fun hu => by
    obtain ⟨k, h1, _, _, h4⟩ := hoL_mem2 hu; exact ⟨k, h1, h4⟩
  have hfz : firstZ M x = sumZ M x := by unfold firstZ; rw [if_pos ⟨⟨by omega, hlx⟩, hok⟩, Int.toNat_natCast]
  rw [hN, hH, hfz]
  have hn24 : dN (el M x) ≤ 24 := by unfold dN; omega
  have hn1 : 1 ≤ dN (el M x) := by unfold dN; omega
  generalize hoL (el M x) (sumZ M x) (dN (el M x) + 1) = O at *
  -- the elements of the order
  have elt : ∀ {i : Nat}, i < dN (el M x) → ∃ k : Nat, k < dN (el M x) ∧ el (.list O) i = .int (sumZ M x + k) := fun {i} hi => by
    have hi' : i < O.length := by omega
    obtain ⟨k, h1, h2⟩ := hmem2 (show nthD O i ∈ O by rw [nthD_get _ _ hi']; exact List.getElem_mem _)
    exact ⟨k, h1, h2⟩
  have bef : ∀ {i j k m : Nat}, i < j → j < dN (el M x) → el (.list O) i = .int (sumZ M x + k) → el (.list O) j = .int (sumZ M x + m) → lvN (el M x) k < lvN (el M x) m ∨ (lvN (el M x) k = lvN (el M x) m ∧ k < m) := fun {i j k m} hij hj e1 e2 => by
    have g := List.pairwise_iff_getElem.1 hsort i j (by omega) (by omega) hij
    have e1 : nthD O i = .int (sumZ M x + k) := e1
    have e2 : nthD O j = .int (sumZ M x + m) := e2
    rw [nthD_get _ _ (by omega)] at e1 e2
    rw [e1, e2] at g
    obtain ⟨k', m', q1, q2, q3⟩ := g.out
    have q1 : sumZ M x + (k : Int) = sumZ M x + k' := by injection q1
    have q2 : sumZ M x + (m : Int) = sumZ M x + m' := by injection q2
    have : k = k' := by omega
    subst this
    have : m = m' := by omega
    subst this
    exact q3
  have first : el (.list O) 0 = .int (sumZ M x + s) := by
    obtain ⟨j, hj, hg⟩ := List.getElem_of_mem (hall hsn)
    have ej : el (.list O) j = .int (sumZ M x + s) := by show nthD O j = _; rw [nthD_get _ _ hj]; exact hg
    by_cases h0 : j = 0
    · subst h0; exact ej
    · obtain ⟨k, hk, ek⟩ := elt (i := 0) (by omega)
      have q := bef (i := 0) (j := j) (by omega) (by omega) ek ej
      have z1 := (hlz hsn).2 rfl
      have z2 := (hrange k hk).1
      rcases q with q | q
      · omega
      · have := (hlz hk).1 (by omega)
        omega
  have hOl : (D.list O).len = dN (el M x) := hcnt
  refine ⟨by omega, hlx, hop, hsm, fun _ => ⟨fun _ => ⟨hsm, fun g => absurd rfl g, fun _ => ⟨⟨0, Nat.zero_le _, ⟨rfl, trivial⟩, trivial⟩, fun i hi => ?_⟩⟩, fun g => absurd (by omega) g⟩, fun g => by omega⟩
  have hi : i ≤ (D.list O).len := hi
  refine ⟨hLIM _ (by omega), fun hli => ?_, fun hgi => ?_⟩
  rotate_left
  · exact ⟨by omega, by omega, x + 1, show x + 1 ≤ M.len by omega, by omega, ⟨rfl, hnext.symm, trivial⟩, trivial⟩
  obtain ⟨k, hk, ek⟩ := elt (i := i) (by omega)
  have eki : (el (.list O) i).asInt = sumZ M x + k := by rw [ek]; rfl
  rw [eki, hlv hk, hnb hk]
  have hr := hrange k hk
  have i64 : ∀ {m : Nat}, m < dN (el M x) → i64P (sumZ M x + m) := fun hm => ⟨by omega⟩
  have efst : (el (.list O) (Int.toNat 0)).asInt = sumZ M x + s := by rw [show Int.toNat 0 = 0 from rfl, first]; rfl
  have hz : lvN (el M x) k = 0 ↔ (i : Int) = 0 := by
    rw [hlz hk]
    constructor
    · intro g
      subst g
      by_cases h0 : i = 0
      · omega
      · have q := bef (i := 0) (j := i) (by omega) (by omega) first ek
        omega
    · intro g
      have : i = 0 := by omega
      subst this
      rw [first] at ek
      have : sumZ M x + (s : Int) = sumZ M x + k := by injection ek
      omega
  refine ⟨by omega, hli, ⟨hsm, i64 hk⟩, fun _ => ⟨by omega, fun _ => ⟨fun _ => ⟨fun g => by omega, fun _ => ⟨⟨fun hi0 => ?_, fun _ => ⟨(), trivial, trivial, trivial⟩⟩, fun _ _ => ⟨⟨fun g0 => ⟨(), trivial, ⟨⟨fun g => ⟨.inr g⟩, fun g => g.out.resolve_left g0⟩, trivial⟩, trivial⟩, fun g0 => ⟨(), trivial, ⟨⟨fun _ => ⟨.inl g0⟩, fun _ => rfl⟩, trivial⟩, trivial⟩⟩, fun _ _ => ?_⟩⟩⟩, fun g => absurd hz g⟩, fun g => by omega⟩, fun g => by omega⟩
  · -- the one before
    obtain ⟨m, hm, em⟩ := elt (i := i - 1) (by omega)
    have et : ((i : Int) - 1).toNat = i - 1 := by omega
    have emi : (el (.list O) ((i : Int) - 1).toNat).asInt = sumZ M x + m := by rw [et, em]; rfl
    rw [emi, hlv hm]
    have q := bef (i := i - 1) (j := i) (by omega) (by omega) em ek
    exact ⟨by omega, by omega, by omega, ⟨hsm, i64 hm⟩, fun _ => ⟨by omega, by omega, by omega, ⟨hsm, i64 hm⟩, fun _ => ⟨by omega, by omega, by omega, fun g => by omega, fun _ => ⟨(), trivial, trivial, trivial⟩⟩, fun _ => ⟨(), trivial, trivial, trivial⟩⟩, fun g => by omega⟩
  · have hnl := hnbl (k := k)
    refine ⟨⟨hsm, i64 hk⟩, ⟨0, Nat.zero_le _, ⟨rfl, ⟨fun g => ⟨g.out.imp id .inl⟩, fun g => ⟨g.out.imp id fun q => q.resolve_right fun ⟨j, hj, _⟩ => absurd hj (Nat.not_lt_zero _)⟩⟩, trivial⟩, trivial⟩, fun y hy => ?_⟩
    have hy : y ≤ (listD (nbX (el M x) k (sumZ M x) (dN (el M x)))).len := hy
    refine ⟨hLIM _ (by omega), fun hly => ?_, fun hgy => ?_⟩
    · obtain ⟨m, hm, hn, em⟩ := hnbX (k := k) (j := y) hk (by omega)
      rw [em, hlv hm]
      have a1 := hln hk hm hn
      have a2 := hln hm hk (nN_symm hn)
      have hrm := hrange m hm
      have stay : downP M (listD (nbX (el M x) k (sumZ M x) (dN (el M x)))) (lvN (el M x) k) (dN (el M x)) y → downP M (listD (nbX (el M x) k (sumZ M x) (dN (el M x)))) (lvN (el M x) k) (dN (el M x)) (y + 1) := fun g => ⟨g.out.imp id (Or.imp id fun ⟨j, hj, q⟩ => ⟨j, by omega, q⟩)⟩
      refine ⟨by omega, hly, ⟨hsm, i64 hm⟩, by omega, fun _ => ⟨fun g => by omega, fun _ => ⟨fun g => ⟨by omega, y + 1, show y + 1 ≤ (listD (nbX (el M x) k (sumZ M x) (dN (el M x)))).len by omega, by omega, ⟨rfl, ⟨fun q => ⟨.inr (.inr ⟨y, by omega, by rw [em, hlv hm]; exact q⟩)⟩, fun q => ?_⟩, trivial⟩, trivial⟩, fun g => ⟨by omega, y + 1, show y + 1 ≤ (listD (nbX (el M x) k (sumZ M x) (dN (el M x)))).len by omega, by omega, ⟨rfl, ⟨fun _ => stay g, fun _ => rfl⟩, trivial⟩, trivial⟩⟩⟩, fun g => by omega⟩
      rcases q.out with q | q | ⟨j, hj, q'⟩
      · exact absurd ⟨.inl q⟩ g
      · exact absurd ⟨.inr (.inl q)⟩ g
      · rcases Nat.lt_succ_iff_lt_or_eq.1 hj with e | e
        · exact absurd ⟨.inr (.inr ⟨j, e, q'⟩)⟩ g
        · subst e; rw [em, hlv hm] at q'; exact q'
    · have hgy : ¬ (y : Int) < ((listD (nbX (el M x) k (sumZ M x) (dN (el M x)))).len : Int) := hgy
      have hye : y = (listD (nbX (el M x) k (sumZ M x) (dN (el M x)))).len := by omega
      have hd : downP M (listD (nbX (el M x) k (sumZ M x) (dN (el M x)))) (lvN (el M x) k) (dN (el M x)) y := by
        by_cases g0 : lvN (el M x) k = 0
        · exact ⟨.inl g0⟩
        · by_cases g1 : lvN (el M x) k = dN (el M x)
          · exact ⟨.inr (.inl g1)⟩
          · obtain ⟨m, hm, hn, hv⟩ := hld hk g0 g1
            obtain ⟨j, hj, ej⟩ := hnbI (k := k) hm hn
            exact ⟨.inr (.inr ⟨j, by omega, by rw [ej, hlv hm]; exact hv⟩)⟩
      rw [efst]
      exact ⟨by omega, by omega, ⟨hsm, i64 hsn, i64 hk⟩, fun _ => ⟨fun g => absurd (hdist hk) g, fun _ => ⟨by omega, i + 1, show i + 1 ≤ (D.list O).len by omega, by omega, ⟨rfl, trivial⟩, trivial⟩⟩, fun g => absurd hd g⟩
end Go.Ev

end

section
open Go.Proofs
namespace Go.Ev
set_option maxRecDepth 100000
set_option maxHeartbeats 4000000
theorem vc101 : ∀ (a b : Int), symFun (ctxF seat5 onAnn (fun _ _ => []) fun _ _ => none) 4 (101 : FuncId) [V.int IntKind.i64 a, V.int IntKind.i64 b] (V.int IntKind.i64 (cmpZ a b)) = (((a = a → False) → ((b = b → False) →
 0 = cmpZ a b) ∧ (((b = b → False) → False) → (-1) = cmpZ a b)) ∧ (((a = a → False) → False) → ((b = b → False) → 1 = cmpZ a b) ∧ (((b = b → False) → False) → (a < b → (-1) = cmpZ a b) ∧ ((a < b → False) → (b < a → 1 =
 cmpZ a b) ∧ ((b < a → False) → 0 = cmpZ a b))))) := by intros; kernel_rfl
theorem vc112 : ∀ (l : D), symFun (ctxF seat5 onAnn (fun _ _ => []) fun _ _ => none) 4 (112 : FuncId) [V.dat (29 : TypeId) l] (V.int IntKind.i64 (orZ l)) = ((∃ (x : Nat), (x ≤ l.len ∧ zeroP l x) ∧ (0 = (x : Int) ∧ True)
 ∧ True) ∧ ∀ (x : Nat), x ≤ l.len ∧ zeroP l x → l.len - x < LIM ∧ ((x : Int) < (l.len : Int) → 0 ≤ (x : Int) ∧ (x : Int) < (l.len : Int) ∧ (((el l x).asInt = 0 → False) → (el l x).asInt = orZ l) ∧ ((((el l x).asInt = 0 →
 False) → False) → ((-9223372036854775808) ≤ (x : Int) + 1 ∧ (x : Int) + 1 < 9223372036854775808) ∧ ∃ (y : Nat), (y ≤ l.len ∧ zeroP l y) ∧ l.len - y < l.len - x ∧ ((x : Int) + 1 = (y : Int) ∧ True) ∧ True)) ∧ (((x : Int)
 < (l.len : Int) → False) → 0 = orZ l)) := by intros; kernel_rfl
theorem vc51 : ∀ (l : D) (t : Int), symFun (ctxF on1 onAnn (fun _ _ => []) fun _ _ => none) 5 (51 : FuncId) [V.dat (22 : TypeId) l, V.int IntKind.i64 t] (V.dat (29 : TypeId) (honD l t)) = ((0 ≤ t → (t < (l.len : Int) →
 smallD l ∧ ((okHall l → False) → D.nil = honD l t) ∧ (((okHall l → False) → False) → (0 ≤ t ∧ t ≤ (l.len : Int) ∧ seatedD l) ∧ 0 ≤ t ∧ t < (l.len : Int) ∧ (sizeT' (el l t.toNat) = 0 → False) ∧ 0 ≤ (↑(levelRow (tShape (el
 l t.toNat)) (tA (el l t.toNat)) (tB (el l t.toNat))).length : Int) ∧ (↑(levelRow (tShape (el l t.toNat)) (tA (el l t.toNat)) (tB (el l t.toNat))).length : Int) ≤ (↑(levelRow (tShape (el l t.toNat)) (tA (el l t.toNat))
 (tB (el l t.toNat))).length : Int) ∧ (↑(levelRow (tShape (el l t.toNat)) (tA (el l t.toNat)) (tB (el l t.toNat))).length : Int) ≤ 16777216 ∧ (ctxF on1 onAnn (fun _ _ => []) fun (x : FuncId) (x_1 : Nat) =>
 none).P.types[3].bytes * (levelRow (tShape (el l t.toNat)) (tA (el l t.toNat)) (tB (el l t.toNat))).length ≤ 281474976710656 ∧ (∃ (x : Nat), x.le (List.replicate (levelRow (tShape (el l t.toNat)) (tA (el l t.toNat)) (tB
 (el l t.toNat))).length (D.int 0)).length ∧ (0 = (x : Int) ∧ True) ∧ List.replicate (levelRow (tShape (el l t.toNat)) (tA (el l t.toNat)) (tB (el l t.toNat))).length (D.int 0) = rowH (sumZ l t.toNat) (List.replicate
 (levelRow (tShape (el l t.toNat)) (tA (el l t.toNat)) (tB (el l t.toNat))).length (D.int 0)).length x ∧ True) ∧ ∀ (x : Nat), x.le (List.replicate (levelRow (tShape (el l t.toNat)) (tA (el l t.toNat)) (tB (el l
 t.toNat))).length (D.int 0)).length → (List.replicate (levelRow (tShape (el l t.toNat)) (tA (el l t.toNat)) (tB (el l t.toNat))).length (D.int 0)).length - x < LIM ∧ ((x : Int) < (↑(levelRow (tShape (el l t.toNat)) (tA
 (el l t.toNat)) (tB (el l t.toNat))).length : Int) → ((-9223372036854775808) ≤ sumZ l t.toNat + (x : Int) ∧ sumZ l t.toNat + (x : Int) < 9223372036854775808) ∧ 0 ≤ (x : Int) ∧ (x : Int) < (↑(levelRow (tShape (el l
 t.toNat)) (tA (el l t.toNat)) (tB (el l t.toNat))).length : Int) ∧ x < (rowH (sumZ l t.toNat) (List.replicate (levelRow (tShape (el l t.toNat)) (tA (el l t.toNat)) (tB (el l t.toNat))).length (D.int 0)).length x).length
 ∧ ((-9223372036854775808) ≤ (x : Int) + 1 ∧ (x : Int) + 1 < 9223372036854775808) ∧ ∃ (y : Nat), y.le (List.replicate (levelRow (tShape (el l t.toNat)) (tA (el l t.toNat)) (tB (el l t.toNat))).length (D.int 0)).length ∧
 (List.replicate (levelRow (tShape (el l t.toNat)) (tA (el l t.toNat)) (tB (el l t.toNat))).length (D.int 0)).length - y < (List.replicate (levelRow (tShape (el l t.toNat)) (tA (el l t.toNat)) (tB (el l t.toNat))).length
 (D.int 0)).length - x ∧ ((x : Int) + 1 = (y : Int) ∧ True) ∧ (rowH (sumZ l t.toNat) (List.replicate (levelRow (tShape (el l t.toNat)) (tA (el l t.toNat)) (tB (el l t.toNat))).length (D.int 0)).length x).set x (D.int
 (sumZ l t.toNat + (x : Int))) = rowH (sumZ l t.toNat) (List.replicate (levelRow (tShape (el l t.toNat)) (tA (el l t.toNat)) (tB (el l t.toNat))).length (D.int 0)).length y ∧ True) ∧ (((x : Int) < (↑(levelRow (tShape (el
 l t.toNat)) (tA (el l t.toNat)) (tB (el l t.toNat))).length : Int) → False) → 0 < (levelRow (tShape (el l t.toNat)) (tA (el l t.toNat)) (tB (el l t.toNat))).length ∧ (levelRow (tShape (el l t.toNat)) (tA (el l t.toNat))
 (tB (el l t.toNat))).length ≤ 16777216 ∧ 0 + (levelRow (tShape (el l t.toNat)) (tA (el l t.toNat)) (tB (el l t.toNat))).length ≤ (rowH (sumZ l t.toNat) (List.replicate (levelRow (tShape (el l t.toNat)) (tA (el l
 t.toNat)) (tB (el l t.toNat))).length (D.int 0)).length x).length ∧ intL (List.take (levelRow (tShape (el l t.toNat)) (tA (el l t.toNat)) (tB (el l t.toNat))).length (rowH (sumZ l t.toNat) (List.replicate (levelRow
 (tShape (el l t.toNat)) (tA (el l t.toNat)) (tB (el l t.toNat))).length (D.int 0)).length x)) ∧ ∃ (ss : List Int), sortP (List.map D.asInt (List.take (levelRow (tShape (el l t.toNat)) (tA (el l t.toNat)) (tB (el l
 t.toNat))).length (rowH (sumZ l t.toNat) (List.replicate (levelRow (tShape (el l t.toNat)) (tA (el l t.toNat)) (tB (el l t.toNat))).length (D.int 0)).length x))) ss ∧ (∀ (x y : Int), List.Mem x ss → List.Mem y ss →
 ((-9223372036854775808) ≤ x - sumZ l t.toNat ∧ x - sumZ l t.toNat < 9223372036854775808) ∧ 0 ≤ x - sumZ l t.toNat ∧ x - sumZ l t.toNat < (↑(levelRow (tShape (el l t.toNat)) (tA (el l t.toNat)) (tB (el l t.toNat))).length
 : Int) ∧ ((-9223372036854775808) ≤ y - sumZ l t.toNat ∧ y - sumZ l t.toNat < 9223372036854775808) ∧ 0 ≤ y - sumZ l t.toNat ∧ y - sumZ l t.toNat < (↑(levelRow (tShape (el l t.toNat)) (tA (el l t.toNat)) (tB (el l
 t.toNat))).length : Int) ∧ True ∧ True ∧ 0 + 2 ≤ [D.int (cmpZ (nthD (levelRow (tShape (el l t.toNat)) (tA (el l t.toNat)) (tB (el l t.toNat))) (x - sumZ l t.toNat).toNat).asInt (nthD (levelRow (tShape (el l t.toNat)) (tA
 (el l t.toNat)) (tB (el l t.toNat))) (y - sumZ l t.toNat).toNat).asInt), D.int (cmpZ x y)].length ∧ (List.take 2 [D.int (cmpZ (nthD (levelRow (tShape (el l t.toNat)) (tA (el l t.toNat)) (tB (el l t.toNat))) (x - sumZ l
 t.toNat).toNat).asInt (nthD (levelRow (tShape (el l t.toNat)) (tA (el l t.toNat)) (tB (el l t.toNat))) (y - sumZ l t.toNat).toNat).asInt), D.int (cmpZ x y)]).length ≤ 100 ∧ ordP ss x y (orZ (D.list (List.take 2 [D.int
 (cmpZ (nthD (levelRow (tShape (el l t.toNat)) (tA (el l t.toNat)) (tB (el l t.toNat))) (x - sumZ l t.toNat).toNat).asInt (nthD (levelRow (tShape (el l t.toNat)) (tA (el l t.toNat)) (tB (el l t.toNat))) (y - sumZ l
 t.toNat).toNat).asInt), D.int (cmpZ x y)])))) ∧ 0 + (levelRow (tShape (el l t.toNat)) (tA (el l t.toNat)) (tB (el l t.toNat))).length ≤ (List.take 0 (rowH (sumZ l t.toNat) (List.replicate (levelRow (tShape (el l
 t.toNat)) (tA (el l t.toNat)) (tB (el l t.toNat))).length (D.int 0)).length x) ++ List.map D.int ss ++ List.drop (0 + (levelRow (tShape (el l t.toNat)) (tA (el l t.toNat)) (tB (el l t.toNat))).length) (rowH (sumZ l
 t.toNat) (List.replicate (levelRow (tShape (el l t.toNat)) (tA (el l t.toNat)) (tB (el l t.toNat))).length (D.int 0)).length x)).length ∧ D.list (List.take (levelRow (tShape (el l t.toNat)) (tA (el l t.toNat)) (tB (el l
 t.toNat))).length (List.take 0 (rowH (sumZ l t.toNat) (List.replicate (levelRow (tShape (el l t.toNat)) (tA (el l t.toNat)) (tB (el l t.toNat))).length (D.int 0)).length x) ++ List.map D.int ss ++ List.drop (0 +
 (levelRow (tShape (el l t.toNat)) (tA (el l t.toNat)) (tB (el l t.toNat))).length) (rowH (sumZ l t.toNat) (List.replicate (levelRow (tShape (el l t.toNat)) (tA (el l t.toNat)) (tB (el l t.toNat))).length (D.int
 0)).length x))) = honD l t))) ∧ ((t < (l.len : Int) → False) → D.nil = honD l t)) ∧ ((0 ≤ t → False) → D.nil = honD l t)) := by intros; kernel_rfl
theorem s101 (a b : Int) : symFun (ctxF seat5 onAnn (fun _ _ => []) (fun _ _ => none)) 4 101 [.int .i64 a, .int .i64 b] (.int .i64 (cmpZ a b)) := by
  rw [vc101]
  refine ⟨fun h => absurd rfl h, fun _ => ⟨fun h => absurd rfl h, fun _ => ⟨fun h => ?_, fun h => ⟨fun h2 => ?_, fun h2 => ?_⟩⟩⟩⟩
  · unfold cmpZ; rw [if_pos h]
  · unfold cmpZ; rw [if_neg h, if_pos h2]
  · unfold cmpZ; rw [if_neg h, if_neg h2]
theorem orL_zero : ∀ L : List D, (∀ j, j < L.length → (nthD L j).asInt = 0) → orL L = 0
  | [], _ => rfl
  | d :: r, h => by
    have h0 : d.asInt = 0 := h 0 (by simp)
    unfold orL; rw [if_pos h0]
    exact orL_zero r fun j hj => h (j + 1) (by simp; omega)
theorem orL_at : ∀ (L : List D) (x : Nat), x < L.length → (∀ j, j < x → (nthD L j).asInt = 0) → (nthD L x).asInt ≠ 0 → orL L = (nthD L x).asInt
  | [], x, h, _, _ => by simp at h
  | d :: r, 0, _, _, h => by
    have h : d.asInt ≠ 0 := h
    unfold orL; rw [if_neg h]; rfl
  | d :: r, x + 1, hx, h0, h => by
    have e : d.asInt = 0 := h0 0 (by omega)
    unfold orL; rw [if_pos e]
    exact orL_at r x (by simp at hx; omega) (fun j hj => h0 (j + 1) (by omega)) h
theorem s112 (l : D) (hl : l.len ≤ 100) : symFun (ctxF seat5 onAnn (fun _ _ => []) (fun _ _ => none)) 4 112 [.dat 29 l] (.int .i64 (orZ l)) := by
  rw [vc112]
  have hL : ∀ m : Nat, m ≤ 200 → m < LIM := fun m h => by unfold LIM; omega
  refine ⟨⟨0, ⟨Nat.zero_le _, ⟨fun j hj => absurd hj (Nat.not_lt_zero _)⟩⟩, ⟨rfl, trivial⟩, trivial⟩, fun x hx => ⟨hL _ (by omega), fun hlt => ?_, fun hge => ?_⟩⟩
  · have hlx : x < l.asList.length := by have : x < l.len := by omega
                                         exact this
    refine ⟨by omega, hlt, fun hne => ?_, fun he => ?_⟩
    · exact (orL_at l.asList x hlx hx.2.out hne).symm
    · have he : (el l x).asInt = 0 := Classical.not_not.1 he
      refine ⟨by omega, x + 1, ⟨by omega, ⟨fun j hj => ?_⟩⟩, by omega, ⟨by omega, trivial⟩, trivial⟩
      rcases Nat.lt_succ_iff_lt_or_eq.1 hj with g | g
      · exact hx.2.out j g
      · rw [g]; exact he
  · have hge : ¬ (x : Int) < (l.len : Int) := hge
    have : x = l.len := by omega
    subst this
    exact (orL_zero l.asList hx.2.out).symm
theorem rowH_len (F : Int) {n x : Nat} (h : x ≤ n) : (rowH F n x).length = n := by unfold rowH; simp; omega
theorem rowH_zero (F : Int) (n : Nat) : rowH F n 0 = List.replicate n (D.int 0) := by simp [rowH]
theorem rowH_full (F : Int) (n : Nat) : rowH F n n = (List.range n).map fun (k : Nat) => D.int (F + k) := by simp [rowH]
theorem rowH_set (F : Int) {n x : Nat} (h : x < n) : (rowH F n x).set x (.int (F + x)) = rowH F n (x + 1) := by
  unfold rowH
  rw [List.set_append_right _ _ (by simp), List.range_succ, List.map_append, List.append_assoc]
  congr 1
  simp only [List.length_map, List.length_range, Nat.sub_self]
  rw [show n - x = (n - (x + 1)) + 1 by omega, List.replicate_succ]
  rfl
theorem hoL_ints {d : D} {F : Int} : ∀ u, u ∈ hoL d F (dN d + 1) → ∃ k : Nat, k < dN d ∧ u = .int (F + k) := fun u hu => by
  obtain ⟨k, h1, _, _, h4⟩ := hoL_mem2 hu; exact ⟨k, h1, h4⟩
theorem s51 (l : D) (t : Int) (hsm : smallD l) : symFun (ctxF on1 onAnn (fun _ _ => []) (fun _ _ => none)) 5 51 [.dat 22 l, .int .i64 t] (.dat 29 (honD l t)) := by
  rw [vc51]
  simp only [imp_false, Classical.not_not]
  have no : ¬ hasT l t → D.nil = honD l t := fun h => by unfold honD; rw [if_neg h]
  refine ⟨fun h0 => ⟨fun h1 => ⟨hsm, fun hn => no fun hh => hn hh.out.2.2, fun ho => ?_⟩, fun h1 => no fun hh => h1 hh.out.2.1⟩, fun h0 => no fun hh => h0 hh.out.1⟩
  have h1' : t.toNat < l.len := by omega
  have hseat := ok_seated hsm ho
  have hz := hseat.out.2 _ h1'
  have h100 := hsm.out.1
  have hlv : (levelRow (tShape (el l t.toNat)) (tA (el l t.toNat)) (tB (el l t.toNat))).length = dN (el l t.toNat) := len_levelRow _ _ _
  have hr := size_range (el l t.toNat)
  have h24 : dN (el l t.toNat) ≤ 24 := by unfold dN; omega
  have hn0 : 0 < dN (el l t.toNat) := by unfold dN; omega
  have hF := sum_small h100 t.toNat (by omega)
  have hin := hon_in (show sizeZ (tShape (el l t.toNat)) (tA (el l t.toNat)) (tB (el l t.toNat)) ≠ 0 from hz)
  have hh : (honZ (tShape (el l t.toNat)) (tA (el l t.toNat)) (tB (el l t.toNat))).toNat < dN (el l t.toNat) := by
    have := hin.out.2; show _ < (sizeZ _ _ _).toNat; omega
  have hlvN : ∀ y, (nthD (levelRow (tShape (el l t.toNat)) (tA (el l t.toNat)) (tB (el l t.toNat))) y).asInt = lvN (el l t.toNat) y := fun _ => rfl
  have hrange : ∀ k, k < dN (el l t.toNat) → 0 ≤ lvN (el l t.toNat) k ∧ lvN (el l t.toNat) k ≤ dN (el l t.toNat) := fun k hk => lv_range hk hh
  have hhon : honD l t = .list (hoL (el l t.toNat) (sumZ l t.toNat) (dN (el l t.toNat) + 1)) := by unfold honD; rw [if_pos ⟨h0, h1, ho⟩]
  have e3 : (ctxF on1 onAnn (fun _ _ => []) (fun _ _ => none)).P.types[(3 : Nat)].bytes = 8 := rfl
  rw [hhon, e3]
  simp only [hlv, hlvN, List.length_replicate]
  have hcnt := hoL_count (d := el l t.toNat) (F := sumZ l t.toNat) hrange
  have hsort := hoL_sorted (d := el l t.toNat) (F := sumZ l t.toNat) (dN (el l t.toNat) + 1)
  have hall : ∀ {k : Nat}, k < dN (el l t.toNat) → D.int (sumZ l t.toNat + k) ∈ hoL (el l t.toNat) (sumZ l t.toNat) (dN (el l t.toNat) + 1) := fun hk => hoL_in hk (hrange _ hk).1 (by have := (hrange _ hk).2; omega)
  have hints := hoL_ints (d := el l t.toNat) (F := sumZ l t.toNat)
  have hL : ∀ m : Nat, m ≤ 64 → m < LIM := fun m h => by unfold LIM; omega
  generalize sumZ l t.toNat = F at *
  generalize el l t.toNat = d at *
  clear hlvN hlv hin hh hhon e3
  refine ⟨⟨h0, by omega, hseat⟩, h0, h1, hz, by omega, by omega, by omega, by omega, ⟨0, Nat.zero_le _, ⟨rfl, trivial⟩, (rowH_zero _ _).symm, trivial⟩, fun x hx => ?_⟩
  have hx : x ≤ dN d := hx
  refine ⟨hL _ (by omega), fun hlt => ?_, fun hge => ?_⟩
  · exact ⟨by omega, by omega, hlt, by rw [rowH_len _ hx]; omega, by omega, x + 1, (show x + 1 ≤ dN d by omega), by omega, ⟨by omega, trivial⟩, rowH_set _ (by omega), trivial⟩
  have : x = dN d := by omega
  subst this
  generalize hO : hoL d F (dN d + 1) = O at *
  -- the order, as numbers
  have hOi : (O.map D.asInt).map D.int = O := by
    rw [List.map_map]
    exact (List.map_congr_left (g := id) fun u hu => by obtain ⟨k, _, rfl⟩ := hints u hu; rfl).trans (List.map_id _)
  have hmemS : ∀ {x : Int}, x ∈ O.map D.asInt → ∃ k : Nat, k < dN d ∧ x = F + k := fun hx => by
    obtain ⟨u, hu, rfl⟩ := List.mem_map.1 hx
    obtain ⟨k, hk, rfl⟩ := hints u hu
    exact ⟨k, hk, rfl⟩
  have hbefS : (O.map D.asInt).Pairwise fun u w => ∃ k m : Nat, u = F + k ∧ w = F + m ∧ (lvN d k < lvN d m ∨ (lvN d k = lvN d m ∧ k < m)) := by
    rw [List.pairwise_map]
    refine hsort.imp fun {u w} h => ?_
    obtain ⟨k, m, rfl, rfl, h3⟩ := h.out
    exact ⟨k, m, rfl, rfl, h3⟩
  have hnd : (O.map D.asInt).Nodup := hbefS.imp fun {u w} h e => by
    obtain ⟨k, m, rfl, rfl, h3⟩ := h
    have : k = m := by omega
    subst this
    omega
  have hidx : ∀ {k : Nat}, k < dN d → ∃ i : Nat, (O.map D.asInt)[i]? = some (F + k) := fun {k} hk => List.getElem?_of_mem (List.mem_map.2 ⟨_, hall hk, rfl⟩)
  have hbef : ∀ {k m : Nat}, k < dN d → m < dN d → (Bef (O.map D.asInt) (F + k) (F + m) ↔ (lvN d k < lvN d m ∨ (lvN d k = lvN d m ∧ k < m))) := fun {k m} hk hm => by
    obtain ⟨i, hi⟩ := hidx hk
    obtain ⟨j, hj⟩ := hidx hm
    have order : ∀ {k m i j : Nat}, (O.map D.asInt)[i]? = some (F + k) → (O.map D.asInt)[j]? = some (F + m) → i < j → (lvN d k < lvN d m ∨ (lvN d k = lvN d m ∧ k < m)) := fun {k m i j} hi hj hij => by
      obtain ⟨i1, i2⟩ := List.getElem?_eq_some_iff.1 hi
      obtain ⟨j1, j2⟩ := List.getElem?_eq_some_iff.1 hj
      obtain ⟨k', m', q1, q2, q3⟩ := List.pairwise_iff_getElem.1 hbefS i j i1 j1 hij
      rw [i2] at q1
      rw [j2] at q2
      have : k = k' := by omega
      subst this
      have : m = m' := by omega
      subst this
      exact q3
    rw [bef_idx hnd hi hj]
    constructor
    · exact order hi hj
    · intro h
      rcases Nat.lt_trichotomy i j with g | g | g
      · exact g
      · subst g
        rw [hi] at hj
        have : F + (k : Int) = F + m := Option.some.inj hj
        have : k = m := by omega
        subst this
        omega
      · have := order hj hi g
        omega
  have hrow : List.map D.asInt (List.take (dN d) (rowH F (dN d) (dN d))) = (List.range (dN d)).map fun (k : Nat) => F + (k : Int) := by
    rw [rowH_full, List.take_of_length_le (by simp), List.map_map]; rfl
  refine ⟨by omega, by omega, by rw [rowH_len _ hx]; omega, ⟨fun u hu => ?_⟩, O.map D.asInt, ⟨?_, hnd⟩, fun x y hx hy => ?_, ?_, ?_⟩
  · rw [rowH_full] at hu
    obtain ⟨k, _, rfl⟩ := List.mem_map.1 (List.mem_of_mem_take hu)
    exact ⟨_, rfl⟩
  · rw [hrow]
    refine (List.perm_ext_iff_of_nodup hnd ?_).2 fun z => ⟨fun hz => ?_, fun hz => ?_⟩
    · rw [List.Nodup, List.pairwise_map]
      exact List.pairwise_lt_range.imp fun {a b} h => by omega
    · obtain ⟨k, hk, rfl⟩ := hmemS hz
      exact List.mem_map.2 ⟨k, List.mem_range.2 hk, rfl⟩
    · obtain ⟨k, hk, rfl⟩ := List.mem_map.1 hz
      exact List.mem_map.2 ⟨_, hall (List.mem_range.1 hk), rfl⟩
  · obtain ⟨k, hk, rfl⟩ := hmemS hx
    obtain ⟨m, hm, rfl⟩ := hmemS hy
    refine ⟨by omega, by omega, by omega, by omega, by omega, by omega, trivial, trivial, by simp, by simp, ⟨?_⟩⟩
    rw [hbef hk hm, show (F + (k : Int) - F).toNat = k by omega, show (F + (m : Int) - F).toNat = m by omega]
    show orL [D.int (cmpZ (lvN d k) (lvN d m)), D.int (cmpZ (F + k) (F + m))] < 0 ↔ _
    unfold orL orL orL
    show (if cmpZ (lvN d k) (lvN d m) = 0 then (if cmpZ (F + k) (F + m) = 0 then (0 : Int) else cmpZ (F + k) (F + m)) else cmpZ (lvN d k) (lvN d m)) < 0 ↔ _
    unfold cmpZ
    generalize lvN d k = a
    generalize lvN d m = b
    split <;> split <;> omega
  · simp; omega
  · congr 1
    rw [hOi]
    simp only [List.take_zero, List.nil_append, Nat.zero_add]
    rw [List.drop_of_length_le (by rw [rowH_len _ hx]; omega), List.append_nil, List.take_of_length_le (by omega)]
end Go.Ev

end

section
open Go.Proofs
namespace Go.Ev
set_option maxRecDepth 100000
set_option maxHeartbeats 4000000
theorem v101 : ∀ d, 56 ≤ d → VC d 101 con101 := fun d hd =>
  valid_of_sym (C := ctxF seat5 onAnn (fun _ _ => []) (fun _ _ => none)) (G := GC) (B := 52) (m := 4) rfl rfl rfl vs5 (fun us p r hc hp ht => by
    unfold con101 at hc; split at hc
    · cases hc; exact s101 _ _
    · cases hc) (fun _ _ => rfl) rfl rfl d hd
theorem v112 : ∀ d, 56 ≤ d → VC d 112 con112 := fun d hd =>
  valid_of_sym (C := ctxF seat5 onAnn (fun _ _ => []) (fun _ _ => none)) (G := GC) (B := 52) (m := 4) rfl rfl rfl vs5 (fun us p r hc hp ht => by
    unfold con112 at hc; split at hc
    · cases hc; exact s112 _ hp
    · cases hc) (fun _ _ => rfl) rfl rfl d hd
theorem von1 : ∀ d, 56 ≤ d → ∀ g c, on1 g = some c → VC d g c := fun d hd g c h => by
  unfold on1 at h
  split at h
  · cases h; exact v101 d hd
  · cases h; exact v112 d hd
  · exact vs5 d (by omega) _ c h
theorem v51 : ∀ d, 61 ≤ d → VC d 51 con51 := fun d hd =>
  valid_of_sym (C := ctxF on1 onAnn (fun _ _ => []) (fun _ _ => none)) (G := GC) (B := 56) (m := 5) rfl rfl rfl von1 (fun us p r hc hp ht => by
    unfold con51 at hc; split at hc
    · cases hc; exact s51 _ _ hp
    · cases hc) (fun _ _ => rfl) rfl rfl d hd
theorem vhl1 : ∀ d, 61 ≤ d → ∀ g c, hl1 g = some c → VC d g c := fun d hd g c h => by
  unfold hl1 at h
  split at h
  · cases h; exact valid_ext (v51 d hd)
  · cases h; exact v32 d (by omega)
  · cases h; exact v53 d (by omega)
  · cases h; exact v54 d (by omega)
  · exact vs5 d (by omega) _ c h
theorem v15 : ∀ d, 65 ≤ d → VC d 15 con15 := fun d hd =>
  valid_of_sym (C := ctxF hl1 hlAnn (fun _ _ => []) hlJoin) (G := GC) (B := 61) (m := 4) rfl rfl rfl vhl1 (fun us p r hc hp ht => by
    unfold con15 at hc; split at hc
    · cases hc; exact s15 _ hp
    · cases hc) (fun _ _ => rfl) rfl rfl d hd
end Go.Ev

end

section
open Go.Proofs
namespace Go.Ev
section
variable {P : Program}
theorem ok_int {f : Nat} {t : TypeId} {d : D} {k : IntKind} (hu : P.underlying t = some (.int k)) (h : okD P (f + 1) t d) : inR k d.asInt := by
  unfold okD at h; rw [hu] at h
  obtain ⟨n, rfl, hr⟩ := h
  exact hr
theorem ok_i64 {f : Nat} {t : TypeId} {d : D} (hu : P.underlying t = some (.int .i64)) (h : okD P (f + 1) t d) : i64P d.asInt := ⟨ok_int hu h⟩
theorem ok_u8 {f : Nat} {t : TypeId} {d : D} (hu : P.underlying t = some (.int .u8)) (h : okD P (f + 1) t d) : byteP d.asInt := ⟨ok_int hu h⟩
theorem ok_slice {f : Nat} {t e : TypeId} {d : D} (hu : P.underlying t = some (.slice e)) (h : okD P (f + 1) t d) : d.len ≤ maxLen ∧ ∀ i, i < d.len → okD P f e (el d i) := by
  unfold okD at h; rw [hu] at h
  rcases h with rfl | ⟨l, rfl, hl, h⟩
  · exact ⟨Nat.zero_le _, fun i hi => by simp [D.len, D.asList] at hi⟩
  · refine ⟨hl, fun i hi => h i _ ?_⟩
    have hi : i < l.length := hi
    show l[i]? = some (nthD l i)
    unfold nthD
    rw [List.getElem?_eq_getElem hi]; rfl
theorem ok_bytes {f : Nat} {t e : TypeId} {d : D} (hu : P.underlying t = some (.slice e)) (he : P.underlying e = some (.int .u8)) (h : okD P (f + 2) t d) : bytesP d := ⟨fun i hi => (ok_u8 he ((ok_slice hu h).2 i hi)).out⟩
theorem ok_code {f : Nat} {t u s : TypeId} {d : D} {f0 f1 f2 f3 : Field} (hu : P.underlying t = some (.struct #[f0, f1, f2, f3])) (h0 : f0.type = u) (h1 : f1.type = u) (h2 : f2.type = u) (h3 : f3.type = s)
    (hb : P.underlying u = some (.int .u8)) (hs : P.underlying s = some (.slice u)) (h : okD P (f + 3) t d) : codeP d := by
  unfold okD at h; rw [hu] at h
  obtain ⟨ds, rfl, hl, hf⟩ := h
  match ds, hl with
  | [a, b, c, o], _ => exact ⟨ok_u8 hb (h0 ▸ hf 0 _ a rfl rfl), ok_u8 hb (h1 ▸ hf 1 _ b rfl rfl), ok_u8 hb (h2 ▸ hf 2 _ c rfl rfl), ok_bytes hs hb (h3 ▸ hf 3 _ o rfl rfl)⟩
theorem ok_codes {f : Nat} {t0 t u s : TypeId} {d : D} {f0 f1 f2 f3 : Field} (ht : P.underlying t0 = some (.slice t)) (hu : P.underlying t = some (.struct #[f0, f1, f2, f3])) (h0 : f0.type = u) (h1 : f1.type = u) (h2 : f2.type = u) (h3 : f3.type = s)
    (hb : P.underlying u = some (.int .u8)) (hs : P.underlying s = some (.slice u)) (h : okD P (f + 4) t0 d) : codesP d := ⟨fun i hi => ok_code hu h0 h1 h2 h3 hb hs ((ok_slice ht h).2 i hi)⟩
theorem oks_cons {t : TypeId} {ts : List TypeId} {d : D} {ds : List D} (h : okDs P (t :: ts) (d :: ds)) : okD P 20 t d ∧ okDs P ts ds := h
structure Types (P : Program) : Prop where
  codes : ∀ d, okD P 20 65 d → codesP d
  code : ∀ d, okD P 20 41 d → codeP d
  int : ∀ d, okD P 20 3 d → i64P d.asInt
  byte : ∀ d, okD P 20 5 d → byteP d.asInt
  bytes : ∀ d, okD P 20 39 d → bytesP d
theorem Types.of {f0 f1 f2 f3 : Field} (ht : P.underlying 65 = some (.slice 41)) (hu : P.underlying 41 = some (.struct #[f0, f1, f2, f3])) (h0 : f0.type = 5) (h1 : f1.type = 5) (h2 : f2.type = 5) (h3 : f3.type = 39)
    (hb : P.underlying 5 = some (.int .u8)) (hs : P.underlying 39 = some (.slice 5)) (hi : P.underlying 3 = some (.int .i64)) : Types P :=
  ⟨fun _ h => ok_codes ht hu h0 h1 h2 h3 hb hs h, fun _ h => ok_code hu h0 h1 h2 h3 hb hs h, fun _ h => ok_i64 hi h, fun _ h => ok_u8 hb h, fun _ h => ok_bytes hs hb h⟩
end
end Go.Ev

end
