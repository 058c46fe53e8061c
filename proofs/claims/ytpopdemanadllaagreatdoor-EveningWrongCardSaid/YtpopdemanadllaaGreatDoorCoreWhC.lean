/-
  Part of the engine that the claim is proved with: it states nothing of the document by itself.
-/
import Derived.Test.YtpopdemanadllaaGreatDoorCoreWhDefs
import Derived.Test.YtpopdemanadllaaGreatDoorCoreMeC
open Go.Proofs
namespace Go.Ev
set_option maxRecDepth 100000
set_option maxHeartbeats 4000000
theorem vc10w : ∀ (n : Int) (s p : D), symFun (ctx wg1 wgAnn) 4 (10 : FuncId) [V.int IntKind.i64 n, V.dat (24 : TypeId) s, V.dat (25 : TypeId) p] (V.tup [wNil, V.int IntKind.i64 (chk n D.nil s).snd]) = (((0 : Nat) ≤ 1000
∧ bigP s) ∧ (((chk n D.nil s).snd = 0 → False) → True ∧ (chk n D.nil s).snd = (chk n D.nil s).snd ∧ True) ∧ ((((chk n D.nil s).snd = 0 → False) → False) → False ∧ (((0 : Int) = 0 → False) → True ∧ 2 = (chk n D.nil s).snd
∧ True) ∧ ((((0 : Int) = 0 → False) → False) → False ∧ False))) := by intros; kernel_rfl
theorem vc11w : ∀ (n k : Int) (s : D), symFun (ctx wg1 wgAnn) 4 (11 : FuncId) [V.int IntKind.i64 n, V.dat (24 : TypeId) s, V.int IntKind.i64 k] (V.tup [wNil, V.int IntKind.i64 0, V.int IntKind.i64 (chk n D.nil s).snd]) =
(((0 : Nat) ≤ 1000 ∧ bigP s) ∧ (((chk n D.nil s).snd = 0 → False) → True ∧ (0 : Int) = 0 ∧ (chk n D.nil s).snd = (chk n D.nil s).snd ∧ True) ∧ ((((chk n D.nil s).snd = 0 → False) → False) → (k < 0 → True ∧ (0 : Int) = 0
∧ 2 = (chk n D.nil s).snd ∧ True) ∧ ((k < 0 → False) → False ∧ False))) := by intros; kernel_rfl
theorem vc12w : ∀ (n : Int) (a b : D), symFun (ctx wg1 wgAnn) 4 (12 : FuncId) [V.int IntKind.i64 n, V.dat (24 : TypeId) a, V.dat (24 : TypeId) b] (V.tup [wNil, V.int IntKind.i64 (chk n D.nil b).snd]) = ((0 : Int) ≤ 0 ∧ 0
< (↑(2 : Nat) : Int) ∧ 0 + 0 < [a, b].length ∧ ((0 : Nat) ≤ 1000 ∧ bigP (nthD [a, b] (0 + 0))) ∧ (((chk n D.nil (nthD [a, b] (0 + 0))).snd = 0 → False) → True ∧ (chk n D.nil (nthD [a, b] (0 + 0))).snd = (chk n D.nil
b).snd ∧ True) ∧ ((((chk n D.nil (nthD [a, b] (0 + 0))).snd = 0 → False) → False) → 0 ≤ Int.ofNat 1 ∧ Int.ofNat 1 < (↑(2 : Nat) : Int) ∧ 0 + (Int.ofNat 1).toNat < [a, b].length ∧ ((0 : Nat) ≤ 1000 ∧ bigP (nthD [a, b] (0
+ (Int.ofNat 1).toNat))) ∧ (((chk n D.nil (nthD [a, b] (0 + (Int.ofNat 1).toNat))).snd = 0 → False) → True ∧ (chk n D.nil (nthD [a, b] (0 + (Int.ofNat 1).toNat))).snd = (chk n D.nil b).snd ∧ True) ∧ ((((chk n D.nil (nthD
[a, b] (0 + (Int.ofNat 1).toNat))).snd = 0 → False) → False) → fits64 ((a.len : Int) + (b.len : Int)) ∧ (64 < (a.len : Int) + (b.len : Int) → True ∧ 7 = (chk n D.nil b).snd ∧ True) ∧ ((64 < (a.len : Int) + (b.len : Int)
→ False) → False ∧ False ∧ False)))) := by intros; kernel_rfl
theorem vc13w : ∀ (n : Int) (s : D), symFun (ctx wg2 wgAnn) 4 (13 : FuncId) [V.int IntKind.i64 n, V.dat (24 : TypeId) s] wNil = (bigP s ∧ (((chk n D.nil s).snd = 0 → False) → True) ∧ ((((chk n D.nil s).snd = 0 → False) →
False) → False)) := by intros; kernel_rfl
theorem vc14w : ∀ (n : Int) (s : D), symFun (ctx wg2 wgAnn) 4 (14 : FuncId) [V.int IntKind.i64 n, V.dat (24 : TypeId) s] wNil = (bigP s ∧ (((chk n D.nil s).snd = 0 → False) → True) ∧ ((((chk n D.nil s).snd = 0 → False) →
False) → False)) := by intros; kernel_rfl
theorem vc15w : ∀ (n : Int) (s : D), symFun (ctx wg2 wgAnn) 4 (15 : FuncId) [V.int IntKind.i64 n, V.dat (24 : TypeId) s] wNil = (bigP s ∧ (((chk n D.nil s).snd = 0 → False) → True) ∧ ((((chk n D.nil s).snd = 0 → False) →
False) → 0 ≤ n ∧ n ≤ n ∧ n ≤ 16777216 ∧ 8 * n.toNat ≤ 281474976710656 ∧ 0 ≤ (s.len : Int) ∧ (s.len : Int) ≤ (s.len : Int) ∧ (s.len : Int) ≤ 16777216 ∧ 24 * s.len ≤ 281474976710656 ∧ (∃ (x : Unit), False ∧ True ∧ True) ∧
∀ (x : Unit), False → 0 < LIM ∧ False)) := by intros; kernel_rfl
theorem vc19w : ∀ (n : Int) (s : D) (a b : Int), symFun (ctx wg2 wgAnn) 4 (19 : FuncId) [V.int IntKind.i64 n, V.dat (24 : TypeId) s, V.int IntKind.i64 a, V.int IntKind.i64 b] wNil = (((a = b → False) → bigP s ∧ (((chk n
D.nil s).snd = 0 → False) → True) ∧ ((((chk n D.nil s).snd = 0 → False) → False) → (∃ (x : Unit), False ∧ True ∧ True) ∧ ∀ (x : Unit), False → 0 < LIM ∧ False)) ∧ (a = b → True)) := by intros; kernel_rfl
theorem vc5z : ∀ (n : Int) (s : D), symFun (ctx wg2 emAnn5) 6 (5 : FuncId) [V.int IntKind.i64 n, V.dat (24 : TypeId) s] (V.str []) = (bigP s ∧ (((chk n D.nil s).snd = 0 → False) → ([] : List UInt8) = []) ∧ ((((chk n
D.nil s).snd = 0 → False) → False) → (∃ (x : Nat), (x = 0 ∧ s.len = 0) ∧ (0 = (x : Int) ∧ True) ∧ True) ∧ ∀ (x : Nat), x = 0 ∧ s.len = 0 → 0 < LIM ∧ ((x : Int) < (s.len : Int) → 0 ≤ (x : Int) ∧ (x : Int) < (s.len : Int)
∧ (∃ (x : Unit), False ∧ True ∧ True) ∧ ∀ (x : Unit), False → 0 < LIM ∧ False) ∧ (((x : Int) < (s.len : Int) → False) → ([] : List UInt8) = []))) := by intros; kernel_rfl
theorem bad_ne {n : Int} {s : D} (h : badW n s) : (chk n .nil s).2 ≠ 0 := fun k => h.no (good_of h.big k)
theorem s10w (n : Int) (s p : D) (h : badW n s) : symFun (ctx wg1 wgAnn) 4 10 [.int .i64 n, .dat 24 s, .dat 25 p] (.tup [wNil, .int .i64 (chk n .nil s).2]) := by
 rw [vc10w]; exact ⟨⟨by decide, h.big⟩, fun _ => ⟨trivial, rfl, trivial⟩, fun k => (k (bad_ne h)).elim⟩
theorem s11w (n k : Int) (s : D) (h : badW n s) : symFun (ctx wg1 wgAnn) 4 11 [.int .i64 n, .dat 24 s, .int .i64 k] (.tup [wNil, .int .i64 0, .int .i64 (chk n .nil s).2]) := by
 rw [vc11w]; exact ⟨⟨by decide, h.big⟩, fun _ => ⟨trivial, rfl, rfl, trivial⟩, fun k => (k (bad_ne h)).elim⟩
theorem s12w (n : Int) (a b : D) (ha : goodS n a) (h : badW n b) : symFun (ctx wg1 wgAnn) 4 12 [.int .i64 n, .dat 24 a, .dat 24 b] (.tup [wNil, .int .i64 (chk n .nil b).2]) := by
 rw [vc12w]
 have h0 : (chk n .nil a).2 = 0 := by rw [ha.chk]
 exact ⟨Int.le_refl _, by decide, by show 0 < 2; decide, ⟨by decide, ha.big⟩, fun k => (k h0).elim, fun _ => ⟨by decide, by decide, by show 1 < 2; decide, ⟨by decide, h.big⟩, fun _ => ⟨trivial, rfl, trivial⟩, fun k => (k (bad_ne h)).elim⟩⟩
theorem s13w (n : Int) (s : D) (h : badW n s) : symFun (ctx wg2 wgAnn) 4 13 [.int .i64 n, .dat 24 s] wNil := by
 rw [vc13w]; exact ⟨h.big, fun _ => trivial, fun k => (k (bad_ne h)).elim⟩
theorem s14w (n : Int) (s : D) (h : badW n s) : symFun (ctx wg2 wgAnn) 4 14 [.int .i64 n, .dat 24 s] wNil := by
 rw [vc14w]; exact ⟨h.big, fun _ => trivial, fun k => (k (bad_ne h)).elim⟩
theorem s15w (n : Int) (s : D) (h : badW n s) : symFun (ctx wg2 wgAnn) 4 15 [.int .i64 n, .dat 24 s] wNil := by
 rw [vc15w]; exact ⟨h.big, fun _ => trivial, fun k => (k (bad_ne h)).elim⟩
theorem s19w (n : Int) (s : D) (a b : Int) (h : badW n s) : symFun (ctx wg2 wgAnn) 4 19 [.int .i64 n, .dat 24 s, .int .i64 a, .int .i64 b] wNil := by
 rw [vc19w]; exact ⟨fun _ => ⟨h.big, fun _ => trivial, fun k => (k (bad_ne h)).elim⟩, fun _ => trivial⟩
theorem s5w (n : Int) (s : D) (h : badW n s ∨ (goodS n s ∧ s.len = 0)) : symFun (ctx wg2 emAnn5) 6 5 [.int .i64 n, .dat 24 s] (.str []) := by
 rw [vc5z]
 rcases h with h | ⟨h, h0⟩
 ·exact ⟨h.big, fun _ => rfl, fun k => (k (bad_ne h)).elim⟩
 ·refine ⟨h.big, fun _ => rfl, fun _ => ⟨⟨0, ⟨rfl, h0⟩, ⟨rfl, trivial⟩, trivial⟩, fun x hx => ⟨limS (by omega), fun k => ?_, fun _ => rfl⟩⟩⟩
  have : x = 0 := hx.1
  omega
theorem vc15 : ∀ (x y : Int), symFun (ctx cc0 noAnn) 4 (48 : FuncId) [V.int IntKind.u64 x, V.int IntKind.u64 y] (V.tup [V.int IntKind.u64 0, V.int IntKind.u64 (x * y)]) = (0 ≤ x ∧ (0 : Int) ≤ 4294967295 ∧ (0 ≤ x ∧ x <
18446744073709551616) ∧ ((0 : Int) ≤ 4294967295 ∧ (4294967295 : Int) < 18446744073709551616) ∧ (0 : Int) ≤ 32 ∧ 0 ≤ y ∧ (0 : Int) ≤ 4294967295 ∧ (0 ≤ y ∧ y < 18446744073709551616) ∧ ((0 : Int) ≤ 4294967295 ∧ (4294967295
: Int) < 18446744073709551616) ∧ (0 : Int) ≤ 32 ∧ (0 ≤ bitsN x 4294967295 * bitsN y 4294967295 ∧ bitsN x 4294967295 * bitsN y 4294967295 < 18446744073709551616) ∧ (0 ≤ shrZ IntKind.u64 x 32 * bitsN y 4294967295 ∧ shrZ
IntKind.u64 x 32 * bitsN y 4294967295 < 18446744073709551616) ∧ (0 : Int) ≤ 32 ∧ (0 ≤ shrZ IntKind.u64 x 32 * bitsN y 4294967295 + shrZ IntKind.u64 (bitsN x 4294967295 * bitsN y 4294967295) 32 ∧ shrZ IntKind.u64 x 32 *
bitsN y 4294967295 + shrZ IntKind.u64 (bitsN x 4294967295 * bitsN y 4294967295) 32 < 18446744073709551616) ∧ 0 ≤ shrZ IntKind.u64 x 32 * bitsN y 4294967295 + shrZ IntKind.u64 (bitsN x 4294967295 * bitsN y 4294967295) 32
∧ (0 : Int) ≤ 4294967295 ∧ (0 ≤ shrZ IntKind.u64 x 32 * bitsN y 4294967295 + shrZ IntKind.u64 (bitsN x 4294967295 * bitsN y 4294967295) 32 ∧ shrZ IntKind.u64 x 32 * bitsN y 4294967295 + shrZ IntKind.u64 (bitsN x
4294967295 * bitsN y 4294967295) 32 < 18446744073709551616) ∧ ((0 : Int) ≤ 4294967295 ∧ (4294967295 : Int) < 18446744073709551616) ∧ (0 : Int) ≤ 32 ∧ (0 ≤ bitsN x 4294967295 * shrZ IntKind.u64 y 32 ∧ bitsN x 4294967295 *
shrZ IntKind.u64 y 32 < 18446744073709551616) ∧ (0 ≤ bitsN (shrZ IntKind.u64 x 32 * bitsN y 4294967295 + shrZ IntKind.u64 (bitsN x 4294967295 * bitsN y 4294967295) 32) 4294967295 + bitsN x 4294967295 * shrZ IntKind.u64 y
32 ∧ bitsN (shrZ IntKind.u64 x 32 * bitsN y 4294967295 + shrZ IntKind.u64 (bitsN x 4294967295 * bitsN y 4294967295) 32) 4294967295 + bitsN x 4294967295 * shrZ IntKind.u64 y 32 < 18446744073709551616) ∧ (0 ≤ shrZ
IntKind.u64 x 32 * shrZ IntKind.u64 y 32 ∧ shrZ IntKind.u64 x 32 * shrZ IntKind.u64 y 32 < 18446744073709551616) ∧ (0 ≤ shrZ IntKind.u64 x 32 * shrZ IntKind.u64 y 32 + shrZ IntKind.u64 (shrZ IntKind.u64 x 32 * bitsN y
4294967295 + shrZ IntKind.u64 (bitsN x 4294967295 * bitsN y 4294967295) 32) 32 ∧ shrZ IntKind.u64 x 32 * shrZ IntKind.u64 y 32 + shrZ IntKind.u64 (shrZ IntKind.u64 x 32 * bitsN y 4294967295 + shrZ IntKind.u64 (bitsN x
4294967295 * bitsN y 4294967295) 32) 32 < 18446744073709551616) ∧ (0 : Int) ≤ 32 ∧ (0 ≤ shrZ IntKind.u64 x 32 * shrZ IntKind.u64 y 32 + shrZ IntKind.u64 (shrZ IntKind.u64 x 32 * bitsN y 4294967295 + shrZ IntKind.u64
(bitsN x 4294967295 * bitsN y 4294967295) 32) 32 + shrZ IntKind.u64 (bitsN (shrZ IntKind.u64 x 32 * bitsN y 4294967295 + shrZ IntKind.u64 (bitsN x 4294967295 * bitsN y 4294967295) 32) 4294967295 + bitsN x 4294967295 *
shrZ IntKind.u64 y 32) 32 ∧ shrZ IntKind.u64 x 32 * shrZ IntKind.u64 y 32 + shrZ IntKind.u64 (shrZ IntKind.u64 x 32 * bitsN y 4294967295 + shrZ IntKind.u64 (bitsN x 4294967295 * bitsN y 4294967295) 32) 32 + shrZ
IntKind.u64 (bitsN (shrZ IntKind.u64 x 32 * bitsN y 4294967295 + shrZ IntKind.u64 (bitsN x 4294967295 * bitsN y 4294967295) 32) 4294967295 + bitsN x 4294967295 * shrZ IntKind.u64 y 32) 32 < 18446744073709551616) ∧ (0 ≤ x
* y ∧ x * y < 18446744073709551616) ∧ shrZ IntKind.u64 x 32 * shrZ IntKind.u64 y 32 + shrZ IntKind.u64 (shrZ IntKind.u64 x 32 * bitsN y 4294967295 + shrZ IntKind.u64 (bitsN x 4294967295 * bitsN y 4294967295) 32) 32 +
shrZ IntKind.u64 (bitsN (shrZ IntKind.u64 x 32 * bitsN y 4294967295 + shrZ IntKind.u64 (bitsN x 4294967295 * bitsN y 4294967295) 32) 4294967295 + bitsN x 4294967295 * shrZ IntKind.u64 y 32) 32 = 0 ∧ x * y = x * y ∧ True) := by intros; kernel_rfl
theorem bits_lo {x : Int} (h0 : 0 ≤ x) (h1 : x < 4294967296) : bitsN x 4294967295 = x := by
 obtain ⟨n, rfl⟩ : ∃ n : Nat, x = n := ⟨x.toNat, by omega⟩
 unfold bitsN
 show ((n &&& 4294967295 : Nat) : Int) = n
 rw [show 4294967295 = 2 ^ 32 - 1 from rfl, Nat.and_two_pow_sub_one_eq_mod, Nat.mod_eq_of_lt (by omega)]
theorem shr_lo {x : Int} (h0 : 0 ≤ x) (h1 : x < 4294967296) : shrZ .u64 x 32 = 0 := by
 unfold shrZ
 rw [Int.fdiv_eq_ediv_of_nonneg _ (by decide), show (2 : Int) ^ (min (32 : Int).toNat IntKind.u64.bits) = 4294967296 from by decide]
 exact Int.ediv_eq_zero_of_lt h0 h1
theorem s15 (x y : Int) (hx0 : 0 ≤ x) (hx1 : x < 65536) (hy0 : 0 ≤ y) (hy1 : y < 65536) : symFun (ctx cc0 noAnn) 4 48 [.int .u64 x, .int .u64 y] (.tup [.int .u64 0, .int .u64 (x * y)]) := by
 rw [vc15]
 have p0 : 0 ≤ x * y := Int.mul_nonneg hx0 hy0
 have p1 : x * y < 4294967296 := by
  have h1 : x * y ≤ x * 65535 := Int.mul_le_mul_of_nonneg_left (by omega) hx0
  omega
 rw [bits_lo (x := x) hx0 (by omega), bits_lo (x := y) hy0 (by omega), shr_lo (x := x) hx0 (by omega), shr_lo (x := y) hy0 (by omega)]
 generalize x * y = P at p0 p1 ⊢
 simp only [Int.zero_mul, Int.mul_zero, Int.add_zero, Int.zero_add]
 rw [shr_lo p0 p1]
 have b0 : bitsN 0 4294967295 = 0 := bits_lo (by omega) (by omega)
 have z0 : shrZ .u64 0 32 = 0 := shr_lo (by omega) (by omega)
 simp only [Int.zero_mul, Int.mul_zero, Int.add_zero, Int.zero_add, b0, z0]
 repeat' apply And.intro
 all_goals first | omega | trivial
end Go.Ev
