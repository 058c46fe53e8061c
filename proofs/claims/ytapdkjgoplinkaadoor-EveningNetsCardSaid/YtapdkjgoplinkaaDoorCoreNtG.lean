/-
  Part of the engine that the claim is proved with: it states nothing of the document by itself.
-/
import Derived.Test.YtapdkjgoplinkaaDoorCoreG28
open Go.Proofs
namespace Go.Ev
set_option maxRecDepth 100000
set_option maxHeartbeats 4000000
theorem vc3 : ∀ (a b : Int), symFun (ctx nt4 ntAnn) (6 : Nat) (3 : FuncId) [V.int IntKind.u8 a, V.int IntKind.u8 b] (V.prop True) = (((10 : Int) = (0 : Int) → False) ∧ (0 : Int) ≤ a.tmod (10 : Int) ∧
a.tmod (10 : Int) < (↑(10 : Nat) : Int) ∧ (a.tmod (10 : Int)).toNat < [D.int (2 : Int), D.int (3 : Int), D.int (4 : Int), D.int (5 : Int), D.int (7 : Int), D.int (8 : Int), D.int (9 : Int), D.int (11
: Int), D.int (13 : Int), D.int (16 : Int)].length ∧ ((qA a) = (0 : Int) → False) ∧ ((-9223372036854775808 : Int) ≤ Int.tdiv (64 : Int) (qA a) ∧ Int.tdiv (64 : Int) (qA a) < (9223372036854775808 :
Int)) ∧ (min (qA a) (Int.tdiv (64 : Int) (qA a)) = (0 : Int) → False) ∧ ((-9223372036854775808 : Int) ≤ kB a b ∧ kB a b < (9223372036854775808 : Int)) ∧ (fldP (qA a) ∧ (1 : Int) ≤ kB a b ∧ kB a b ≤
(65 : Int)) ∧ ((-9223372036854775808 : Int) ≤ (kB a b) * (qA a) ∧ (kB a b) * (qA a) < (9223372036854775808 : Int)) ∧ ((qA a) < (0 : Int) → False) ∧ (((qA a) < (0 : Int) → False) → (((0 : Int) ≤
Int.ofNat (1 : Nat) ∧ Int.ofNat (1 : Nat) < (65536 : Int)) ∧ (0 : Int) ≤ IntKind.u64.wrap (qA a) ∧ IntKind.u64.wrap (qA a) < (65536 : Int)) ∧ (((0 : Int) < (0 : Int) → False) → ((9223372036854775807 :
Int) < Int.ofNat (1 : Nat) * IntKind.u64.wrap (qA a) → False) ∧ (((9223372036854775807 : Int) < Int.ofNat (1 : Nat) * IntKind.u64.wrap (qA a) → False) → (0 : Int) ≤ nW a ∧ nW a ≤ nW a ∧ nW a ≤
(16777216 : Int) ∧ (8 : Nat) * (nW a).toNat ≤ (281474976710656 : Nat) ∧ (0 : Nat) + (nW a).toNat ≤ (List.replicate (nW a).toNat (D.int (0 : Int))).length ∧ (0 : Nat) + (1 : Nat) ≤ [D.int (kB a
b)].length ∧ (0 : Nat) < (nW a).toNat ∧ (0 : Nat) < (1 : Nat) ∧ (∃ (x : Nat), ((1 : Nat) ≤ x ∧ x ≤ (rep0 a b).length) ∧ ((↑(min (1 : Nat) (nW a).toNat) : Int) = (↑x : Int) ∧ True) ∧ rep0 a b = rowK a
b x ∧ True) ∧ ∀ (x : Nat), (1 : Nat) ≤ x ∧ x ≤ (rep0 a b).length → (rep0 a b).length - x < LIM ∧ ((↑x : Int) < (↑(nW a).toNat : Int) → (0 : Int) ≤ (↑x : Int) ∧ (↑x : Int) ≤ (↑(nW a).toNat : Int) ∧
((↑(nW a).toNat : Int) - (↑(nW a).toNat : Int)).NonNeg ∧ (0 : Int) ≤ (0 : Int) ∧ (0 : Int) ≤ (↑x : Int) ∧ ((↑(nW a).toNat : Int) - (↑x : Int)).NonNeg ∧ x + ((nW a).toNat - x) ≤ (rowK a b x).length ∧
(0 : Nat) + (0 : Nat) + x ≤ (rowK a b x).length ∧ (0 : Nat) < (nW a).toNat - x ∧ (0 : Nat) < x ∧ ((-9223372036854775808 : Int) ≤ (↑x : Int) + (↑(min x ((nW a).toNat - x)) : Int) ∧ (↑x : Int) + (↑(min
x ((nW a).toNat - x)) : Int) < (9223372036854775808 : Int)) ∧ ∃ (y : Nat), ((1 : Nat) ≤ y ∧ y ≤ (rep0 a b).length) ∧ (rep0 a b).length - y < (rep0 a b).length - x ∧ ((↑x : Int) + (↑(min x ((nW
a).toNat - x)) : Int) = (↑y : Int) ∧ True) ∧ List.take x (rowK a b x) ++ List.take (min x ((nW a).toNat - x)) (List.drop ((0 : Nat) + (0 : Nat)) (rowK a b x)) ++ List.drop (x + min x ((nW a).toNat -
x)) (rowK a b x) = List.replicate y (D.int (kB a b)) ++ List.replicate ((rep0 a b).length - y) (D.int (0 : Int)) ∧ True) ∧ (((↑x : Int) < (↑(nW a).toNat : Int) → False) → (0 : Nat) + (nW a).toNat ≤
(rowK a b x).length ∧ ((List.take (nW a).toNat (rowK a b x)).length ≤ (1000 : Nat) ∧ bigP (netR (kB a b) (qA a))) ∧ (((netX (kB a b) (qA a) = (0 : Int) → False) → False) → ((((chk ((kB a b) * (qA a))
(D.list (List.take (nW a).toNat (rowK a b x))) (netR (kB a b) (qA a))).fst = (0 : Int) → False) → False) → ((((chk ((kB a b) * (qA a)) (D.list (List.take (nW a).toNat (rowK a b x))) (netR (kB a b) (qA
a))).snd = (0 : Int) → False) → False) → (((↑(netR (kB a b) (qA a)).len : Int) = (qA a) → False) → (false = true ↔ True)) ∧ ((((↑(netR (kB a b) (qA a)).len : Int) = (qA a) → False) → False) → goodS
((kB a b) * (qA a)) (netR (kB a b) (qA a)) ∧ (((↑(pqS (zrL ((kB a b) * (qA a)).toNat ((kB a b) * (qA a)).toNat) (netR (kB a b) (qA a)) (netR (kB a b) (qA a)).len).length : Int) = (kB a b) * (qA a) →
False) → (false = true ↔ True)) ∧ ((((↑(pqS (zrL ((kB a b) * (qA a)).toNat ((kB a b) * (qA a)).toNat) (netR (kB a b) (qA a)) (netR (kB a b) (qA a)).len).length : Int) = (kB a b) * (qA a) → False) →
False) → (∃ (x : Nat), x.le (pqS (zrL ((kB a b) * (qA a)).toNat ((kB a b) * (qA a)).toNat) (netR (kB a b) (qA a)) (netR (kB a b) (qA a)).len).length ∧ ((0 : Int) = (↑x : Int) ∧ True) ∧ True) ∧ ∀ (x :
Nat), x.le (pqS (zrL ((kB a b) * (qA a)).toNat ((kB a b) * (qA a)).toNat) (netR (kB a b) (qA a)) (netR (kB a b) (qA a)).len).length → (pqS (zrL ((kB a b) * (qA a)).toNat ((kB a b) * (qA a)).toNat)
(netR (kB a b) (qA a)) (netR (kB a b) (qA a)).len).length - x < LIM ∧ ((↑x : Int) < (↑(pqS (zrL ((kB a b) * (qA a)).toNat ((kB a b) * (qA a)).toNat) (netR (kB a b) (qA a)) (netR (kB a b) (qA
a)).len).length : Int) → (0 : Int) ≤ (↑x : Int) ∧ (↑x : Int) < (↑(pqS (zrL ((kB a b) * (qA a)).toNat ((kB a b) * (qA a)).toNat) (netR (kB a b) (qA a)) (netR (kB a b) (qA a)).len).length : Int) ∧ (∃
(x_1 : Nat), x_1.le (nthD (pqS (zrL ((kB a b) * (qA a)).toNat ((kB a b) * (qA a)).toNat) (netR (kB a b) (qA a)) (netR (kB a b) (qA a)).len) x).len ∧ ((0 : Int) = (↑x_1 : Int) ∧ True) ∧ True) ∧ ∀ (x_1
: Nat), x_1.le (nthD (pqS (zrL ((kB a b) * (qA a)).toNat ((kB a b) * (qA a)).toNat) (netR (kB a b) (qA a)) (netR (kB a b) (qA a)).len) x).len → (nthD (pqS (zrL ((kB a b) * (qA a)).toNat ((kB a b) *
(qA a)).toNat) (netR (kB a b) (qA a)) (netR (kB a b) (qA a)).len) x).len - x_1 < LIM ∧ ((↑x_1 : Int) < (↑(nthD (pqS (zrL ((kB a b) * (qA a)).toNat ((kB a b) * (qA a)).toNat) (netR (kB a b) (qA a))
(netR (kB a b) (qA a)).len) x).len : Int) → (0 : Int) ≤ (↑x_1 : Int) ∧ (↑x_1 : Int) < (↑(nthD (pqS (zrL ((kB a b) * (qA a)).toNat ((kB a b) * (qA a)).toNat) (netR (kB a b) (qA a)) (netR (kB a b) (qA
a)).len) x).len : Int) ∧ ((qA a) = (0 : Int) → False) ∧ ((-9223372036854775808 : Int) ≤ (↑x : Int).tdiv (qA a) ∧ (↑x : Int).tdiv (qA a) < (9223372036854775808 : Int)) ∧ ((qA a) = (0 : Int) → False) ∧
((-9223372036854775808 : Int) ≤ (↑x_1 : Int).tdiv (qA a) ∧ (↑x_1 : Int).tdiv (qA a) < (9223372036854775808 : Int)) ∧ ((↑x : Int).tdiv (qA a) = (↑x_1 : Int).tdiv (qA a) → ((nAt (nthD (pqS (zrL ((kB a
b) * (qA a)).toNat ((kB a b) * (qA a)).toNat) (netR (kB a b) (qA a)) (netR (kB a b) (qA a)).len) x) x_1 = (0 : Int) → False) → (false = true ↔ True)) ∧ (((nAt (nthD (pqS (zrL ((kB a b) * (qA a)).toNat
((kB a b) * (qA a)).toNat) (netR (kB a b) (qA a)) (netR (kB a b) (qA a)).len) x) x_1 = (0 : Int) → False) → False) → ((-9223372036854775808 : Int) ≤ (↑x_1 : Int) + (1 : Int) ∧ (↑x_1 : Int) + (1 : Int)
< (9223372036854775808 : Int)) ∧ ∃ (y : Nat), y.le (nthD (pqS (zrL ((kB a b) * (qA a)).toNat ((kB a b) * (qA a)).toNat) (netR (kB a b) (qA a)) (netR (kB a b) (qA a)).len) x).len ∧ (nthD (pqS (zrL ((kB
a b) * (qA a)).toNat ((kB a b) * (qA a)).toNat) (netR (kB a b) (qA a)) (netR (kB a b) (qA a)).len) x).len - y < (nthD (pqS (zrL ((kB a b) * (qA a)).toNat ((kB a b) * (qA a)).toNat) (netR (kB a b) (qA
a)) (netR (kB a b) (qA a)).len) x).len - x_1 ∧ ((↑x_1 : Int) + (1 : Int) = (↑y : Int) ∧ True) ∧ True)) ∧ (((↑x : Int).tdiv (qA a) = (↑x_1 : Int).tdiv (qA a) → False) → ((nAt (nthD (pqS (zrL ((kB a b)
* (qA a)).toNat ((kB a b) * (qA a)).toNat) (netR (kB a b) (qA a)) (netR (kB a b) (qA a)).len) x) x_1 = (1 : Int) → False) → (false = true ↔ True)) ∧ (((nAt (nthD (pqS (zrL ((kB a b) * (qA a)).toNat
((kB a b) * (qA a)).toNat) (netR (kB a b) (qA a)) (netR (kB a b) (qA a)).len) x) x_1 = (1 : Int) → False) → False) → ((-9223372036854775808 : Int) ≤ (↑x_1 : Int) + (1 : Int) ∧ (↑x_1 : Int) + (1 : Int)
< (9223372036854775808 : Int)) ∧ ∃ (y : Nat), y.le (nthD (pqS (zrL ((kB a b) * (qA a)).toNat ((kB a b) * (qA a)).toNat) (netR (kB a b) (qA a)) (netR (kB a b) (qA a)).len) x).len ∧ (nthD (pqS (zrL ((kB
a b) * (qA a)).toNat ((kB a b) * (qA a)).toNat) (netR (kB a b) (qA a)) (netR (kB a b) (qA a)).len) x).len - y < (nthD (pqS (zrL ((kB a b) * (qA a)).toNat ((kB a b) * (qA a)).toNat) (netR (kB a b) (qA
a)) (netR (kB a b) (qA a)).len) x).len - x_1 ∧ ((↑x_1 : Int) + (1 : Int) = (↑y : Int) ∧ True) ∧ True))) ∧ (((↑x_1 : Int) < (↑(nthD (pqS (zrL ((kB a b) * (qA a)).toNat ((kB a b) * (qA a)).toNat) (netR
(kB a b) (qA a)) (netR (kB a b) (qA a)).len) x).len : Int) → False) → ((-9223372036854775808 : Int) ≤ (↑x : Int) + (1 : Int) ∧ (↑x : Int) + (1 : Int) < (9223372036854775808 : Int)) ∧ ∃ (y : Nat), y.le
(pqS (zrL ((kB a b) * (qA a)).toNat ((kB a b) * (qA a)).toNat) (netR (kB a b) (qA a)) (netR (kB a b) (qA a)).len).length ∧ (pqS (zrL ((kB a b) * (qA a)).toNat ((kB a b) * (qA a)).toNat) (netR (kB a b)
(qA a)) (netR (kB a b) (qA a)).len).length - y < (pqS (zrL ((kB a b) * (qA a)).toNat ((kB a b) * (qA a)).toNat) (netR (kB a b) (qA a)) (netR (kB a b) (qA a)).len).length - x ∧ ((↑x : Int) + (1 : Int)
= (↑y : Int) ∧ True) ∧ True)) ∧ (((↑x : Int) < (↑(pqS (zrL ((kB a b) * (qA a)).toNat ((kB a b) * (qA a)).toNat) (netR (kB a b) (qA a)) (netR (kB a b) (qA a)).len).length : Int) → False) → ((qA a) = (0
: Int) → False) ∧ ((-9223372036854775808 : Int) ≤ Int.tdiv (64 : Int) (qA a) ∧ Int.tdiv (64 : Int) (qA a) < (9223372036854775808 : Int)) ∧ ((-9223372036854775808 : Int) ≤ min (qA a) (Int.tdiv (64 :
Int) (qA a)) + (1 : Int) ∧ min (qA a) (Int.tdiv (64 : Int) (qA a)) + (1 : Int) < (9223372036854775808 : Int)) ∧ (fldP (qA a) ∧ (1 : Int) ≤ min (qA a) (Int.tdiv (64 : Int) (qA a)) + (1 : Int) ∧ min (qA
a) (Int.tdiv (64 : Int) (qA a)) + (1 : Int) ≤ (65 : Int)) ∧ (netX (min (qA a) (Int.tdiv (64 : Int) (qA a)) + (1 : Int)) (qA a) = (90 : Int) → (true = true ↔ True)) ∧ ((netX (min (qA a) (Int.tdiv (64 :
Int) (qA a)) + (1 : Int)) (qA a) = (90 : Int) → False) → (false = true ↔ True)))))) ∧ (((chk ((kB a b) * (qA a)) (D.list (List.take (nW a).toNat (rowK a b x))) (netR (kB a b) (qA a))).snd = (0 : Int)
→ False) → (false = true ↔ True))) ∧ (((chk ((kB a b) * (qA a)) (D.list (List.take (nW a).toNat (rowK a b x))) (netR (kB a b) (qA a))).fst = (0 : Int) → False) → (false = true ↔ True))) ∧ ((netX (kB a
b) (qA a) = (0 : Int) → False) → (false = true ↔ True))))) ∧ ((0 : Int) < (0 : Int) → False))) := by intros; kernel_rfl
theorem vc15 : ∀ (x y : Int), symFun (ctx cc0 noAnn) (4 : Nat) (15 : FuncId) [V.int IntKind.u64 x, V.int IntKind.u64 y] (V.tup [V.int IntKind.u64 (0 : Int), V.int IntKind.u64 (x * y)]) = ((0 : Int) ≤
x ∧ (0 : Int) ≤ (4294967295 : Int) ∧ ((0 : Int) ≤ x ∧ x < (18446744073709551616 : Int)) ∧ ((0 : Int) ≤ (4294967295 : Int) ∧ (4294967295 : Int) < (18446744073709551616 : Int)) ∧ (0 : Int) ≤ (32 : Int)
∧ (0 : Int) ≤ y ∧ (0 : Int) ≤ (4294967295 : Int) ∧ ((0 : Int) ≤ y ∧ y < (18446744073709551616 : Int)) ∧ ((0 : Int) ≤ (4294967295 : Int) ∧ (4294967295 : Int) < (18446744073709551616 : Int)) ∧ (0 : Int)
≤ (32 : Int) ∧ ((0 : Int) ≤ bitsN x (4294967295 : Int) * bitsN y (4294967295 : Int) ∧ bitsN x (4294967295 : Int) * bitsN y (4294967295 : Int) < (18446744073709551616 : Int)) ∧ ((0 : Int) ≤ shrZ
IntKind.u64 x (32 : Int) * bitsN y (4294967295 : Int) ∧ shrZ IntKind.u64 x (32 : Int) * bitsN y (4294967295 : Int) < (18446744073709551616 : Int)) ∧ (0 : Int) ≤ (32 : Int) ∧ ((0 : Int) ≤ shrZ
IntKind.u64 x (32 : Int) * bitsN y (4294967295 : Int) + shrZ IntKind.u64 (bitsN x (4294967295 : Int) * bitsN y (4294967295 : Int)) (32 : Int) ∧ shrZ IntKind.u64 x (32 : Int) * bitsN y (4294967295 :
Int) + shrZ IntKind.u64 (bitsN x (4294967295 : Int) * bitsN y (4294967295 : Int)) (32 : Int) < (18446744073709551616 : Int)) ∧ (0 : Int) ≤ shrZ IntKind.u64 x (32 : Int) * bitsN y (4294967295 : Int) +
shrZ IntKind.u64 (bitsN x (4294967295 : Int) * bitsN y (4294967295 : Int)) (32 : Int) ∧ (0 : Int) ≤ (4294967295 : Int) ∧ ((0 : Int) ≤ shrZ IntKind.u64 x (32 : Int) * bitsN y (4294967295 : Int) + shrZ
IntKind.u64 (bitsN x (4294967295 : Int) * bitsN y (4294967295 : Int)) (32 : Int) ∧ shrZ IntKind.u64 x (32 : Int) * bitsN y (4294967295 : Int) + shrZ IntKind.u64 (bitsN x (4294967295 : Int) * bitsN y
(4294967295 : Int)) (32 : Int) < (18446744073709551616 : Int)) ∧ ((0 : Int) ≤ (4294967295 : Int) ∧ (4294967295 : Int) < (18446744073709551616 : Int)) ∧ (0 : Int) ≤ (32 : Int) ∧ ((0 : Int) ≤ bitsN x
(4294967295 : Int) * shrZ IntKind.u64 y (32 : Int) ∧ bitsN x (4294967295 : Int) * shrZ IntKind.u64 y (32 : Int) < (18446744073709551616 : Int)) ∧ ((0 : Int) ≤ bitsN (shrZ IntKind.u64 x (32 : Int) *
bitsN y (4294967295 : Int) + shrZ IntKind.u64 (bitsN x (4294967295 : Int) * bitsN y (4294967295 : Int)) (32 : Int)) (4294967295 : Int) + bitsN x (4294967295 : Int) * shrZ IntKind.u64 y (32 : Int) ∧
bitsN (shrZ IntKind.u64 x (32 : Int) * bitsN y (4294967295 : Int) + shrZ IntKind.u64 (bitsN x (4294967295 : Int) * bitsN y (4294967295 : Int)) (32 : Int)) (4294967295 : Int) + bitsN x (4294967295 :
Int) * shrZ IntKind.u64 y (32 : Int) < (18446744073709551616 : Int)) ∧ ((0 : Int) ≤ shrZ IntKind.u64 x (32 : Int) * shrZ IntKind.u64 y (32 : Int) ∧ shrZ IntKind.u64 x (32 : Int) * shrZ IntKind.u64 y
(32 : Int) < (18446744073709551616 : Int)) ∧ ((0 : Int) ≤ shrZ IntKind.u64 x (32 : Int) * shrZ IntKind.u64 y (32 : Int) + shrZ IntKind.u64 (shrZ IntKind.u64 x (32 : Int) * bitsN y (4294967295 : Int) +
shrZ IntKind.u64 (bitsN x (4294967295 : Int) * bitsN y (4294967295 : Int)) (32 : Int)) (32 : Int) ∧ shrZ IntKind.u64 x (32 : Int) * shrZ IntKind.u64 y (32 : Int) + shrZ IntKind.u64 (shrZ IntKind.u64 x
(32 : Int) * bitsN y (4294967295 : Int) + shrZ IntKind.u64 (bitsN x (4294967295 : Int) * bitsN y (4294967295 : Int)) (32 : Int)) (32 : Int) < (18446744073709551616 : Int)) ∧ (0 : Int) ≤ (32 : Int) ∧
((0 : Int) ≤ shrZ IntKind.u64 x (32 : Int) * shrZ IntKind.u64 y (32 : Int) + shrZ IntKind.u64 (shrZ IntKind.u64 x (32 : Int) * bitsN y (4294967295 : Int) + shrZ IntKind.u64 (bitsN x (4294967295 : Int)
* bitsN y (4294967295 : Int)) (32 : Int)) (32 : Int) + shrZ IntKind.u64 (bitsN (shrZ IntKind.u64 x (32 : Int) * bitsN y (4294967295 : Int) + shrZ IntKind.u64 (bitsN x (4294967295 : Int) * bitsN y
(4294967295 : Int)) (32 : Int)) (4294967295 : Int) + bitsN x (4294967295 : Int) * shrZ IntKind.u64 y (32 : Int)) (32 : Int) ∧ shrZ IntKind.u64 x (32 : Int) * shrZ IntKind.u64 y (32 : Int) + shrZ
IntKind.u64 (shrZ IntKind.u64 x (32 : Int) * bitsN y (4294967295 : Int) + shrZ IntKind.u64 (bitsN x (4294967295 : Int) * bitsN y (4294967295 : Int)) (32 : Int)) (32 : Int) + shrZ IntKind.u64 (bitsN
(shrZ IntKind.u64 x (32 : Int) * bitsN y (4294967295 : Int) + shrZ IntKind.u64 (bitsN x (4294967295 : Int) * bitsN y (4294967295 : Int)) (32 : Int)) (4294967295 : Int) + bitsN x (4294967295 : Int) *
shrZ IntKind.u64 y (32 : Int)) (32 : Int) < (18446744073709551616 : Int)) ∧ ((0 : Int) ≤ x * y ∧ x * y < (18446744073709551616 : Int)) ∧ shrZ IntKind.u64 x (32 : Int) * shrZ IntKind.u64 y (32 : Int) +
shrZ IntKind.u64 (shrZ IntKind.u64 x (32 : Int) * bitsN y (4294967295 : Int) + shrZ IntKind.u64 (bitsN x (4294967295 : Int) * bitsN y (4294967295 : Int)) (32 : Int)) (32 : Int) + shrZ IntKind.u64
(bitsN (shrZ IntKind.u64 x (32 : Int) * bitsN y (4294967295 : Int) + shrZ IntKind.u64 (bitsN x (4294967295 : Int) * bitsN y (4294967295 : Int)) (32 : Int)) (4294967295 : Int) + bitsN x (4294967295 :
Int) * shrZ IntKind.u64 y (32 : Int)) (32 : Int) = (0 : Int) ∧ x * y = x * y ∧ True) := by intros; kernel_rfl
theorem bits_lo {x : Int} (h0 : 0 ≤ x) (h1 : x < 4294967296) : bitsN x 4294967295 = x := by
 obtain ⟨n, rfl⟩ : ∃ n : Nat, x = n := ⟨x.toNat, by omega⟩
 unfold bitsN
 show ((n &&& 4294967295 : Nat) : Int) = n
 rw [show 4294967295 = 2 ^ 32 - 1 from rfl, Nat.and_two_pow_sub_one_eq_mod, Nat.mod_eq_of_lt (by omega)]
theorem shr_lo {x : Int} (h0 : 0 ≤ x) (h1 : x < 4294967296) : shrZ .u64 x 32 = 0 := by
 unfold shrZ
 rw [Int.fdiv_eq_ediv_of_nonneg _ (by decide), show (2 : Int) ^ (min (32 : Int).toNat IntKind.u64.bits) = 4294967296 from by decide]
 exact Int.ediv_eq_zero_of_lt h0 h1
theorem s15 (x y : Int) (hx0 : 0 ≤ x) (hx1 : x < 65536) (hy0 : 0 ≤ y) (hy1 : y < 65536) : symFun (ctx cc0 noAnn) 4 15 [.int .u64 x, .int .u64 y] (.tup [.int .u64 0, .int .u64 (x * y)]) := by
 rw [vc15]
 have p0 : 0 ≤ x * y := Int.mul_nonneg hx0 hy0
 have p1 : x * y < 4294967296 := by
  have h1 : x * y ≤ x * 65535 := Int.mul_le_mul_of_nonneg_left (by omega) hx0
  omega
 rw [bits_lo (x := x) hx0 (by omega), bits_lo (x := y) hy0 (by omega), shr_lo (x := x) hx0 (by omega), shr_lo (x := y) hy0 (by omega)]
 generalize x * y = P at p0 p1 ⊢
 simp only [Int.zero_mul, Int.mul_zero, Int.add_zero, Int.zero_add]
 rw [shr_lo p0 p1]
 have b0 : bitsN 0 4294967295 = 0 := bits_lo (by omega) (by omega)
 have z0 : shrZ .u64 0 32 = 0 := shr_lo (by omega) (by omega)
 simp only [Int.zero_mul, Int.mul_zero, Int.add_zero, Int.zero_add, b0, z0]
 repeat' apply And.intro
 all_goals first | omega | trivial
theorem flat_net (q k a : Nat) : ∀ n, n ≤ q → flatL (.list (netE q k a q)) n = (evV q k a n).map fun v => D.int (v : Nat)
 | 0, _ => rfl
 | n + 1, h => by
  show flatL _ n ++ (el (.list (netE q k a q)) n).asList = _
  rw [flat_net q k a n (by omega), netE_at q k a (show n < q by omega)]
  unfold evV
  rw [List.range_succ, List.flatMap_append, List.map_append]
  congr 1
  simp only [List.flatMap_cons, List.flatMap_nil, List.append_nil, List.map_map]
  rfl
theorem cnt_map : ∀ (l : List Nat) (x : Nat), cntF (l.map fun v => D.int (v : Nat)) (x : Int) = (l.count x : Nat)
 | [], _ => rfl
 | a :: l, x => by
  have ih := cnt_map l x
  show cntF (l.map fun v => D.int (v : Nat)) (x : Int) + (if (a : Int) = (x : Int) then 1 else 0) = _
  rw [ih, List.count_cons]
  by_cases e : a = x
  ·subst e; simp
  ·rw [if_neg (by omega), if_neg (by simpa using e)]; rfl
theorem net_errG {q k a : Nat} (h : netP q k) (ha : a < q) : errG ((k * q : Nat) : Int) (flatL (.list (netE q k a q)) q) = 0 := by
 rw [flat_net q k a q (Nat.le_refl _)]
 have hno : ¬ outP ((k * q : Nat) : Int) ((evV q k a q).map fun v => D.int (v : Nat)) := fun ⟨d, hd, hb⟩ => by
  obtain ⟨v, hv, rfl⟩ := List.mem_map.1 hd
  have := (h.evM a v ha).1 hv
  apply hb
  show 0 ≤ ((v : Nat) : Int) ∧ ((v : Nat) : Int) < _
  omega
 have hone : ∀ x : Int, (0 ≤ x ∧ x < ((k * q : Nat) : Int)) → cntF ((evV q k a q).map fun v => D.int (v : Nat)) x = 1 := fun x hx => by
  obtain ⟨v, rfl⟩ : ∃ v : Nat, x = (v : Int) := ⟨x.toNat, by omega⟩
  rw [cnt_map, List.Nodup.count (h.evN a ha), if_pos ((h.evM a v ha).2 (by omega))]
  rfl
 unfold errG
 rw [if_neg hno, if_neg (fun ⟨x, hx, h1⟩ => by rw [hone x hx] at h1; omega), if_neg (fun ⟨x, hx, h1⟩ => by rw [hone x hx] at h1; omega)]
structure szP (q k : Nat) (sz : D) : Prop where
 out : 0 < sz.len → sz.len = q ∧ ∀ i, i < q → nAt sz i = (k : Int)
theorem net_errE {q k a : Nat} {sz : D} (h : netP q k) (ha : a < q) (hs : szP q k sz) : errE ((k * q : Nat) : Int) sz (.list (netE q k a q)) = 0 := by
 have hl : (D.list (netE q k a q)).len = q := netE_len _ _ _ _
 have htl : ∀ j, j < q → (el (.list (netE q k a q)) j).len = k := fun j hj => by rw [netE_at q k a hj]; exact netT_len _ _ _ _
 unfold errE
 rw [if_neg ?_, hl]
 ·exact net_errG h ha
 ·rintro (⟨j, hj, he⟩ | ⟨h0, hn⟩)
  ·rw [hl] at hj; rw [htl j hj] at he; have := h.pos; omega
  ·obtain ⟨h1, h2⟩ := hs.out h0
   exact hn ⟨by rw [hl, h1], fun j hj => by rw [hl] at hj; rw [htl j hj, h2 j hj]⟩
theorem scan_zero {n : Int} {sz s : D} : ∀ f i, (∀ k, i ≤ k → k < i + f → errE n sz (el s k) = 0) → scanK n sz s f i = (0, 0)
 | 0, i, _ => rfl
 | f + 1, i, h => by
  unfold scanK
  rw [if_neg (fun hne => hne (h i (Nat.le_refl _) (by omega)))]
  exact scan_zero f (i + 1) fun k h1 h2 => h k (by omega) (by omega)
theorem sum_const {sz : D} {q k : Nat} (h : ∀ i, i < q → nAt sz i = (k : Int)) : ∀ j, j ≤ q → sumZ sz j = ((k * j : Nat) : Int)
 | 0, _ => by simp [sumZ]
 | j + 1, hj => by
  show sumZ sz j + nAt sz j = _
  rw [sum_const h j (by omega), h j (by omega), Nat.mul_succ, Int.natCast_add]
theorem net_chk {q k : Nat} {sz : D} (h : netP q k) (hs : szP q k sz) : chk ((k * q : Nat) : Int) sz (.list (netS q k q)) = (0, 0) := by
 have hl : (D.list (netS q k q)).len = q := netS_len _ _ _
 have hq := qs_rng h.qq
 have hp : 0 < k * q := Nat.mul_pos h.pos (by omega)
 have hlim := h.lim
 unfold chk
 rw [if_neg ?_, if_neg (by omega), hl]
 ·refine scan_zero q 0 fun a _ ha => ?_
  rw [netS_at q k (show a < q by omega)]
  exact net_errE h (by omega) hs
 ·rintro (h1 | ⟨h1, h2⟩)
  ·exact h1 ⟨by omega, by omega⟩
  ·obtain ⟨q1, q2⟩ := hs.out h1
   have hk := h.pos
   exact h2 ⟨fun i hi => by rw [q2 i (by omega)]; omega, by rw [q1, sum_const q2 q (Nat.le_refl _)]⟩
theorem net_big {q k : Nat} (h : netP q k) : bigP (.list (netS q k q)) := by
 have hq := qs_rng h.qq
 have hkq := h.kq
 refine ⟨by rw [show (D.list (netS q k q)).len = q from netS_len _ _ _]; omega, fun i hi => ?_⟩
 have hi : i < (netS q k q).length := hi
 rw [netS_len] at hi
 rw [netS_at q k hi]
 refine ⟨by rw [show (D.list (netE q k i q)).len = q from netE_len _ _ _ _]; omega, fun j hj => ?_⟩
 have hj : j < (netE q k i q).length := hj
 rw [netE_len] at hj
 rw [netE_at q k i hj]
 show (netT q i j k).length ≤ 1000
 rw [netT_len]; omega
theorem tt : (true = true ↔ True) := ⟨fun _ => trivial, fun _ => rfl⟩
theorem qA_ok {a : Int} (h0 : 0 ≤ a) : ∃ Q : Nat, Q ∈ qsL ∧ qA a = (Q : Int) := by
 have h10 : ∀ t : Nat, t < 10 → ∃ Q, Q ∈ qsL ∧ (nthD [D.int (2 : Int), D.int (3 : Int), D.int (4 : Int), D.int (5 : Int), D.int (7 : Int), D.int (8 : Int), D.int (9 : Int), D.int (11 : Int), D.int (13 : Int), D.int (16 : Int)] t).asInt = (Q : Int) := fun t ht =>
  match t, ht with
  | 0, _ => ⟨2, by decide, rfl⟩
  | 1, _ => ⟨3, by decide, rfl⟩
  | 2, _ => ⟨4, by decide, rfl⟩
  | 3, _ => ⟨5, by decide, rfl⟩
  | 4, _ => ⟨7, by decide, rfl⟩
  | 5, _ => ⟨8, by decide, rfl⟩
  | 6, _ => ⟨9, by decide, rfl⟩
  | 7, _ => ⟨11, by decide, rfl⟩
  | 8, _ => ⟨13, by decide, rfl⟩
  | 9, _ => ⟨16, by decide, rfl⟩
 have e : a.tmod 10 = a % 10 := Int.tmod_eq_emod_of_nonneg h0
 unfold qA
 rw [e]
 exact h10 _ (by omega)
theorem kM_int (Q : Nat) : min (Q : Int) (Int.tdiv 64 (Q : Int)) = ((kMax Q : Nat) : Int) := by
 have e : Int.tdiv 64 (Q : Int) = ((64 / Q : Nat) : Int) := by rw [Int.tdiv_eq_ediv_of_nonneg (by decide)]; rfl
 rw [e]
 unfold kMax
 omega
theorem kM_pos {Q : Nat} (h : Q ∈ qsL) : 1 ≤ kMax Q ∧ kMax Q ≤ 16 := by
 have hq := qs_rng h
 unfold kMax
 have : 1 ≤ 64 / Q := (Nat.le_div_iff_mul_le (by omega)).2 (by omega)
 omega
theorem rep_next {Q K x : Nat} (h1 : x < Q) : List.take x (List.replicate x (D.int (K : Int)) ++ List.replicate (Q - x) (D.int 0)) ++ List.take (min x (Q - x)) (List.drop (0 + 0) (List.replicate x (D.int (K : Int)) ++ List.replicate (Q - x) (D.int 0))) ++ List.drop (x + min x (Q - x)) (List.replicate x (D.int (K : Int)) ++ List.replicate (Q - x) (D.int 0)) =
  List.replicate (x + min x (Q - x)) (D.int (K : Int)) ++ List.replicate (Q - (x + min x (Q - x))) (D.int 0) := by
 have e1 : List.take x (List.replicate x (D.int (K : Int)) ++ List.replicate (Q - x) (D.int 0)) = List.replicate x (D.int (K : Int)) := by
  rw [List.take_append_of_le_length (by simp), List.take_of_length_le (by simp)]
 have e2 : List.take (min x (Q - x)) (List.drop (0 + 0) (List.replicate x (D.int (K : Int)) ++ List.replicate (Q - x) (D.int 0))) = List.replicate (min x (Q - x)) (D.int (K : Int)) := by
  show List.take _ (List.replicate x (D.int (K : Int)) ++ List.replicate (Q - x) (D.int 0)) = _
  rw [List.take_append_of_le_length (by simp; omega), List.take_replicate, Nat.min_eq_left (by omega)]
 have e3 : List.drop (x + min x (Q - x)) (List.replicate x (D.int (K : Int)) ++ List.replicate (Q - x) (D.int 0)) = List.replicate (Q - (x + min x (Q - x))) (D.int 0) := by
  rw [List.drop_append, List.length_replicate, List.drop_eq_nil_of_le (by simp), List.nil_append, List.drop_replicate]
  congr 1; omega
 rw [e1, e2, e3, List.replicate_append_replicate]
theorem sl3 (a b : Int) (ha0 : 0 ≤ a) (ha1 : a < 256) (hb0 : 0 ≤ b) (hb1 : b < 256) : symFun (ctx nt4 ntAnn) 6 3 [.int .u8 a, .int .u8 b] (.prop True) := by
 rw [vc3]
 obtain ⟨Q, hQ, eq⟩ := qA_ok ha0
 have hq := qs_rng hQ
 obtain ⟨hm1, hm2⟩ := kM_pos hQ
 have hfld : fldP (Q : Int) := ⟨by
  have := hQ
  unfold qsL at this
  simp only [List.mem_cons, List.not_mem_nil, or_false] at this
  omega⟩
 have hmq : kMax Q ≤ Q ∧ kMax Q ≤ 64 / Q := by unfold kMax; omega
 have hb64 : IntKind.i64.wrap b = b := wrap_inR (k := .i64) ⟨by omega, by omega⟩
 obtain ⟨K, hK1, hK2, eK⟩ : ∃ K : Nat, 1 ≤ K ∧ K ≤ kMax Q ∧ kB a b = (K : Int) := by
  have e : kB a b = 1 + b % ((kMax Q : Nat) : Int) := by
   unfold kB
   rw [hb64, eq, kM_int, Int.tmod_eq_emod_of_nonneg hb0]
  have h1 := Int.emod_nonneg b (show ((kMax Q : Nat) : Int) ≠ 0 by omega)
  have h2 := Int.emod_lt_of_pos b (show (0 : Int) < ((kMax Q : Nat) : Int) by omega)
  exact ⟨(1 + b % ((kMax Q : Nat) : Int)).toNat, by omega, by omega, by omega⟩
 have hnet := net_ok hQ (show 0 < K by omega) hK2
 have hwu : IntKind.u64.wrap (Q : Int) = (Q : Int) := wrap_inR (k := .u64) ⟨by omega, by omega⟩
 have eW : nW a = (Q : Int) := by
  unfold nW
  rw [eq, hwu, show Int.ofNat 1 * (Q : Int) = (Q : Int) from Int.one_mul _]
  exact wrap_inR (k := .i64) ⟨by omega, by omega⟩
 have hmin1 : min 1 Q = 1 := by omega
 have eRep : rep0 a b = List.replicate 1 (D.int (K : Int)) ++ List.replicate (Q - 1) (D.int 0) := by
  unfold rep0
  rw [eW, eK, Int.toNat_natCast, hmin1, List.drop_replicate]
  rfl
 have eLen : (rep0 a b).length = Q := by rw [eRep]; simp; omega
 have eRow : ∀ x, rowK a b x = List.replicate x (D.int (K : Int)) ++ List.replicate (Q - x) (D.int 0) := fun x => by unfold rowK; rw [eK, eLen]
 have eRl : ∀ x, x ≤ Q → (rowK a b x).length = Q := fun x hx => by rw [eRow]; simp; omega
 have hP : (K : Int) * (Q : Int) = ((K * Q : Nat) : Int) := (Int.natCast_mul K Q).symm
 have hlim := hnet.lim
 have hyes : netQ (K : Int) (Q : Int) := ⟨hfld, by omega, by omega, by rw [hP]; omega⟩
 have eR : netR (K : Int) (Q : Int) = .list (netS Q K Q) := by unfold netR; rw [if_pos hyes]; rfl
 have eX : netX (K : Int) (Q : Int) = 0 := by unfold netX; rw [if_pos hyes]
 have hone : Int.ofNat 1 * (Q : Int) = (Q : Int) := Int.one_mul _
 have hd64 : Int.tdiv 64 (Q : Int) = ((64 / Q : Nat) : Int) := by rw [Int.tdiv_eq_ediv_of_nonneg (by decide)]; rfl
 have h64le : 64 / Q ≤ 64 := Nat.div_le_self _ _
 have hslen : (D.list (netS Q K Q)).len = Q := netS_len _ _ _
 have hgood : goodS ((K * Q : Nat) : Int) (.list (netS Q K Q)) := ⟨⟨by have := Nat.mul_pos hK1 (show 0 < Q by omega); omega, by omega⟩, net_big hnet, net_chk hnet ⟨fun h => by simp [D.len, D.asList] at h⟩⟩
 have hsq := pqS_sq hgood (zr_sq _) (D.list (netS Q K Q)).len (Nat.le_refl _)
 have hAA := hsq.eq
 rw [eq, eW, eK, eR, eX, hP, kM_int, hd64, hwu, hone, eLen, hAA, sqD_len, Int.toNat_natCast, Int.toNat_natCast, hslen]
 have hten : a.tmod 10 = a % 10 := Int.tmod_eq_emod_of_nonneg ha0
 rw [hten]
 refine ⟨fun h => by omega, by omega, by show a % 10 < 10; omega, by show (a % 10).toNat < 10; omega, fun h => by omega, ⟨by omega, by omega⟩, fun h => by omega, ⟨by omega, by omega⟩, ⟨hfld, by omega, by omega⟩, ⟨by omega, by omega⟩, fun h => by omega, fun _ => ⟨⟨⟨by decide, by decide⟩, by omega, by omega⟩, fun _ => ⟨fun h => by omega, fun _ => ⟨by omega, Int.le_refl _, by omega, by omega, by rw [List.length_replicate]; omega, Nat.le_refl _, by omega, by decide, ⟨1, ⟨Nat.le_refl _, by omega⟩, ⟨by rw [hmin1], trivial⟩, by rw [eRep, eRow], trivial⟩, fun x ⟨hx1, hx2⟩ => ?_⟩⟩, fun h => by omega⟩⟩
 refine ⟨limS (by omega), fun hlt => ?_, fun hge => ?_⟩
 ·have hxQ : x < Q := by omega
  refine ⟨by omega, by omega, by show (Q : Int) ≤ (Q : Int); omega, Int.le_refl _, by omega, by show (x : Int) ≤ (Q : Int); omega, by rw [eRl x hx2]; omega, by rw [eRl x hx2]; omega, by omega, by omega, ⟨by omega, by omega⟩, x + min x (Q - x), ⟨by omega, by omega⟩, by omega, ⟨by omega, trivial⟩, ?_, trivial⟩
  rw [eRow]
  exact rep_next hxQ
 ·have hge := not_of hge
  have ex : x = Q := by omega
  subst ex
  have eTk : List.take x (rowK a b x) = List.replicate x (D.int (K : Int)) := by
   rw [eRow, Nat.sub_self, List.replicate_zero, List.append_nil, List.take_of_length_le (by rw [List.length_replicate]; exact Nat.le_refl _)]
  have hcs : szP x K (.list (List.replicate x (D.int (K : Int)))) := ⟨fun _ => ⟨by simp [D.len, D.asList], fun i hi => by
   unfold nAt nthD
   show (((List.replicate x (D.int (K : Int)))[i]?).getD .nil).asInt = _
   rw [List.getElem?_replicate, if_pos hi]; rfl⟩⟩
  rw [eTk, net_chk hnet hcs, eRl x (Nat.le_refl _)]
  refine ⟨by omega, ⟨by rw [List.length_replicate]; omega, net_big hnet⟩, fun _ => ⟨fun _ => ⟨fun _ => ⟨fun h => (h rfl).elim, fun _ => ⟨hgood, fun h => (h rfl).elim, fun _ => ⟨⟨0, Nat.zero_le _, ⟨rfl, trivial⟩, trivial⟩, fun g hg => ?_⟩⟩⟩, fun h => (h rfl).elim⟩, fun h => (h rfl).elim⟩, fun h => (h rfl).elim⟩
  have hg : g ≤ K * x := hg
  refine ⟨limS (by omega), fun hlt => ?_, fun _ => ?_⟩
  ·have hg2 : g < K * x := by omega
   have er : nthD (sqD (K * x) (mtS (D.list (netS x K x)) x)) g = .list (rowF (K * x) (mtS (D.list (netS x K x)) x) g) := sqD_at _ hg2
   have hrl : (D.list (rowF (K * x) (mtS (D.list (netS x K x)) x) g)).len = K * x := rowF_len _ _ _
   rw [er, hrl]
   refine ⟨by omega, hlt, ⟨0, Nat.zero_le _, ⟨rfl, trivial⟩, trivial⟩, fun w hw => ?_⟩
   have hw : w ≤ K * x := hw
   refine ⟨limS (by omega), fun hlt2 => ?_, fun hge2 => ⟨⟨by omega, by omega⟩, g + 1, by show g + 1 ≤ _; omega, by omega, ⟨by omega, trivial⟩, trivial⟩⟩
   have hw2 : w < K * x := by omega
   have ev : nAt (.list (rowF (K * x) (mtS (D.list (netS x K x)) x) g)) w = if g / x = w / x then 0 else 1 := by
    show (nthD (rowF (K * x) (mtS (D.list (netS x K x)) x) g) w).asInt = _
    rw [rowF_at _ _ hw2]
    exact net_meet hnet hg2 hw2
   have ed : ∀ v : Nat, (v : Int).tdiv (x : Int) = ((v / x : Nat) : Int) := fun v => by rw [Int.tdiv_eq_ediv_of_nonneg (by omega)]; rfl
   have hdl : ∀ v : Nat, v / x ≤ v := fun v => Nat.div_le_self _ _
   have d1 := hdl g
   have d2 := hdl w
   have d3 : (0 : Int) ≤ ((g / x : Nat) : Int) := Int.natCast_nonneg _
   have d4 : (0 : Int) ≤ ((w / x : Nat) : Int) := Int.natCast_nonneg _
   rw [ev, ed, ed]
   refine ⟨by omega, hlt2, fun h => by omega, ⟨by omega, by omega⟩, fun h => by omega, ⟨by omega, by omega⟩, fun he => ?_, fun hne => ?_⟩
   ·rw [if_pos (by omega)]
    exact ⟨fun h => (h rfl).elim, fun _ => ⟨⟨by omega, by omega⟩, w + 1, by show w + 1 ≤ _; omega, by omega, ⟨by omega, trivial⟩, trivial⟩⟩
   ·rw [if_neg (fun e => hne (by rw [e]))]
    exact ⟨fun h => (h rfl).elim, fun _ => ⟨⟨by omega, by omega⟩, w + 1, by show w + 1 ≤ _; omega, by omega, ⟨by omega, trivial⟩, trivial⟩⟩
  ·have hno : ¬ netQ (((kMax x : Nat) : Int) + 1) (x : Int) := fun h => by
    have h1 := h.lim
    have h2 := h.kq
    have h3 : (kMax x + 1) * x ≤ 64 := by
     have : ((((kMax x + 1) * x : Nat)) : Int) ≤ 64 := by rw [Int.natCast_mul, Int.natCast_add]; exact h1
     omega
    have h4 : kMax x + 1 ≤ 64 / x := (Nat.le_div_iff_mul_le (by omega)).2 h3
    have : kMax x = min x (64 / x) := rfl
    omega
   have eX2 : netX (((kMax x : Nat) : Int) + 1) (x : Int) = 90 := by unfold netX; rw [if_neg hno]
   rw [eX2]
   exact ⟨fun h => by omega, ⟨by omega, by omega⟩, ⟨by omega, by omega⟩, ⟨hfld, by omega, by omega⟩, fun _ => tt, fun h => (h rfl).elim⟩
end Go.Ev
