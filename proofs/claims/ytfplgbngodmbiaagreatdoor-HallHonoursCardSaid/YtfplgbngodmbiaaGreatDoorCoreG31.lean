/-
  Part of the engine that the claim is proved with: it states nothing of the document by itself.
-/
import Derived.Test.YtfplgbngodmbiaaGreatDoorCoreG30

section
open Go.Proofs
namespace Go.Ev
set_option maxRecDepth 100000
set_option maxHeartbeats 4000000
theorem vc149 : ∀ (nm : List UInt8) (sh a b : Int) (o : D) (x y : Int), symFun (ctx seat2 l2Ann) 6 (149 : FuncId) [V.agg [V.str nm, V.int IntKind.u8 sh, V.int IntKind.i64 a, V.int IntKind.i64 b, V.dat (29 : TypeId) o,
V.int IntKind.i64 x, V.int IntKind.i64 y]] (V.int IntKind.i64 (honZ sh a b)) = ((sh = 1 → 0 = honZ sh a b) ∧ ((sh = 1 → False) → (sh = 2 → (b = 0 → ((2 : Int) = 0 → False) ∧ ((-9223372036854775808) ≤ a.tdiv 2 ∧ a.tdiv 2
< 9223372036854775808) ∧ a.tdiv 2 = honZ sh a b) ∧ ((b = 0 → False) → a = honZ sh a b)) ∧ ((sh = 2 → False) → (sh = 3 → ((2 : Int) = 0 → False) ∧ ((-9223372036854775808) ≤ a.tdiv 2 ∧ a.tdiv 2 < 9223372036854775808) ∧
((-9223372036854775808) ≤ b + a.tdiv 2 ∧ b + a.tdiv 2 < 9223372036854775808) ∧ b + a.tdiv 2 = honZ sh a b) ∧ ((sh = 3 → False) → (sh = 4 → ((2 : Int) = 0 → False) ∧ ((-9223372036854775808) ≤ a.tdiv 2 ∧ a.tdiv 2 <
9223372036854775808) ∧ a.tdiv 2 = honZ sh a b) ∧ ((sh = 4 → False) → False))))) := by intros; kernel_rfl
theorem vc109 : ∀ (nm : List UInt8) (sh a b : Int) (o : D) (x y : Int), symFun (ctx seat4 l2Ann) 9 (109 : FuncId) [V.agg [V.str nm, V.int IntKind.u8 sh, V.int IntKind.i64 a, V.int IntKind.i64 b, V.dat (29 : TypeId) o,
V.int IntKind.i64 x, V.int IntKind.i64 y]] (V.dat (29 : TypeId) (D.list (levelRow sh a b))) = ((sizeZ sh a b = 0 → False) ∧ (sizeZ sh a b = 0 → False) ∧ (sizeZ sh a b < 0 → False) ∧ ((sizeZ sh a b < 0 → False) →
(Int.ofNat 1 = 1 ∧ 0 ≤ IntKind.u64.wrap (sizeZ sh a b) ∧ IntKind.u64.wrap (sizeZ sh a b) ≤ 24) ∧ (((0 : Int) < 0 → False) → (9223372036854775807 < IntKind.u64.wrap (sizeZ sh a b) → False) ∧ ((9223372036854775807 <
IntKind.u64.wrap (sizeZ sh a b) → False) → 0 ≤ IntKind.i64.wrap (IntKind.u64.wrap (sizeZ sh a b)) ∧ IntKind.i64.wrap (IntKind.u64.wrap (sizeZ sh a b)) ≤ IntKind.i64.wrap (IntKind.u64.wrap (sizeZ sh a b)) ∧
IntKind.i64.wrap (IntKind.u64.wrap (sizeZ sh a b)) ≤ 16777216 ∧ (ctx seat4 l2Ann).P.types[3].bytes * (nW sh a b) ≤ 281474976710656 ∧ 0 + (nW sh a b) ≤ (List.replicate (nW sh a b) (D.int 0)).length ∧ 0 + 1 ≤ [D.int
(-1)].length ∧ 0 < (nW sh a b) ∧ (0 : Nat) < 1 ∧ (∃ (x : Nat), (0 < x ∧ x ≤ (nW sh a b)) ∧ ((↑(min 1 (nW sh a b)) : Int) = (x : Int) ∧ True) ∧ List.take 0 (List.replicate (nW sh a b) (D.int 0)) ++ List.take (min 1 (nW sh
a b)) [D.int (-1)] ++ List.drop (0 + min 1 (nW sh a b)) (List.replicate (nW sh a b) (D.int 0)) = rowF x (nW sh a b) ∧ True) ∧ ∀ (x : Nat), 0 < x ∧ x ≤ (nW sh a b) → (nW sh a b) - x < LIM ∧ ((x : Int) < (↑(nW sh a b) :
Int) → 0 ≤ (x : Int) ∧ (x : Int) ≤ (↑(nW sh a b) : Int) ∧ ((↑(nW sh a b) : Int) - (↑(nW sh a b) : Int)).NonNeg ∧ (0 : Int) ≤ 0 ∧ 0 ≤ (x : Int) ∧ ((↑(nW sh a b) : Int) - (x : Int)).NonNeg ∧ x + ((nW sh a b) - x) ≤ (rowF x
(nW sh a b)).length ∧ 0 + 0 + x ≤ (rowF x (nW sh a b)).length ∧ 0 < (nW sh a b) - x ∧ 0 < x ∧ ((-9223372036854775808) ≤ (x : Int) + (↑(min x ((nW sh a b) - x)) : Int) ∧ (x : Int) + (↑(min x ((nW sh a b) - x)) : Int) <
9223372036854775808) ∧ ∃ (y : Nat), (0 < y ∧ y ≤ (nW sh a b)) ∧ (nW sh a b) - y < (nW sh a b) - x ∧ ((x : Int) + (↑(min x ((nW sh a b) - x)) : Int) = (y : Int) ∧ True) ∧ List.take x (rowF x (nW sh a b)) ++ List.take (min
x ((nW sh a b) - x)) (List.drop (0 + 0) (rowF x (nW sh a b))) ++ List.drop (x + min x ((nW sh a b) - x)) (rowF x (nW sh a b)) = rowF y (nW sh a b) ∧ True) ∧ (((x : Int) < (↑(nW sh a b) : Int) → False) → 0 ≤ honZ sh a b ∧
honZ sh a b < (↑(nW sh a b) : Int) ∧ (honZ sh a b).toNat < (rowF x (nW sh a b)).length ∧ ((∃ (x_1 : (Nat → Int) × List D × List Nat), bfsS (nW sh a b) sh a b (honZ sh a b) x_1.fst x_1.snd.snd ∧ ((0 = x_1.snd.fst.length ∧
1 = x_1.snd.snd.length ∧ 1 = x_1.snd.snd.length) ∧ True) ∧ [D.int (honZ sh a b)] = x_1.snd.fst ++ rowQ x_1.snd.snd ∧ (rowF x (nW sh a b)).set (honZ sh a b).toNat (D.int 0) = rowN (nW sh a b) x_1.fst ∧ True) ∨ ∃ (x : (Nat
→ Int) × List D × List Nat), bfsS (nW sh a b) sh a b (honZ sh a b) x.fst x.snd.snd ∧ False) ∧ (∀ (x : (Nat → Int) × List D × List Nat), bfsS (nW sh a b) sh a b (honZ sh a b) x.fst x.snd.snd → negs (nW sh a b) x.fst +
x.snd.snd.length < LIM ∧ (0 < (x.snd.snd.length : Int) → (0 : Int) ≤ 0 ∧ 0 < (x.snd.snd.length : Int) ∧ x.snd.fst.length + Int.toNat 0 < (x.snd.fst ++ rowQ x.snd.snd).length ∧ (0 : Int) ≤ 1 ∧ 1 ≤ (x.snd.snd.length : Int)
∧ ((x.snd.snd.length : Int) - (x.snd.snd.length : Int)).NonNeg ∧ ((∃ (x_1 : (Nat → Int) × List D × List Nat × Nat), (bfsI (nW sh a b) sh a b (honZ sh a b) (hdQ x.snd) (x_1.snd.snd.snd : Int) x_1.fst x_1.snd.snd.fst ∧
x_1.snd.snd.snd ≤ (nW sh a b) ∧ negs (nW sh a b) x_1.fst + x_1.snd.snd.fst.length = negsR (rowN (nW sh a b) x.fst) + (x.snd.snd.length - Int.toNat 1)) ∧ (0 = (x_1.snd.snd.snd : Int) ∧ (x.snd.fst.length + Int.toNat 1 =
x_1.snd.fst.length ∧ x.snd.snd.length - Int.toNat 1 = x_1.snd.snd.fst.length ∧ x.snd.snd.length - Int.toNat 1 = x_1.snd.snd.fst.length) ∧ True) ∧ x.snd.fst ++ rowQ x.snd.snd = x_1.snd.fst ++ rowQ x_1.snd.snd.fst ∧ rowN
(nW sh a b) x.fst = rowN (nW sh a b) x_1.fst ∧ True) ∨ ∃ (x_1 : (Nat → Int) × List D × List Nat × Nat), (bfsI (nW sh a b) sh a b (honZ sh a b) (hdQ x.snd) (x_1.snd.snd.snd : Int) x_1.fst x_1.snd.snd.fst ∧ x_1.snd.snd.snd
≤ (nW sh a b) ∧ negs (nW sh a b) x_1.fst + x_1.snd.snd.fst.length = negsR (rowN (nW sh a b) x.fst) + (x.snd.snd.length - Int.toNat 1)) ∧ False) ∧ (∀ (x_1 : (Nat → Int) × List D × List Nat × Nat), bfsI (nW sh a b) sh a b
(honZ sh a b) (hdQ x.snd) (x_1.snd.snd.snd : Int) x_1.fst x_1.snd.snd.fst ∧ x_1.snd.snd.snd ≤ (nW sh a b) ∧ negs (nW sh a b) x_1.fst + x_1.snd.snd.fst.length = negsR (rowN (nW sh a b) x.fst) + (x.snd.snd.length -
Int.toNat 1) → (nW sh a b) - x_1.snd.snd.snd < LIM ∧ ((x_1.snd.snd.snd : Int) < (↑(nW sh a b) : Int) → 0 ≤ (x_1.snd.snd.snd : Int) ∧ (x_1.snd.snd.snd : Int) < (↑(nW sh a b) : Int) ∧ x_1.snd.snd.snd < (rowN (nW sh a b)
x_1.fst).length ∧ ((nthD (rowN (nW sh a b) x_1.fst) x_1.snd.snd.snd).asInt < 0 → (inTab sh a b (hdQ x.snd) ∧ inTab sh a b (x_1.snd.snd.snd : Int)) ∧ (nearP sh a b (hdQ x.snd) (x_1.snd.snd.snd : Int) → 0 ≤ (hdQ x.snd) ∧
(hdQ x.snd) < (↑(nW sh a b) : Int) ∧ (hdQ x.snd).toNat < (rowN (nW sh a b) x_1.fst).length ∧ ((-9223372036854775808) ≤ (nthD (rowN (nW sh a b) x_1.fst) (hdQ x.snd).toNat).asInt + 1 ∧ (nthD (rowN (nW sh a b) x_1.fst) (hdQ
x.snd).toNat).asInt + 1 < 9223372036854775808) ∧ 0 ≤ (x_1.snd.snd.snd : Int) ∧ (x_1.snd.snd.snd : Int) < (↑(nW sh a b) : Int) ∧ x_1.snd.snd.snd < (rowN (nW sh a b) x_1.fst).length ∧ 0 + 1 ≤ [D.int (x_1.snd.snd.snd :
Int)].length ∧ x_1.snd.fst.length + x_1.snd.snd.fst.length ≤ (x_1.snd.fst ++ rowQ x_1.snd.snd.fst).length ∧ x_1.snd.snd.fst.length + 1 ≤ 16777216 ∧ (x_1.snd.snd.fst.length + 1 ≤ x_1.snd.snd.fst.length →
x_1.snd.fst.length + x_1.snd.snd.fst.length + 1 ≤ (x_1.snd.fst ++ rowQ x_1.snd.snd.fst).length ∧ ((-9223372036854775808) ≤ (x_1.snd.snd.snd : Int) + 1 ∧ (x_1.snd.snd.snd : Int) + 1 < 9223372036854775808) ∧ ((∃ (y : (Nat
→ Int) × List D × List Nat × Nat), (bfsI (nW sh a b) sh a b (honZ sh a b) (hdQ x.snd) (y.snd.snd.snd : Int) y.fst y.snd.snd.fst ∧ y.snd.snd.snd ≤ (nW sh a b) ∧ negs (nW sh a b) y.fst + y.snd.snd.fst.length = negsR (rowN
(nW sh a b) x.fst) + (x.snd.snd.length - Int.toNat 1)) ∧ (nW sh a b) - y.snd.snd.snd < (nW sh a b) - x_1.snd.snd.snd ∧ ((x_1.snd.snd.snd : Int) + 1 = (y.snd.snd.snd : Int) ∧ (x_1.snd.fst.length = y.snd.fst.length ∧
x_1.snd.snd.fst.length + 1 = y.snd.snd.fst.length ∧ x_1.snd.snd.fst.length = y.snd.snd.fst.length) ∧ True) ∧ List.take (x_1.snd.fst.length + x_1.snd.snd.fst.length) (x_1.snd.fst ++ rowQ x_1.snd.snd.fst) ++ List.take 1
[D.int (x_1.snd.snd.snd : Int)] ++ List.drop (x_1.snd.fst.length + x_1.snd.snd.fst.length + 1) (x_1.snd.fst ++ rowQ x_1.snd.snd.fst) = y.snd.fst ++ rowQ y.snd.snd.fst ∧ (rowN (nW sh a b) x_1.fst).set x_1.snd.snd.snd
(D.int ((nthD (rowN (nW sh a b) x_1.fst) (hdQ x.snd).toNat).asInt + 1)) = rowN (nW sh a b) y.fst ∧ True) ∨ ∃ (y : (Nat → Int) × List D × List Nat × Nat), (bfsI (nW sh a b) sh a b (honZ sh a b) (hdQ x.snd) (y.snd.snd.snd
: Int) y.fst y.snd.snd.fst ∧ y.snd.snd.snd ≤ (nW sh a b) ∧ negs (nW sh a b) y.fst + y.snd.snd.fst.length = negsR (rowN (nW sh a b) x.fst) + (x.snd.snd.length - Int.toNat 1)) ∧ (nW sh a b) - y.snd.snd.snd < (nW sh a b) -
x_1.snd.snd.snd ∧ False)) ∧ (x_1.snd.snd.fst.length < x_1.snd.snd.fst.length + 1 → ((-9223372036854775808) ≤ (x_1.snd.snd.snd : Int) + 1 ∧ (x_1.snd.snd.snd : Int) + 1 < 9223372036854775808) ∧ ((∃ (y : (Nat → Int) × List
D × List Nat × Nat), (bfsI (nW sh a b) sh a b (honZ sh a b) (hdQ x.snd) (y.snd.snd.snd : Int) y.fst y.snd.snd.fst ∧ y.snd.snd.snd ≤ (nW sh a b) ∧ negs (nW sh a b) y.fst + y.snd.snd.fst.length = negsR (rowN (nW sh a b)
x.fst) + (x.snd.snd.length - Int.toNat 1)) ∧ (nW sh a b) - y.snd.snd.snd < (nW sh a b) - x_1.snd.snd.snd ∧ False) ∨ ∃ (y : (Nat → Int) × List D × List Nat × Nat), (bfsI (nW sh a b) sh a b (honZ sh a b) (hdQ x.snd)
(y.snd.snd.snd : Int) y.fst y.snd.snd.fst ∧ y.snd.snd.snd ≤ (nW sh a b) ∧ negs (nW sh a b) y.fst + y.snd.snd.fst.length = negsR (rowN (nW sh a b) x.fst) + (x.snd.snd.length - Int.toNat 1)) ∧ (nW sh a b) - y.snd.snd.snd <
(nW sh a b) - x_1.snd.snd.snd ∧ ((x_1.snd.snd.snd : Int) + 1 = (y.snd.snd.snd : Int) ∧ (0 = y.snd.fst.length ∧ x_1.snd.snd.fst.length + 1 = y.snd.snd.fst.length ∧ True) ∧ True) ∧ List.take x_1.snd.snd.fst.length
(List.drop x_1.snd.fst.length (x_1.snd.fst ++ rowQ x_1.snd.snd.fst)) ++ List.take 1 [D.int (x_1.snd.snd.snd : Int)] = y.snd.fst ++ rowQ y.snd.snd.fst ∧ (rowN (nW sh a b) x_1.fst).set x_1.snd.snd.snd (D.int ((nthD (rowN
(nW sh a b) x_1.fst) (hdQ x.snd).toNat).asInt + 1)) = rowN (nW sh a b) y.fst ∧ True))) ∧ ((nearP sh a b (hdQ x.snd) (x_1.snd.snd.snd : Int) → False) → ((-9223372036854775808) ≤ (x_1.snd.snd.snd : Int) + 1 ∧
(x_1.snd.snd.snd : Int) + 1 < 9223372036854775808) ∧ ((∃ (y : (Nat → Int) × List D × List Nat × Nat), (bfsI (nW sh a b) sh a b (honZ sh a b) (hdQ x.snd) (y.snd.snd.snd : Int) y.fst y.snd.snd.fst ∧ y.snd.snd.snd ≤ (nW sh
a b) ∧ negs (nW sh a b) y.fst + y.snd.snd.fst.length = negsR (rowN (nW sh a b) x.fst) + (x.snd.snd.length - Int.toNat 1)) ∧ (nW sh a b) - y.snd.snd.snd < (nW sh a b) - x_1.snd.snd.snd ∧ ((x_1.snd.snd.snd : Int) + 1 =
(y.snd.snd.snd : Int) ∧ (x_1.snd.fst.length = y.snd.fst.length ∧ x_1.snd.snd.fst.length = y.snd.snd.fst.length ∧ x_1.snd.snd.fst.length = y.snd.snd.fst.length) ∧ True) ∧ x_1.snd.fst ++ rowQ x_1.snd.snd.fst = y.snd.fst ++
rowQ y.snd.snd.fst ∧ rowN (nW sh a b) x_1.fst = rowN (nW sh a b) y.fst ∧ True) ∨ ∃ (y : (Nat → Int) × List D × List Nat × Nat), (bfsI (nW sh a b) sh a b (honZ sh a b) (hdQ x.snd) (y.snd.snd.snd : Int) y.fst y.snd.snd.fst
∧ y.snd.snd.snd ≤ (nW sh a b) ∧ negs (nW sh a b) y.fst + y.snd.snd.fst.length = negsR (rowN (nW sh a b) x.fst) + (x.snd.snd.length - Int.toNat 1)) ∧ (nW sh a b) - y.snd.snd.snd < (nW sh a b) - x_1.snd.snd.snd ∧ False)))
∧ (((nthD (rowN (nW sh a b) x_1.fst) x_1.snd.snd.snd).asInt < 0 → False) → ((-9223372036854775808) ≤ (x_1.snd.snd.snd : Int) + 1 ∧ (x_1.snd.snd.snd : Int) + 1 < 9223372036854775808) ∧ ((∃ (y : (Nat → Int) × List D × List
Nat × Nat), (bfsI (nW sh a b) sh a b (honZ sh a b) (hdQ x.snd) (y.snd.snd.snd : Int) y.fst y.snd.snd.fst ∧ y.snd.snd.snd ≤ (nW sh a b) ∧ negs (nW sh a b) y.fst + y.snd.snd.fst.length = negsR (rowN (nW sh a b) x.fst) +
(x.snd.snd.length - Int.toNat 1)) ∧ (nW sh a b) - y.snd.snd.snd < (nW sh a b) - x_1.snd.snd.snd ∧ ((x_1.snd.snd.snd : Int) + 1 = (y.snd.snd.snd : Int) ∧ (x_1.snd.fst.length = y.snd.fst.length ∧ x_1.snd.snd.fst.length =
y.snd.snd.fst.length ∧ x_1.snd.snd.fst.length = y.snd.snd.fst.length) ∧ True) ∧ x_1.snd.fst ++ rowQ x_1.snd.snd.fst = y.snd.fst ++ rowQ y.snd.snd.fst ∧ rowN (nW sh a b) x_1.fst = rowN (nW sh a b) y.fst ∧ True) ∨ ∃ (y :
(Nat → Int) × List D × List Nat × Nat), (bfsI (nW sh a b) sh a b (honZ sh a b) (hdQ x.snd) (y.snd.snd.snd : Int) y.fst y.snd.snd.fst ∧ y.snd.snd.snd ≤ (nW sh a b) ∧ negs (nW sh a b) y.fst + y.snd.snd.fst.length = negsR
(rowN (nW sh a b) x.fst) + (x.snd.snd.length - Int.toNat 1)) ∧ (nW sh a b) - y.snd.snd.snd < (nW sh a b) - x_1.snd.snd.snd ∧ False))) ∧ (((x_1.snd.snd.snd : Int) < (↑(nW sh a b) : Int) → False) → (∃ (y : (Nat → Int) ×
List D × List Nat), bfsS (nW sh a b) sh a b (honZ sh a b) y.fst y.snd.snd ∧ negs (nW sh a b) y.fst + y.snd.snd.length < negs (nW sh a b) x.fst + x.snd.snd.length ∧ ((x_1.snd.fst.length = y.snd.fst.length ∧
x_1.snd.snd.fst.length = y.snd.snd.length ∧ x_1.snd.snd.fst.length = y.snd.snd.length) ∧ True) ∧ x_1.snd.fst ++ rowQ x_1.snd.snd.fst = y.snd.fst ++ rowQ y.snd.snd ∧ rowN (nW sh a b) x_1.fst = rowN (nW sh a b) y.fst ∧
True) ∨ ∃ (y : (Nat → Int) × List D × List Nat), bfsS (nW sh a b) sh a b (honZ sh a b) y.fst y.snd.snd ∧ negs (nW sh a b) y.fst + y.snd.snd.length < negs (nW sh a b) x.fst + x.snd.snd.length ∧ False)) ∧ ∀ (x_1 : (Nat →
Int) × List D × List Nat × Nat), bfsI (nW sh a b) sh a b (honZ sh a b) (hdQ x.snd) (x_1.snd.snd.snd : Int) x_1.fst x_1.snd.snd.fst ∧ x_1.snd.snd.snd ≤ (nW sh a b) ∧ negs (nW sh a b) x_1.fst + x_1.snd.snd.fst.length =
negsR (rowN (nW sh a b) x.fst) + (x.snd.snd.length - Int.toNat 1) → (nW sh a b) - x_1.snd.snd.snd < LIM ∧ ((x_1.snd.snd.snd : Int) < (↑(nW sh a b) : Int) → 0 ≤ (x_1.snd.snd.snd : Int) ∧ (x_1.snd.snd.snd : Int) < (↑(nW sh
a b) : Int) ∧ x_1.snd.snd.snd < (rowN (nW sh a b) x_1.fst).length ∧ ((nthD (rowN (nW sh a b) x_1.fst) x_1.snd.snd.snd).asInt < 0 → (inTab sh a b (hdQ x.snd) ∧ inTab sh a b (x_1.snd.snd.snd : Int)) ∧ (nearP sh a b (hdQ
x.snd) (x_1.snd.snd.snd : Int) → 0 ≤ (hdQ x.snd) ∧ (hdQ x.snd) < (↑(nW sh a b) : Int) ∧ (hdQ x.snd).toNat < (rowN (nW sh a b) x_1.fst).length ∧ ((-9223372036854775808) ≤ (nthD (rowN (nW sh a b) x_1.fst) (hdQ
x.snd).toNat).asInt + 1 ∧ (nthD (rowN (nW sh a b) x_1.fst) (hdQ x.snd).toNat).asInt + 1 < 9223372036854775808) ∧ 0 ≤ (x_1.snd.snd.snd : Int) ∧ (x_1.snd.snd.snd : Int) < (↑(nW sh a b) : Int) ∧ x_1.snd.snd.snd < (rowN (nW
sh a b) x_1.fst).length ∧ 0 + 1 ≤ [D.int (x_1.snd.snd.snd : Int)].length ∧ x_1.snd.fst.length + x_1.snd.snd.fst.length ≤ (x_1.snd.fst ++ rowQ x_1.snd.snd.fst).length ∧ x_1.snd.snd.fst.length + 1 ≤ 16777216 ∧
((-9223372036854775808) ≤ (x_1.snd.snd.snd : Int) + 1 ∧ (x_1.snd.snd.snd : Int) + 1 < 9223372036854775808) ∧ ((∃ (y : (Nat → Int) × List D × List Nat × Nat), (bfsI (nW sh a b) sh a b (honZ sh a b) (hdQ x.snd)
(y.snd.snd.snd : Int) y.fst y.snd.snd.fst ∧ y.snd.snd.snd ≤ (nW sh a b) ∧ negs (nW sh a b) y.fst + y.snd.snd.fst.length = negsR (rowN (nW sh a b) x.fst) + (x.snd.snd.length - Int.toNat 1)) ∧ (nW sh a b) - y.snd.snd.snd <
(nW sh a b) - x_1.snd.snd.snd ∧ False) ∨ ∃ (y : (Nat → Int) × List D × List Nat × Nat), (bfsI (nW sh a b) sh a b (honZ sh a b) (hdQ x.snd) (y.snd.snd.snd : Int) y.fst y.snd.snd.fst ∧ y.snd.snd.snd ≤ (nW sh a b) ∧ negs
(nW sh a b) y.fst + y.snd.snd.fst.length = negsR (rowN (nW sh a b) x.fst) + (x.snd.snd.length - Int.toNat 1)) ∧ (nW sh a b) - y.snd.snd.snd < (nW sh a b) - x_1.snd.snd.snd ∧ ((x_1.snd.snd.snd : Int) + 1 = (y.snd.snd.snd
: Int) ∧ (0 = y.snd.fst.length ∧ x_1.snd.snd.fst.length + 1 = y.snd.snd.fst.length ∧ True) ∧ True) ∧ List.take x_1.snd.snd.fst.length (List.drop x_1.snd.fst.length (x_1.snd.fst ++ rowQ x_1.snd.snd.fst)) ++ List.take 1
[D.int (x_1.snd.snd.snd : Int)] = y.snd.fst ++ rowQ y.snd.snd.fst ∧ (rowN (nW sh a b) x_1.fst).set x_1.snd.snd.snd (D.int ((nthD (rowN (nW sh a b) x_1.fst) (hdQ x.snd).toNat).asInt + 1)) = rowN (nW sh a b) y.fst ∧ True))
∧ ((nearP sh a b (hdQ x.snd) (x_1.snd.snd.snd : Int) → False) → ((-9223372036854775808) ≤ (x_1.snd.snd.snd : Int) + 1 ∧ (x_1.snd.snd.snd : Int) + 1 < 9223372036854775808) ∧ ((∃ (y : (Nat → Int) × List D × List Nat ×
Nat), (bfsI (nW sh a b) sh a b (honZ sh a b) (hdQ x.snd) (y.snd.snd.snd : Int) y.fst y.snd.snd.fst ∧ y.snd.snd.snd ≤ (nW sh a b) ∧ negs (nW sh a b) y.fst + y.snd.snd.fst.length = negsR (rowN (nW sh a b) x.fst) +
(x.snd.snd.length - Int.toNat 1)) ∧ (nW sh a b) - y.snd.snd.snd < (nW sh a b) - x_1.snd.snd.snd ∧ False) ∨ ∃ (y : (Nat → Int) × List D × List Nat × Nat), (bfsI (nW sh a b) sh a b (honZ sh a b) (hdQ x.snd) (y.snd.snd.snd
: Int) y.fst y.snd.snd.fst ∧ y.snd.snd.snd ≤ (nW sh a b) ∧ negs (nW sh a b) y.fst + y.snd.snd.fst.length = negsR (rowN (nW sh a b) x.fst) + (x.snd.snd.length - Int.toNat 1)) ∧ (nW sh a b) - y.snd.snd.snd < (nW sh a b) -
x_1.snd.snd.snd ∧ ((x_1.snd.snd.snd : Int) + 1 = (y.snd.snd.snd : Int) ∧ (x_1.snd.fst.length = y.snd.fst.length ∧ x_1.snd.snd.fst.length = y.snd.snd.fst.length ∧ True) ∧ True) ∧ x_1.snd.fst ++ rowQ x_1.snd.snd.fst =
y.snd.fst ++ rowQ y.snd.snd.fst ∧ rowN (nW sh a b) x_1.fst = rowN (nW sh a b) y.fst ∧ True))) ∧ (((nthD (rowN (nW sh a b) x_1.fst) x_1.snd.snd.snd).asInt < 0 → False) → ((-9223372036854775808) ≤ (x_1.snd.snd.snd : Int) +
1 ∧ (x_1.snd.snd.snd : Int) + 1 < 9223372036854775808) ∧ ((∃ (y : (Nat → Int) × List D × List Nat × Nat), (bfsI (nW sh a b) sh a b (honZ sh a b) (hdQ x.snd) (y.snd.snd.snd : Int) y.fst y.snd.snd.fst ∧ y.snd.snd.snd ≤ (nW
sh a b) ∧ negs (nW sh a b) y.fst + y.snd.snd.fst.length = negsR (rowN (nW sh a b) x.fst) + (x.snd.snd.length - Int.toNat 1)) ∧ (nW sh a b) - y.snd.snd.snd < (nW sh a b) - x_1.snd.snd.snd ∧ False) ∨ ∃ (y : (Nat → Int) ×
List D × List Nat × Nat), (bfsI (nW sh a b) sh a b (honZ sh a b) (hdQ x.snd) (y.snd.snd.snd : Int) y.fst y.snd.snd.fst ∧ y.snd.snd.snd ≤ (nW sh a b) ∧ negs (nW sh a b) y.fst + y.snd.snd.fst.length = negsR (rowN (nW sh a
b) x.fst) + (x.snd.snd.length - Int.toNat 1)) ∧ (nW sh a b) - y.snd.snd.snd < (nW sh a b) - x_1.snd.snd.snd ∧ ((x_1.snd.snd.snd : Int) + 1 = (y.snd.snd.snd : Int) ∧ (x_1.snd.fst.length = y.snd.fst.length ∧
x_1.snd.snd.fst.length = y.snd.snd.fst.length ∧ True) ∧ True) ∧ x_1.snd.fst ++ rowQ x_1.snd.snd.fst = y.snd.fst ++ rowQ y.snd.snd.fst ∧ rowN (nW sh a b) x_1.fst = rowN (nW sh a b) y.fst ∧ True))) ∧ (((x_1.snd.snd.snd :
Int) < (↑(nW sh a b) : Int) → False) → (∃ (y : (Nat → Int) × List D × List Nat), bfsS (nW sh a b) sh a b (honZ sh a b) y.fst y.snd.snd ∧ negs (nW sh a b) y.fst + y.snd.snd.length < negs (nW sh a b) x.fst +
x.snd.snd.length ∧ False) ∨ ∃ (y : (Nat → Int) × List D × List Nat), bfsS (nW sh a b) sh a b (honZ sh a b) y.fst y.snd.snd ∧ negs (nW sh a b) y.fst + y.snd.snd.length < negs (nW sh a b) x.fst + x.snd.snd.length ∧
((x_1.snd.fst.length = y.snd.fst.length ∧ x_1.snd.snd.fst.length = y.snd.snd.length ∧ True) ∧ True) ∧ x_1.snd.fst ++ rowQ x_1.snd.snd.fst = y.snd.fst ++ rowQ y.snd.snd ∧ rowN (nW sh a b) x_1.fst = rowN (nW sh a b) y.fst
∧ True)) ∧ ((0 < (x.snd.snd.length : Int) → False) → (∃ (x_1 : Nat), x_1.le (rowN (nW sh a b) x.fst).length ∧ (0 = (x_1 : Int) ∧ True) ∧ rowN (nW sh a b) x.fst = fixR (rowN (nW sh a b) x.fst) x_1 ∧ True) ∧ ∀ (x_1 : Nat),
x_1.le (rowN (nW sh a b) x.fst).length → (rowN (nW sh a b) x.fst).length - x_1 < LIM ∧ ((x_1 : Int) < (↑(nW sh a b) : Int) → 0 ≤ (x_1 : Int) ∧ (x_1 : Int) < (↑(nW sh a b) : Int) ∧ x_1 < (fixR (rowN (nW sh a b) x.fst)
x_1).length ∧ ((nthD (fixR (rowN (nW sh a b) x.fst) x_1) x_1).asInt < 0 → 0 ≤ (x_1 : Int) ∧ (x_1 : Int) < (↑(nW sh a b) : Int) ∧ x_1 < (fixR (rowN (nW sh a b) x.fst) x_1).length ∧ ((-9223372036854775808) ≤ (x_1 : Int) +
1 ∧ (x_1 : Int) + 1 < 9223372036854775808) ∧ ∃ (y : Nat), y.le (rowN (nW sh a b) x.fst).length ∧ (rowN (nW sh a b) x.fst).length - y < (rowN (nW sh a b) x.fst).length - x_1 ∧ ((x_1 : Int) + 1 = (y : Int) ∧ True) ∧ (fixR
(rowN (nW sh a b) x.fst) x_1).set x_1 (D.int (↑(nW sh a b) : Int)) = fixR (rowN (nW sh a b) x.fst) y ∧ True) ∧ (((nthD (fixR (rowN (nW sh a b) x.fst) x_1) x_1).asInt < 0 → False) → ((-9223372036854775808) ≤ (x_1 : Int) +
1 ∧ (x_1 : Int) + 1 < 9223372036854775808) ∧ ∃ (y : Nat), y.le (rowN (nW sh a b) x.fst).length ∧ (rowN (nW sh a b) x.fst).length - y < (rowN (nW sh a b) x.fst).length - x_1 ∧ ((x_1 : Int) + 1 = (y : Int) ∧ True) ∧ fixR
(rowN (nW sh a b) x.fst) x_1 = fixR (rowN (nW sh a b) x.fst) y ∧ True)) ∧ (((x_1 : Int) < (↑(nW sh a b) : Int) → False) → 0 + (nW sh a b) ≤ (fixR (rowN (nW sh a b) x.fst) x_1).length ∧ D.list (List.take (nW sh a b) (fixR
(rowN (nW sh a b) x.fst) x_1)) = D.list (levelRow sh a b)))) ∧ ∀ (x : (Nat → Int) × List D × List Nat), bfsS (nW sh a b) sh a b (honZ sh a b) x.fst x.snd.snd → negs (nW sh a b) x.fst + x.snd.snd.length < LIM ∧ (0 <
(x.snd.snd.length : Int) → (0 : Int) ≤ 0 ∧ 0 < (x.snd.snd.length : Int) ∧ x.snd.fst.length + Int.toNat 0 < (x.snd.fst ++ rowQ x.snd.snd).length ∧ (0 : Int) ≤ 1 ∧ 1 ≤ (x.snd.snd.length : Int) ∧ ((x.snd.snd.length : Int) -
(x.snd.snd.length : Int)).NonNeg ∧ ((∃ (x_1 : (Nat → Int) × List D × List Nat × Nat), (bfsI (nW sh a b) sh a b (honZ sh a b) (hdQ x.snd) (x_1.snd.snd.snd : Int) x_1.fst x_1.snd.snd.fst ∧ x_1.snd.snd.snd ≤ (nW sh a b) ∧
negs (nW sh a b) x_1.fst + x_1.snd.snd.fst.length = negsR (rowN (nW sh a b) x.fst) + (x.snd.snd.length - Int.toNat 1)) ∧ (0 = (x_1.snd.snd.snd : Int) ∧ (x.snd.fst.length + Int.toNat 1 = x_1.snd.fst.length ∧
x.snd.snd.length - Int.toNat 1 = x_1.snd.snd.fst.length ∧ True) ∧ True) ∧ x.snd.fst ++ rowQ x.snd.snd = x_1.snd.fst ++ rowQ x_1.snd.snd.fst ∧ rowN (nW sh a b) x.fst = rowN (nW sh a b) x_1.fst ∧ True) ∨ ∃ (x_1 : (Nat →
Int) × List D × List Nat × Nat), (bfsI (nW sh a b) sh a b (honZ sh a b) (hdQ x.snd) (x_1.snd.snd.snd : Int) x_1.fst x_1.snd.snd.fst ∧ x_1.snd.snd.snd ≤ (nW sh a b) ∧ negs (nW sh a b) x_1.fst + x_1.snd.snd.fst.length =
negsR (rowN (nW sh a b) x.fst) + (x.snd.snd.length - Int.toNat 1)) ∧ False) ∧ (∀ (x_1 : (Nat → Int) × List D × List Nat × Nat), bfsI (nW sh a b) sh a b (honZ sh a b) (hdQ x.snd) (x_1.snd.snd.snd : Int) x_1.fst
x_1.snd.snd.fst ∧ x_1.snd.snd.snd ≤ (nW sh a b) ∧ negs (nW sh a b) x_1.fst + x_1.snd.snd.fst.length = negsR (rowN (nW sh a b) x.fst) + (x.snd.snd.length - Int.toNat 1) → (nW sh a b) - x_1.snd.snd.snd < LIM ∧
((x_1.snd.snd.snd : Int) < (↑(nW sh a b) : Int) → 0 ≤ (x_1.snd.snd.snd : Int) ∧ (x_1.snd.snd.snd : Int) < (↑(nW sh a b) : Int) ∧ x_1.snd.snd.snd < (rowN (nW sh a b) x_1.fst).length ∧ ((nthD (rowN (nW sh a b) x_1.fst)
x_1.snd.snd.snd).asInt < 0 → (inTab sh a b (hdQ x.snd) ∧ inTab sh a b (x_1.snd.snd.snd : Int)) ∧ (nearP sh a b (hdQ x.snd) (x_1.snd.snd.snd : Int) → 0 ≤ (hdQ x.snd) ∧ (hdQ x.snd) < (↑(nW sh a b) : Int) ∧ (hdQ
x.snd).toNat < (rowN (nW sh a b) x_1.fst).length ∧ ((-9223372036854775808) ≤ (nthD (rowN (nW sh a b) x_1.fst) (hdQ x.snd).toNat).asInt + 1 ∧ (nthD (rowN (nW sh a b) x_1.fst) (hdQ x.snd).toNat).asInt + 1 <
9223372036854775808) ∧ 0 ≤ (x_1.snd.snd.snd : Int) ∧ (x_1.snd.snd.snd : Int) < (↑(nW sh a b) : Int) ∧ x_1.snd.snd.snd < (rowN (nW sh a b) x_1.fst).length ∧ 0 + 1 ≤ [D.int (x_1.snd.snd.snd : Int)].length ∧
x_1.snd.fst.length + x_1.snd.snd.fst.length ≤ (x_1.snd.fst ++ rowQ x_1.snd.snd.fst).length ∧ x_1.snd.snd.fst.length + 1 ≤ 16777216 ∧ ((-9223372036854775808) ≤ (x_1.snd.snd.snd : Int) + 1 ∧ (x_1.snd.snd.snd : Int) + 1 <
9223372036854775808) ∧ ((∃ (y : (Nat → Int) × List D × List Nat × Nat), (bfsI (nW sh a b) sh a b (honZ sh a b) (hdQ x.snd) (y.snd.snd.snd : Int) y.fst y.snd.snd.fst ∧ y.snd.snd.snd ≤ (nW sh a b) ∧ negs (nW sh a b) y.fst
+ y.snd.snd.fst.length = negsR (rowN (nW sh a b) x.fst) + (x.snd.snd.length - Int.toNat 1)) ∧ (nW sh a b) - y.snd.snd.snd < (nW sh a b) - x_1.snd.snd.snd ∧ False) ∨ ∃ (y : (Nat → Int) × List D × List Nat × Nat), (bfsI
(nW sh a b) sh a b (honZ sh a b) (hdQ x.snd) (y.snd.snd.snd : Int) y.fst y.snd.snd.fst ∧ y.snd.snd.snd ≤ (nW sh a b) ∧ negs (nW sh a b) y.fst + y.snd.snd.fst.length = negsR (rowN (nW sh a b) x.fst) + (x.snd.snd.length -
Int.toNat 1)) ∧ (nW sh a b) - y.snd.snd.snd < (nW sh a b) - x_1.snd.snd.snd ∧ ((x_1.snd.snd.snd : Int) + 1 = (y.snd.snd.snd : Int) ∧ (0 = y.snd.fst.length ∧ x_1.snd.snd.fst.length + 1 = y.snd.snd.fst.length ∧ True) ∧
True) ∧ List.take x_1.snd.snd.fst.length (List.drop x_1.snd.fst.length (x_1.snd.fst ++ rowQ x_1.snd.snd.fst)) ++ List.take 1 [D.int (x_1.snd.snd.snd : Int)] = y.snd.fst ++ rowQ y.snd.snd.fst ∧ (rowN (nW sh a b)
x_1.fst).set x_1.snd.snd.snd (D.int ((nthD (rowN (nW sh a b) x_1.fst) (hdQ x.snd).toNat).asInt + 1)) = rowN (nW sh a b) y.fst ∧ True)) ∧ ((nearP sh a b (hdQ x.snd) (x_1.snd.snd.snd : Int) → False) →
((-9223372036854775808) ≤ (x_1.snd.snd.snd : Int) + 1 ∧ (x_1.snd.snd.snd : Int) + 1 < 9223372036854775808) ∧ ((∃ (y : (Nat → Int) × List D × List Nat × Nat), (bfsI (nW sh a b) sh a b (honZ sh a b) (hdQ x.snd)
(y.snd.snd.snd : Int) y.fst y.snd.snd.fst ∧ y.snd.snd.snd ≤ (nW sh a b) ∧ negs (nW sh a b) y.fst + y.snd.snd.fst.length = negsR (rowN (nW sh a b) x.fst) + (x.snd.snd.length - Int.toNat 1)) ∧ (nW sh a b) - y.snd.snd.snd <
(nW sh a b) - x_1.snd.snd.snd ∧ ((x_1.snd.snd.snd : Int) + 1 = (y.snd.snd.snd : Int) ∧ (x_1.snd.fst.length = y.snd.fst.length ∧ x_1.snd.snd.fst.length = y.snd.snd.fst.length ∧ True) ∧ True) ∧ x_1.snd.fst ++ rowQ
x_1.snd.snd.fst = y.snd.fst ++ rowQ y.snd.snd.fst ∧ rowN (nW sh a b) x_1.fst = rowN (nW sh a b) y.fst ∧ True) ∨ ∃ (y : (Nat → Int) × List D × List Nat × Nat), (bfsI (nW sh a b) sh a b (honZ sh a b) (hdQ x.snd)
(y.snd.snd.snd : Int) y.fst y.snd.snd.fst ∧ y.snd.snd.snd ≤ (nW sh a b) ∧ negs (nW sh a b) y.fst + y.snd.snd.fst.length = negsR (rowN (nW sh a b) x.fst) + (x.snd.snd.length - Int.toNat 1)) ∧ (nW sh a b) - y.snd.snd.snd <
(nW sh a b) - x_1.snd.snd.snd ∧ False))) ∧ (((nthD (rowN (nW sh a b) x_1.fst) x_1.snd.snd.snd).asInt < 0 → False) → ((-9223372036854775808) ≤ (x_1.snd.snd.snd : Int) + 1 ∧ (x_1.snd.snd.snd : Int) + 1 <
9223372036854775808) ∧ ((∃ (y : (Nat → Int) × List D × List Nat × Nat), (bfsI (nW sh a b) sh a b (honZ sh a b) (hdQ x.snd) (y.snd.snd.snd : Int) y.fst y.snd.snd.fst ∧ y.snd.snd.snd ≤ (nW sh a b) ∧ negs (nW sh a b) y.fst
+ y.snd.snd.fst.length = negsR (rowN (nW sh a b) x.fst) + (x.snd.snd.length - Int.toNat 1)) ∧ (nW sh a b) - y.snd.snd.snd < (nW sh a b) - x_1.snd.snd.snd ∧ ((x_1.snd.snd.snd : Int) + 1 = (y.snd.snd.snd : Int) ∧
(x_1.snd.fst.length = y.snd.fst.length ∧ x_1.snd.snd.fst.length = y.snd.snd.fst.length ∧ True) ∧ True) ∧ x_1.snd.fst ++ rowQ x_1.snd.snd.fst = y.snd.fst ++ rowQ y.snd.snd.fst ∧ rowN (nW sh a b) x_1.fst = rowN (nW sh a b)
y.fst ∧ True) ∨ ∃ (y : (Nat → Int) × List D × List Nat × Nat), (bfsI (nW sh a b) sh a b (honZ sh a b) (hdQ x.snd) (y.snd.snd.snd : Int) y.fst y.snd.snd.fst ∧ y.snd.snd.snd ≤ (nW sh a b) ∧ negs (nW sh a b) y.fst +
y.snd.snd.fst.length = negsR (rowN (nW sh a b) x.fst) + (x.snd.snd.length - Int.toNat 1)) ∧ (nW sh a b) - y.snd.snd.snd < (nW sh a b) - x_1.snd.snd.snd ∧ False))) ∧ (((x_1.snd.snd.snd : Int) < (↑(nW sh a b) : Int) →
False) → (∃ (y : (Nat → Int) × List D × List Nat), bfsS (nW sh a b) sh a b (honZ sh a b) y.fst y.snd.snd ∧ negs (nW sh a b) y.fst + y.snd.snd.length < negs (nW sh a b) x.fst + x.snd.snd.length ∧ False) ∨ ∃ (y : (Nat →
Int) × List D × List Nat), bfsS (nW sh a b) sh a b (honZ sh a b) y.fst y.snd.snd ∧ negs (nW sh a b) y.fst + y.snd.snd.length < negs (nW sh a b) x.fst + x.snd.snd.length ∧ ((x_1.snd.fst.length = y.snd.fst.length ∧
x_1.snd.snd.fst.length = y.snd.snd.length ∧ True) ∧ True) ∧ x_1.snd.fst ++ rowQ x_1.snd.snd.fst = y.snd.fst ++ rowQ y.snd.snd ∧ rowN (nW sh a b) x_1.fst = rowN (nW sh a b) y.fst ∧ True)) ∧ ∀ (x_1 : (Nat → Int) × List D ×
List Nat × Nat), bfsI (nW sh a b) sh a b (honZ sh a b) (hdQ x.snd) (x_1.snd.snd.snd : Int) x_1.fst x_1.snd.snd.fst ∧ x_1.snd.snd.snd ≤ (nW sh a b) ∧ negs (nW sh a b) x_1.fst + x_1.snd.snd.fst.length = negsR (rowN (nW sh
a b) x.fst) + (x.snd.snd.length - Int.toNat 1) → (nW sh a b) - x_1.snd.snd.snd < LIM ∧ ((x_1.snd.snd.snd : Int) < (↑(nW sh a b) : Int) → 0 ≤ (x_1.snd.snd.snd : Int) ∧ (x_1.snd.snd.snd : Int) < (↑(nW sh a b) : Int) ∧
x_1.snd.snd.snd < (rowN (nW sh a b) x_1.fst).length ∧ ((nthD (rowN (nW sh a b) x_1.fst) x_1.snd.snd.snd).asInt < 0 → (inTab sh a b (hdQ x.snd) ∧ inTab sh a b (x_1.snd.snd.snd : Int)) ∧ (nearP sh a b (hdQ x.snd)
(x_1.snd.snd.snd : Int) → 0 ≤ (hdQ x.snd) ∧ (hdQ x.snd) < (↑(nW sh a b) : Int) ∧ (hdQ x.snd).toNat < (rowN (nW sh a b) x_1.fst).length ∧ ((-9223372036854775808) ≤ (nthD (rowN (nW sh a b) x_1.fst) (hdQ x.snd).toNat).asInt
+ 1 ∧ (nthD (rowN (nW sh a b) x_1.fst) (hdQ x.snd).toNat).asInt + 1 < 9223372036854775808) ∧ 0 ≤ (x_1.snd.snd.snd : Int) ∧ (x_1.snd.snd.snd : Int) < (↑(nW sh a b) : Int) ∧ x_1.snd.snd.snd < (rowN (nW sh a b)
x_1.fst).length ∧ 0 + 1 ≤ [D.int (x_1.snd.snd.snd : Int)].length ∧ x_1.snd.fst.length + x_1.snd.snd.fst.length ≤ (x_1.snd.fst ++ rowQ x_1.snd.snd.fst).length ∧ x_1.snd.snd.fst.length + 1 ≤ 16777216 ∧
((-9223372036854775808) ≤ (x_1.snd.snd.snd : Int) + 1 ∧ (x_1.snd.snd.snd : Int) + 1 < 9223372036854775808) ∧ ((∃ (y : (Nat → Int) × List D × List Nat × Nat), (bfsI (nW sh a b) sh a b (honZ sh a b) (hdQ x.snd)
(y.snd.snd.snd : Int) y.fst y.snd.snd.fst ∧ y.snd.snd.snd ≤ (nW sh a b) ∧ negs (nW sh a b) y.fst + y.snd.snd.fst.length = negsR (rowN (nW sh a b) x.fst) + (x.snd.snd.length - Int.toNat 1)) ∧ (nW sh a b) - y.snd.snd.snd <
(nW sh a b) - x_1.snd.snd.snd ∧ False) ∨ ∃ (y : (Nat → Int) × List D × List Nat × Nat), (bfsI (nW sh a b) sh a b (honZ sh a b) (hdQ x.snd) (y.snd.snd.snd : Int) y.fst y.snd.snd.fst ∧ y.snd.snd.snd ≤ (nW sh a b) ∧ negs
(nW sh a b) y.fst + y.snd.snd.fst.length = negsR (rowN (nW sh a b) x.fst) + (x.snd.snd.length - Int.toNat 1)) ∧ (nW sh a b) - y.snd.snd.snd < (nW sh a b) - x_1.snd.snd.snd ∧ ((x_1.snd.snd.snd : Int) + 1 = (y.snd.snd.snd
: Int) ∧ (0 = y.snd.fst.length ∧ x_1.snd.snd.fst.length + 1 = y.snd.snd.fst.length ∧ True) ∧ True) ∧ List.take x_1.snd.snd.fst.length (List.drop x_1.snd.fst.length (x_1.snd.fst ++ rowQ x_1.snd.snd.fst)) ++ List.take 1
[D.int (x_1.snd.snd.snd : Int)] = y.snd.fst ++ rowQ y.snd.snd.fst ∧ (rowN (nW sh a b) x_1.fst).set x_1.snd.snd.snd (D.int ((nthD (rowN (nW sh a b) x_1.fst) (hdQ x.snd).toNat).asInt + 1)) = rowN (nW sh a b) y.fst ∧ True))
∧ ((nearP sh a b (hdQ x.snd) (x_1.snd.snd.snd : Int) → False) → ((-9223372036854775808) ≤ (x_1.snd.snd.snd : Int) + 1 ∧ (x_1.snd.snd.snd : Int) + 1 < 9223372036854775808) ∧ ((∃ (y : (Nat → Int) × List D × List Nat ×
Nat), (bfsI (nW sh a b) sh a b (honZ sh a b) (hdQ x.snd) (y.snd.snd.snd : Int) y.fst y.snd.snd.fst ∧ y.snd.snd.snd ≤ (nW sh a b) ∧ negs (nW sh a b) y.fst + y.snd.snd.fst.length = negsR (rowN (nW sh a b) x.fst) +
(x.snd.snd.length - Int.toNat 1)) ∧ (nW sh a b) - y.snd.snd.snd < (nW sh a b) - x_1.snd.snd.snd ∧ False) ∨ ∃ (y : (Nat → Int) × List D × List Nat × Nat), (bfsI (nW sh a b) sh a b (honZ sh a b) (hdQ x.snd) (y.snd.snd.snd
: Int) y.fst y.snd.snd.fst ∧ y.snd.snd.snd ≤ (nW sh a b) ∧ negs (nW sh a b) y.fst + y.snd.snd.fst.length = negsR (rowN (nW sh a b) x.fst) + (x.snd.snd.length - Int.toNat 1)) ∧ (nW sh a b) - y.snd.snd.snd < (nW sh a b) -
x_1.snd.snd.snd ∧ ((x_1.snd.snd.snd : Int) + 1 = (y.snd.snd.snd : Int) ∧ (x_1.snd.fst.length = y.snd.fst.length ∧ x_1.snd.snd.fst.length = y.snd.snd.fst.length ∧ True) ∧ True) ∧ x_1.snd.fst ++ rowQ x_1.snd.snd.fst =
y.snd.fst ++ rowQ y.snd.snd.fst ∧ rowN (nW sh a b) x_1.fst = rowN (nW sh a b) y.fst ∧ True))) ∧ (((nthD (rowN (nW sh a b) x_1.fst) x_1.snd.snd.snd).asInt < 0 → False) → ((-9223372036854775808) ≤ (x_1.snd.snd.snd : Int) +
1 ∧ (x_1.snd.snd.snd : Int) + 1 < 9223372036854775808) ∧ ((∃ (y : (Nat → Int) × List D × List Nat × Nat), (bfsI (nW sh a b) sh a b (honZ sh a b) (hdQ x.snd) (y.snd.snd.snd : Int) y.fst y.snd.snd.fst ∧ y.snd.snd.snd ≤ (nW
sh a b) ∧ negs (nW sh a b) y.fst + y.snd.snd.fst.length = negsR (rowN (nW sh a b) x.fst) + (x.snd.snd.length - Int.toNat 1)) ∧ (nW sh a b) - y.snd.snd.snd < (nW sh a b) - x_1.snd.snd.snd ∧ False) ∨ ∃ (y : (Nat → Int) ×
List D × List Nat × Nat), (bfsI (nW sh a b) sh a b (honZ sh a b) (hdQ x.snd) (y.snd.snd.snd : Int) y.fst y.snd.snd.fst ∧ y.snd.snd.snd ≤ (nW sh a b) ∧ negs (nW sh a b) y.fst + y.snd.snd.fst.length = negsR (rowN (nW sh a
b) x.fst) + (x.snd.snd.length - Int.toNat 1)) ∧ (nW sh a b) - y.snd.snd.snd < (nW sh a b) - x_1.snd.snd.snd ∧ ((x_1.snd.snd.snd : Int) + 1 = (y.snd.snd.snd : Int) ∧ (x_1.snd.fst.length = y.snd.fst.length ∧
x_1.snd.snd.fst.length = y.snd.snd.fst.length ∧ True) ∧ True) ∧ x_1.snd.fst ++ rowQ x_1.snd.snd.fst = y.snd.fst ++ rowQ y.snd.snd.fst ∧ rowN (nW sh a b) x_1.fst = rowN (nW sh a b) y.fst ∧ True))) ∧ (((x_1.snd.snd.snd :
Int) < (↑(nW sh a b) : Int) → False) → (∃ (y : (Nat → Int) × List D × List Nat), bfsS (nW sh a b) sh a b (honZ sh a b) y.fst y.snd.snd ∧ negs (nW sh a b) y.fst + y.snd.snd.length < negs (nW sh a b) x.fst +
x.snd.snd.length ∧ False) ∨ ∃ (y : (Nat → Int) × List D × List Nat), bfsS (nW sh a b) sh a b (honZ sh a b) y.fst y.snd.snd ∧ negs (nW sh a b) y.fst + y.snd.snd.length < negs (nW sh a b) x.fst + x.snd.snd.length ∧
((x_1.snd.fst.length = y.snd.fst.length ∧ x_1.snd.snd.fst.length = y.snd.snd.length ∧ True) ∧ True) ∧ x_1.snd.fst ++ rowQ x_1.snd.snd.fst = y.snd.fst ++ rowQ y.snd.snd ∧ rowN (nW sh a b) x_1.fst = rowN (nW sh a b) y.fst
∧ True)) ∧ ((0 < (x.snd.snd.length : Int) → False) → (∃ (x_1 : Nat), x_1.le (rowN (nW sh a b) x.fst).length ∧ (0 = (x_1 : Int) ∧ True) ∧ rowN (nW sh a b) x.fst = fixR (rowN (nW sh a b) x.fst) x_1 ∧ True) ∧ ∀ (x_1 : Nat),
x_1.le (rowN (nW sh a b) x.fst).length → (rowN (nW sh a b) x.fst).length - x_1 < LIM ∧ ((x_1 : Int) < (↑(nW sh a b) : Int) → 0 ≤ (x_1 : Int) ∧ (x_1 : Int) < (↑(nW sh a b) : Int) ∧ x_1 < (fixR (rowN (nW sh a b) x.fst)
x_1).length ∧ ((nthD (fixR (rowN (nW sh a b) x.fst) x_1) x_1).asInt < 0 → 0 ≤ (x_1 : Int) ∧ (x_1 : Int) < (↑(nW sh a b) : Int) ∧ x_1 < (fixR (rowN (nW sh a b) x.fst) x_1).length ∧ ((-9223372036854775808) ≤ (x_1 : Int) +
1 ∧ (x_1 : Int) + 1 < 9223372036854775808) ∧ ∃ (y : Nat), y.le (rowN (nW sh a b) x.fst).length ∧ (rowN (nW sh a b) x.fst).length - y < (rowN (nW sh a b) x.fst).length - x_1 ∧ ((x_1 : Int) + 1 = (y : Int) ∧ True) ∧ (fixR
(rowN (nW sh a b) x.fst) x_1).set x_1 (D.int (↑(nW sh a b) : Int)) = fixR (rowN (nW sh a b) x.fst) y ∧ True) ∧ (((nthD (fixR (rowN (nW sh a b) x.fst) x_1) x_1).asInt < 0 → False) → ((-9223372036854775808) ≤ (x_1 : Int) +
1 ∧ (x_1 : Int) + 1 < 9223372036854775808) ∧ ∃ (y : Nat), y.le (rowN (nW sh a b) x.fst).length ∧ (rowN (nW sh a b) x.fst).length - y < (rowN (nW sh a b) x.fst).length - x_1 ∧ ((x_1 : Int) + 1 = (y : Int) ∧ True) ∧ fixR
(rowN (nW sh a b) x.fst) x_1 = fixR (rowN (nW sh a b) x.fst) y ∧ True)) ∧ (((x_1 : Int) < (↑(nW sh a b) : Int) → False) → 0 + (nW sh a b) ≤ (fixR (rowN (nW sh a b) x.fst) x_1).length ∧ D.list (List.take (nW sh a b) (fixR
(rowN (nW sh a b) x.fst) x_1)) = D.list (levelRow sh a b)))))) ∧ ((0 : Int) < 0 → False))) := by intros; kernel_rfl
theorem hon_in {sh a b : Int} (h : sizeZ sh a b ≠ 0) : inTab sh a b (honZ sh a b) := by
 have hs := size_cases h
 refine ⟨h, ?_⟩
 have hd : a.tdiv 2 = a / 2 ∨ a < 0 := by
  by_cases h : 0 ≤ a
  ·exact .inl (Int.tdiv_eq_ediv_of_nonneg h)
  ·exact .inr (by omega)
 unfold honZ
 split
 ·omega
 ·split
  ·split <;> omega
  ·split <;> omega
theorem len_fixR {row : List D} {x : Nat} (h : x ≤ row.length) : (fixR row x).length = row.length := by
 unfold fixR; simp; omega
theorem nthD_get : ∀ (l : List D) (i : Nat) (h : i < l.length), nthD l i = l[i]
 | d :: _, 0, _ => rfl
 | _ :: l, i + 1, h => nthD_get l i (by simpa using h)
theorem nth_fixR {row : List D} {x : Nat} (h : x < row.length) : nthD (fixR row x) x = nthD row x := by
 have h1 : x < (fixR row x).length := by rw [len_fixR (by omega)]; exact h
 rw [nthD_get _ _ h1, nthD_get _ _ h]
 simp only [fixR]
 rw [List.getElem_append_right (by simp; omega)]
 simp
 congr 1; omega
theorem fixR_succ {row : List D} {x : Nat} (h : x < row.length) : fixR row (x + 1) = (row.take x).map (fun d => if d.asInt < 0 then .int row.length else d) ++ (if (nthD row x).asInt < 0 then D.int row.length else nthD row x) :: row.drop (x + 1) := by
 unfold fixR
 rw [List.take_succ_eq_append_getElem h, List.map_append, List.append_assoc, nthD_get _ _ h]
 rfl
theorem fixR_neg {row : List D} {x : Nat} (h : x < row.length) (hn : (nthD row x).asInt < 0) : (fixR row x).set x (.int row.length) = fixR row (x + 1) := by
 rw [fixR_succ h, if_pos hn]
 unfold fixR
 rw [List.set_append_right _ _ (by simp; omega), List.drop_eq_getElem_cons h]
 have : x - (List.map (fun d => if d.asInt < 0 then D.int row.length else d) (List.take x row)).length = 0 := by simp; omega
 rw [this]; rfl
theorem fixR_pos {row : List D} {x : Nat} (h : x < row.length) (hn : ¬ (nthD row x).asInt < 0) : fixR row x = fixR row (x + 1) := by
 rw [fixR_succ h, if_neg hn, nthD_get _ _ h]
 unfold fixR
 rw [List.drop_eq_getElem_cons h]
theorem s149 (nm : List UInt8) (sh a b : Int) (o : D) (x y : Int) (h : sizeZ sh a b ≠ 0) : symFun (ctx seat2 l2Ann) 6 149 [.agg [.str nm, .int .u8 sh, .int .i64 a, .int .i64 b, .dat 29 o, .int .i64 x, .int .i64 y]] (.int .i64 (honZ sh a b)) := by
 have hs := size_cases h
 have hd : a.tdiv 2 = a / 2 := Int.tdiv_eq_ediv_of_nonneg (by omega)
 rw [vc149]
 simp only [imp_false, honZ, hd]
 refine ⟨fun h1 => by rw [if_pos h1], fun h1 => ⟨fun h2 => ⟨fun h3 => ⟨by omega, ⟨by omega, by omega⟩, ?_⟩, fun h3 => ?_⟩, fun h2 => ⟨fun h3 => ⟨by omega, ⟨by omega, by omega⟩, ⟨by omega, by omega⟩, ?_⟩, fun h3 => ⟨fun h4 => ⟨by omega, ⟨by omega, by omega⟩, ?_⟩, fun h4 => by omega⟩⟩⟩⟩
 ·rw [if_neg h1, if_pos h2, if_pos h3]
 ·rw [if_neg h1, if_pos h2, if_neg h3]
 ·rw [if_neg h1, if_neg h2, if_pos h3]
 ·rw [if_neg h1, if_neg h2, if_neg h3]
theorem s109 (nm : List UInt8) (sh a b : Int) (o : D) (x y : Int) (h0 : sizeZ sh a b ≠ 0) : symFun (ctx seat4 l2Ann) 9 109 [.agg [.str nm, .int .u8 sh, .int .i64 a, .int .i64 b, .dat 29 o, .int .i64 x, .int .i64 y]] (.dat 29 (.list (levelRow sh a b))) := by
 have h := hon_in h0
 have hs := size_cases h.out.1
 have hk := h.out.2
 have h24 : 0 < sizeZ sh a b ∧ sizeZ sh a b ≤ 24 := by omega
 have hT : ∀ m : Int, inTab sh a b m ↔ 0 ≤ m ∧ m < sizeZ sh a b := fun m => ⟨fun h => h.out.2, fun h' => ⟨h.out.1, h'⟩⟩
 rw [vc109]
 unfold nW hdQ
 have hlv : levelRow sh a b = fixR (distRow (sizeZ sh a b).toNat sh a b (honZ sh a b)) (sizeZ sh a b).toNat := rfl
 rw [hlv]
 have e3 : (ctx seat4 l2Ann).P.types[(3 : Nat)].bytes = 8 := rfl
 obtain ⟨n, hn⟩ : ∃ n : Nat, sizeZ sh a b = n := ⟨(sizeZ sh a b).toNat, by omega⟩
 rw [hn] at hk h24
 have e1 := wrapU (n := n) (by omega) h24.2
 have e2 := wrapI (n := n) (by omega) h24.2
 simp only [hT, hn, e1, e2, e3, Int.toNat_natCast, len_rowN, len_rowQ, negsR_row, List.length_append, List.length_replicate, List.length_cons, List.length_nil, Int.toNat_zero, Int.toNat_one, Nat.zero_add, Nat.add_zero, true_and, and_true, and_false, exists_false, exists_const, or_false, false_or, imp_false, Classical.not_not, Int.ofNat_lt, Int.natCast_nonneg, Int.natCast_inj]
 clear e1 e2 e3 hT hlv
 generalize honZ sh a b = k at *
 refine ⟨by omega, by omega, by omega, fun _ => ⟨⟨rfl, by omega⟩, fun _ => ⟨by omega, fun _ => ⟨by omega, by omega, by omega, by omega, by omega, by omega, by omega, ⟨1, ⟨by omega, by omega⟩, by omega, rowF_one (by omega)⟩, fun x hx => ⟨by unfold LIM; omega, fun hlt => ?A, fun hge => ?B⟩⟩⟩, by omega⟩⟩
 case A =>
  have hF := len_rowF hx.2
  refine ⟨by omega, nonneg_of (by omega), by omega, nonneg_of (by omega), by omega, by omega, by omega, by omega, ⟨by omega, by omega⟩, x + min x (n - x), ⟨by omega, by omega⟩, by omega, by omega, rowF_step hx.2⟩
 case B =>
  have hF := len_rowF hx.2
  have hxn : x = n := by omega
  subst hxn
  refine ⟨hk.1, hk.2, by omega, ⟨(upd (fun _ => -1) k.toNat 0, [], [k.toNat]), bfsS.start hk.1 hk.2, ⟨rfl, rfl, rfl⟩, ?_, ?_⟩, ?O0, ?O1⟩
  ·show [D.int k] = [D.int (k.toNat : Int)]
   rw [Int.toNat_of_nonneg hk.1]
  ·rw [rowF_full, set_rowN]
  all_goals
   rintro ⟨L, pre, Q⟩ hb
   have hlen := hb.len
   refine ⟨by unfold LIM; simp only at hlen ⊢; omega, fun h0 => ?_, fun h0 => ?_⟩
   rotate_left
   ·have hQ : Q = [] := List.eq_nil_of_length_eq_zero (by simp only at h0; omega)
    subst hQ
    have hrow := bfsS.finish hb
    simp only at hrow ⊢
    rw [← hrow]
    have hln := len_rowN x L
    refine ⟨⟨0, Nat.zero_le _, rfl, by simp [fixR]⟩, fun z hz => ?_⟩
    have hz' : z ≤ x := hz
    have hfl : (fixR (rowN x L) z).length = x := by rw [len_fixR (by omega)]; exact hln
    refine ⟨by unfold LIM; omega, fun hlt => ⟨by omega, by omega, fun hneg => ⟨by omega, by omega, ⟨by omega, by omega⟩, z + 1, hlt, by omega, by omega, ?_⟩, fun hneg => ⟨⟨by omega, by omega⟩, z + 1, hlt, by omega, by omega, ?_⟩⟩, fun hge => ⟨by omega, ?_⟩⟩
    ·rw [nth_fixR (by omega)] at hneg
     have := fixR_neg (row := rowN x L) (x := z) (by omega) hneg
     rw [hln] at this; exact this
    ·rw [nth_fixR (by omega)] at hneg
     exact fixR_pos (by omega) hneg
    ·have e : z = x := by omega
     subst e
     rw [List.take_of_length_le (by omega)]
   cases Q with
   | nil => exact absurd h0 (by simp)
   | cons q Q =>
    have hq : q < x := (hb.out.q q List.mem_cons_self).1
    simp only [nth_queue, List.length_cons] at hlen ⊢
    refine ⟨by omega, by omega, by omega, by omega, by omega, nonneg_of (by omega), ⟨(L, pre ++ [D.int (q : Int)], Q, 0), ?_⟩, ?_, ?_⟩
    ·refine ⟨⟨bfsS.enter hb, Nat.zero_le _, ?_⟩, by simp, by simp [rowQ], rfl⟩
     show negs x L + Q.length = negs x L + (Q.length + 1 - 1); omega
    all_goals
     rintro ⟨L1, p1, Q1, i⟩ ⟨hI, hle, hng⟩
     simp only at hI hle hng ⊢
     have hlen' : negs x L + (Q.length + 1) ≤ x := hlen
     refine ⟨by unfold LIM; omega, fun hi => ?_, fun hi => ⟨(L1, p1, Q1), hI.leave hi hle (by omega), ?_⟩⟩
     ·have hL := nth_rowN L1 hi
      have hLq := nth_rowN L1 hq
      simp only [hL, hLq, Int.toNat_natCast]
      refine ⟨hi, hi, fun hneg => ⟨⟨⟨by omega, by omega⟩, hi⟩, fun hn => ?_, fun hn => ⟨⟨by omega, by omega⟩, (L1, p1, Q1, i + 1), ⟨hI.skip fun h => hn h.2, hi, hng⟩, ?_⟩⟩, fun hneg => ⟨⟨by omega, by omega⟩, (L1, p1, Q1, i + 1), ⟨hI.skip fun h => hneg h.1, hi, hng⟩, ?_⟩⟩
      ·obtain ⟨hs1, hs2⟩ := hI.step hi hneg hn
       have lq := hI.low q hq
       have hrow := set_rowN (n := x) (i := i) L1 (L1 q + 1)
       have hge : 0 ≤ L1 q := by obtain ⟨d, hd⟩ := hI.out; have := hd.here.2; simp only [Int.toNat_natCast] at this; omega
       repeat' (first | apply And.intro | intro _)
       all_goals first
        | omega
        | (exfalso; omega)
        | (refine ⟨(upd L1 i (L1 q + 1), [], Q1 ++ [i], i + 1), ⟨hs1, hi, ?_⟩, ?_, ?_, ?_, hrow⟩
           ·show negs x (upd L1 i (L1 q + 1)) + (Q1 ++ [i]).length = _
            simp only [List.length_append, List.length_cons, List.length_nil]; omega
           ·show x - (i + 1) < x - i; omega
           ·simp
           ·simp only [List.nil_append, rowQ, List.map_append, List.drop_left, List.map_cons, List.map_nil, List.take_succ_cons, List.take_zero]
            rw [List.take_of_length_le (by simp)])
      ·exact ⟨by show x - (i + 1) < x - i; omega, by simp, rfl, rfl⟩
      ·exact ⟨by show x - (i + 1) < x - i; omega, by simp, rfl, rfl⟩
     ·exact ⟨by show negs x L1 + Q1.length < negs x L + (Q.length + 1); omega, by simp, rfl, rfl⟩
theorem v149 : ∀ d, 43 ≤ d → VC d 149 con149 := fun d hd =>
 valid_of_sym (C := ctx seat2 l2Ann) (G := GC) (B := 37) (m := 6) rfl rfl rfl vs2 (fun us p r hc hp ht => by
  unfold con149 at hc; split at hc
  ·cases hc; exact s149 _ _ _ _ _ _ _ hp
  ·cases hc) (fun _ _ => rfl) rfl rfl d hd
theorem vs4 : ∀ d, 43 ≤ d → ∀ g c, seat4 g = some c → VC d g c := fun d hd g c h => by
 unfold seat4 at h
 split at h
 ·cases h; exact v149 d hd
 ·exact vs2 d (by omega) _ c h
theorem v109 : ∀ d, 52 ≤ d → VC d 109 con109 := fun d hd =>
 valid_of_sym (C := ctx seat4 l2Ann) (G := GC) (B := 43) (m := 9) rfl rfl rfl vs4 (fun us p r hc hp ht => by
  unfold con109 at hc; split at hc
  ·cases hc; exact s109 _ _ _ _ _ _ _ hp
  ·cases hc) (fun _ _ => rfl) rfl rfl d hd
theorem len_levelRow (sh a b : Int) : (levelRow sh a b).length = (sizeZ sh a b).toNat := by
 unfold levelRow
 rw [len_fixR (by rw [len_dist]; exact Nat.le_refl _), len_dist]
theorem vs5 : ∀ d, 52 ≤ d → ∀ g c, seat5 g = some c → VC d g c := fun d hd g c h => by
 unfold seat5 at h
 split at h
 ·cases h; exact v109 d hd
 ·cases h; exact v149 d (by omega)
 ·exact vs3 d (by omega) _ c h
end Go.Ev

end

section
open Go.Proofs
namespace Go.Ev
set_option maxRecDepth 100000
set_option maxHeartbeats 4000000
theorem nth_mapR (f : Nat → D) (n i : Nat) (h : i < n) : nthD ((List.range n).map f) i = f i := by
 unfold nthD; rw [List.getElem?_map, List.getElem?_range h]; rfl
theorem rows_ext {a b : List D} (hl : a.length = b.length) (h : ∀ i, i < a.length → nthD a i = nthD b i) : a = b := by
 apply List.ext_getElem hl
 intro i h1 h2
 have := h i h1
 rw [nthD_get _ _ h1, nthD_get _ _ h2] at this; exact this
theorem nth_setR (l : List D) (i j : Nat) (d : D) (h : j < l.length) : nthD (l.set i d) j = if i = j then d else nthD l j := by
 unfold nthD; rw [List.getElem?_set]
 split
 ·rename_i e; subst e; rw [if_pos h]; rfl
 ·rfl
section
variable {sh a b first : Int} {n : Nat}
theorem pl_len (x y : Nat) : (placedL sh a b n x y).length = n := by simp [placedL]
theorem pl_nth {x y m : Nat} (h : m < n) : nthD (placedL sh a b n x y) m = D.bool (placed2 sh a b n x y m) := nth_mapR _ _ _ h
theorem pl_congr {x y x' y' : Nat} (h : ∀ m, m < n → (placed2 sh a b n x y m ↔ placed2 sh a b n x' y' m)) : placedL sh a b n x y = placedL sh a b n x' y' := by
 unfold placedL
 apply List.map_congr_left
 intro m hm
 rw [propext (h m (List.mem_range.1 hm))]
theorem pl_zero : List.replicate n (D.bool (false = true)) = placedL sh a b n 0 0 := by
 refine rows_ext (by simp [pl_len]) fun i hi => ?_
 have hi : i < n := by simpa using hi
 rw [pl_nth hi]
 have : placed2 sh a b n 0 0 i = (false = true) := propext ⟨fun h => by
  rcases h.out with h | h
  ·obtain ⟨k, hk, _⟩ := h.out; omega
  ·omega, fun h => by cases h⟩
 rw [this]
 unfold nthD
 rw [List.getElem?_replicate, if_pos hi]; rfl
theorem pl_set {x y : Nat} (hy : y < n) (hr : reachP sh a b n x y) : (placedL sh a b n x y).set y (D.bool True) = placedL sh a b n x (y + 1) := by
 refine rows_ext (by simp [pl_len]) fun i hi => ?_
 have hi : i < n := by simpa [pl_len] using hi
 rw [nth_setR _ _ _ _ (by rw [pl_len]; exact hi), pl_nth hi, pl_nth hi]
 split
 ·rename_i e
  subst e
  have : placed2 sh a b n x (y + 1) y = True := propext ⟨fun _ => trivial, fun _ => ⟨.inr ⟨by omega, hr⟩⟩⟩
  rw [this]
 ·rename_i e
  have : placed2 sh a b n x (y + 1) i = placed2 sh a b n x y i := propext ⟨fun h => ⟨h.out.imp id fun g => ⟨by omega, g.2⟩⟩, fun h => ⟨h.out.imp id fun g => ⟨by omega, g.2⟩⟩⟩
  rw [this]
theorem pl_far {x y : Nat} (hr : ¬ reachP sh a b n x y) : placedL sh a b n x y = placedL sh a b n x (y + 1) := pl_congr fun m _ =>
 ⟨fun h => ⟨h.out.imp id fun g => ⟨by omega, g.2⟩⟩, fun h => ⟨h.out.imp id fun g => ⟨by
  rcases Nat.lt_succ_iff_lt_or_eq.1 g.1 with e | e
  ·exact e
  ·subst e; exact absurd g.2 hr, g.2⟩⟩⟩
theorem pl_row {x : Nat} : placedL sh a b n x n = placedL sh a b n (x + 1) 0 := pl_congr fun m hm =>
 ⟨fun h => ⟨.inl (h.out.elim (fun g => by obtain ⟨k, h1, h2⟩ := g.out; exact ⟨k, by omega, h2⟩) (fun g => ⟨x, by omega, g.2⟩))⟩, fun h => by
  rcases h.out with g | g
  ·obtain ⟨k, h1, h2⟩ := g.out
   by_cases e : k = x
   ·subst e; exact ⟨.inr ⟨hm, h2⟩⟩
   ·exact ⟨.inl ⟨k, by omega, h2⟩⟩
  ·exact absurd g.1 (Nat.not_lt_zero _)⟩
theorem pl_skip {x : Nat} (hx : x < n) (hp : placedP sh a b n x x) : placedL sh a b n x 0 = placedL sh a b n (x + 1) 0 := pl_congr fun m hm =>
 ⟨fun h => by
  rcases h.out with g | g
  ·obtain ⟨k, h1, h2⟩ := g.out; exact ⟨.inl ⟨k, by omega, h2⟩⟩
  ·exact absurd g.1 (Nat.not_lt_zero _), fun h => by
  rcases h.out with g | g
  ·obtain ⟨k, h1, h2⟩ := g.out
   by_cases e : k = x
   ·subst e
    obtain ⟨k', h3, h4⟩ := hp.out
    exact ⟨.inl ⟨k', h3, reach_trans hx h4 h2⟩⟩
   ·exact ⟨.inl ⟨k, by omega, h2⟩⟩
  ·exact absurd g.1 (Nat.not_lt_zero _)⟩
theorem bm_near {k y : Nat} (h : reachP sh a b n k y) : blkMem sh a b first n k (y + 1) = blkMem sh a b first n k y ++ [.int (first + y)] := by
 unfold blkMem; rw [List.range_succ, List.filter_append, List.map_append]; simp [h]
theorem bm_far {k y : Nat} (h : ¬ reachP sh a b n k y) : blkMem sh a b first n k (y + 1) = blkMem sh a b first n k y := by
 unfold blkMem; rw [List.range_succ, List.filter_append, List.map_append]; simp [h]
theorem bm_len (k y : Nat) : (blkMem sh a b first n k y).length ≤ y := by
 unfold blkMem; rw [List.length_map]; exact Nat.le_trans (List.length_filter_le _ _) (by rw [List.length_range]; exact Nat.le_refl _)
theorem bm_self {k : Nat} (hk : k < n) : blkMem sh a b first n k n ≠ [] := fun h => by
 have : D.int (first + k) ∈ blkMem sh a b first n k n := by
  unfold blkMem
  exact List.mem_map.2 ⟨k, List.mem_filter.2 ⟨List.mem_range.2 hk, by simp [reach_self]⟩, rfl⟩
 rw [h] at this; cases this
theorem bl_lead {x : Nat} (h : ¬ placedP sh a b n x x) : blkL sh a b first n (x + 1) = blkL sh a b first n x ++ [.list (blkMem sh a b first n x n)] := by
 unfold blkL; rw [List.range_succ, List.filter_append, List.map_append]; simp [h]
theorem bl_skip {x : Nat} (h : placedP sh a b n x x) : blkL sh a b first n (x + 1) = blkL sh a b first n x := by
 unfold blkL; rw [List.range_succ, List.filter_append, List.map_append]; simp [h]
theorem bl_len (x : Nat) : (blkL sh a b first n x).length ≤ x := by
 unfold blkL; rw [List.length_map]; exact Nat.le_trans (List.length_filter_le _ _) (by rw [List.length_range]; exact Nat.le_refl _)
end
end Go.Ev

end
