/-
  Part of the engine that the claim is proved with: it states nothing of the document by itself.
-/
import Derived.Test.YtfplgbngodmbiaaGreatDoorCoreG28
import Derived.Test.YtfplgbngodmbiaaGreatDoorCoreSeat
open Go.Proofs
namespace Go.Ev
set_option maxRecDepth 100000
set_option maxHeartbeats 4000000
theorem q170_0 : symFun (ctx num2 refAnn) 5 170 [.val (.int .u64 1), .val (.int .u64 0)] (.tup [.int .u64 0, .int .u64 0]) := cast (Eq.symm (show symFun (ctx num2 refAnn) 5 170 [.val (.int .u64 1), .val (.int .u64 0)] (.tup [.int .u64 0, .int .u64 0]) = ((0 : Int) = 0 ∧ (0 : Int) = 0 ∧ True) from by kernel_rfl)) ⟨rfl, rfl, trivial⟩
theorem q170_1 : symFun (ctx num2 refAnn) 5 170 [.val (.int .u64 1), .val (.int .u64 1)] (.tup [.int .u64 0, .int .u64 1]) := cast (Eq.symm (show symFun (ctx num2 refAnn) 5 170 [.val (.int .u64 1), .val (.int .u64 1)] (.tup [.int .u64 0, .int .u64 1]) = ((0 : Int) = 0 ∧ (1 : Int) = 1 ∧ True) from by kernel_rfl)) ⟨rfl, rfl, trivial⟩
theorem q170_2 : symFun (ctx num2 refAnn) 5 170 [.val (.int .u64 1), .val (.int .u64 2)] (.tup [.int .u64 0, .int .u64 2]) := cast (Eq.symm (show symFun (ctx num2 refAnn) 5 170 [.val (.int .u64 1), .val (.int .u64 2)] (.tup [.int .u64 0, .int .u64 2]) = ((0 : Int) = 0 ∧ (2 : Int) = 2 ∧ True) from by kernel_rfl)) ⟨rfl, rfl, trivial⟩
theorem q170_3 : symFun (ctx num2 refAnn) 5 170 [.val (.int .u64 1), .val (.int .u64 3)] (.tup [.int .u64 0, .int .u64 3]) := cast (Eq.symm (show symFun (ctx num2 refAnn) 5 170 [.val (.int .u64 1), .val (.int .u64 3)] (.tup [.int .u64 0, .int .u64 3]) = ((0 : Int) = 0 ∧ (3 : Int) = 3 ∧ True) from by kernel_rfl)) ⟨rfl, rfl, trivial⟩
theorem q170_4 : symFun (ctx num2 refAnn) 5 170 [.val (.int .u64 1), .val (.int .u64 4)] (.tup [.int .u64 0, .int .u64 4]) := cast (Eq.symm (show symFun (ctx num2 refAnn) 5 170 [.val (.int .u64 1), .val (.int .u64 4)] (.tup [.int .u64 0, .int .u64 4]) = ((0 : Int) = 0 ∧ (4 : Int) = 4 ∧ True) from by kernel_rfl)) ⟨rfl, rfl, trivial⟩
theorem q170_5 : symFun (ctx num2 refAnn) 5 170 [.val (.int .u64 1), .val (.int .u64 5)] (.tup [.int .u64 0, .int .u64 5]) := cast (Eq.symm (show symFun (ctx num2 refAnn) 5 170 [.val (.int .u64 1), .val (.int .u64 5)] (.tup [.int .u64 0, .int .u64 5]) = ((0 : Int) = 0 ∧ (5 : Int) = 5 ∧ True) from by kernel_rfl)) ⟨rfl, rfl, trivial⟩
theorem q170_6 : symFun (ctx num2 refAnn) 5 170 [.val (.int .u64 1), .val (.int .u64 6)] (.tup [.int .u64 0, .int .u64 6]) := cast (Eq.symm (show symFun (ctx num2 refAnn) 5 170 [.val (.int .u64 1), .val (.int .u64 6)] (.tup [.int .u64 0, .int .u64 6]) = ((0 : Int) = 0 ∧ (6 : Int) = 6 ∧ True) from by kernel_rfl)) ⟨rfl, rfl, trivial⟩
theorem q170_7 : symFun (ctx num2 refAnn) 5 170 [.val (.int .u64 1), .val (.int .u64 7)] (.tup [.int .u64 0, .int .u64 7]) := cast (Eq.symm (show symFun (ctx num2 refAnn) 5 170 [.val (.int .u64 1), .val (.int .u64 7)] (.tup [.int .u64 0, .int .u64 7]) = ((0 : Int) = 0 ∧ (7 : Int) = 7 ∧ True) from by kernel_rfl)) ⟨rfl, rfl, trivial⟩
theorem q170_8 : symFun (ctx num2 refAnn) 5 170 [.val (.int .u64 1), .val (.int .u64 8)] (.tup [.int .u64 0, .int .u64 8]) := cast (Eq.symm (show symFun (ctx num2 refAnn) 5 170 [.val (.int .u64 1), .val (.int .u64 8)] (.tup [.int .u64 0, .int .u64 8]) = ((0 : Int) = 0 ∧ (8 : Int) = 8 ∧ True) from by kernel_rfl)) ⟨rfl, rfl, trivial⟩
theorem q170_9 : symFun (ctx num2 refAnn) 5 170 [.val (.int .u64 1), .val (.int .u64 9)] (.tup [.int .u64 0, .int .u64 9]) := cast (Eq.symm (show symFun (ctx num2 refAnn) 5 170 [.val (.int .u64 1), .val (.int .u64 9)] (.tup [.int .u64 0, .int .u64 9]) = ((0 : Int) = 0 ∧ (9 : Int) = 9 ∧ True) from by kernel_rfl)) ⟨rfl, rfl, trivial⟩
theorem q170_10 : symFun (ctx num2 refAnn) 5 170 [.val (.int .u64 1), .val (.int .u64 10)] (.tup [.int .u64 0, .int .u64 10]) := cast (Eq.symm (show symFun (ctx num2 refAnn) 5 170 [.val (.int .u64 1), .val (.int .u64 10)] (.tup [.int .u64 0, .int .u64 10]) = ((0 : Int) = 0 ∧ (10 : Int) = 10 ∧ True) from by kernel_rfl)) ⟨rfl, rfl, trivial⟩
theorem q170_11 : symFun (ctx num2 refAnn) 5 170 [.val (.int .u64 1), .val (.int .u64 11)] (.tup [.int .u64 0, .int .u64 11]) := cast (Eq.symm (show symFun (ctx num2 refAnn) 5 170 [.val (.int .u64 1), .val (.int .u64 11)] (.tup [.int .u64 0, .int .u64 11]) = ((0 : Int) = 0 ∧ (11 : Int) = 11 ∧ True) from by kernel_rfl)) ⟨rfl, rfl, trivial⟩
theorem q170_12 : symFun (ctx num2 refAnn) 5 170 [.val (.int .u64 1), .val (.int .u64 12)] (.tup [.int .u64 0, .int .u64 12]) := cast (Eq.symm (show symFun (ctx num2 refAnn) 5 170 [.val (.int .u64 1), .val (.int .u64 12)] (.tup [.int .u64 0, .int .u64 12]) = ((0 : Int) = 0 ∧ (12 : Int) = 12 ∧ True) from by kernel_rfl)) ⟨rfl, rfl, trivial⟩
theorem q170_13 : symFun (ctx num2 refAnn) 5 170 [.val (.int .u64 1), .val (.int .u64 13)] (.tup [.int .u64 0, .int .u64 13]) := cast (Eq.symm (show symFun (ctx num2 refAnn) 5 170 [.val (.int .u64 1), .val (.int .u64 13)] (.tup [.int .u64 0, .int .u64 13]) = ((0 : Int) = 0 ∧ (13 : Int) = 13 ∧ True) from by kernel_rfl)) ⟨rfl, rfl, trivial⟩
theorem q170_14 : symFun (ctx num2 refAnn) 5 170 [.val (.int .u64 1), .val (.int .u64 14)] (.tup [.int .u64 0, .int .u64 14]) := cast (Eq.symm (show symFun (ctx num2 refAnn) 5 170 [.val (.int .u64 1), .val (.int .u64 14)] (.tup [.int .u64 0, .int .u64 14]) = ((0 : Int) = 0 ∧ (14 : Int) = 14 ∧ True) from by kernel_rfl)) ⟨rfl, rfl, trivial⟩
theorem q170_15 : symFun (ctx num2 refAnn) 5 170 [.val (.int .u64 1), .val (.int .u64 15)] (.tup [.int .u64 0, .int .u64 15]) := cast (Eq.symm (show symFun (ctx num2 refAnn) 5 170 [.val (.int .u64 1), .val (.int .u64 15)] (.tup [.int .u64 0, .int .u64 15]) = ((0 : Int) = 0 ∧ (15 : Int) = 15 ∧ True) from by kernel_rfl)) ⟨rfl, rfl, trivial⟩
theorem q170_16 : symFun (ctx num2 refAnn) 5 170 [.val (.int .u64 1), .val (.int .u64 16)] (.tup [.int .u64 0, .int .u64 16]) := cast (Eq.symm (show symFun (ctx num2 refAnn) 5 170 [.val (.int .u64 1), .val (.int .u64 16)] (.tup [.int .u64 0, .int .u64 16]) = ((0 : Int) = 0 ∧ (16 : Int) = 16 ∧ True) from by kernel_rfl)) ⟨rfl, rfl, trivial⟩
theorem q170_17 : symFun (ctx num2 refAnn) 5 170 [.val (.int .u64 1), .val (.int .u64 17)] (.tup [.int .u64 0, .int .u64 17]) := cast (Eq.symm (show symFun (ctx num2 refAnn) 5 170 [.val (.int .u64 1), .val (.int .u64 17)] (.tup [.int .u64 0, .int .u64 17]) = ((0 : Int) = 0 ∧ (17 : Int) = 17 ∧ True) from by kernel_rfl)) ⟨rfl, rfl, trivial⟩
theorem q170_18 : symFun (ctx num2 refAnn) 5 170 [.val (.int .u64 1), .val (.int .u64 18)] (.tup [.int .u64 0, .int .u64 18]) := cast (Eq.symm (show symFun (ctx num2 refAnn) 5 170 [.val (.int .u64 1), .val (.int .u64 18)] (.tup [.int .u64 0, .int .u64 18]) = ((0 : Int) = 0 ∧ (18 : Int) = 18 ∧ True) from by kernel_rfl)) ⟨rfl, rfl, trivial⟩
theorem q170_19 : symFun (ctx num2 refAnn) 5 170 [.val (.int .u64 1), .val (.int .u64 19)] (.tup [.int .u64 0, .int .u64 19]) := cast (Eq.symm (show symFun (ctx num2 refAnn) 5 170 [.val (.int .u64 1), .val (.int .u64 19)] (.tup [.int .u64 0, .int .u64 19]) = ((0 : Int) = 0 ∧ (19 : Int) = 19 ∧ True) from by kernel_rfl)) ⟨rfl, rfl, trivial⟩
theorem q170_20 : symFun (ctx num2 refAnn) 5 170 [.val (.int .u64 1), .val (.int .u64 20)] (.tup [.int .u64 0, .int .u64 20]) := cast (Eq.symm (show symFun (ctx num2 refAnn) 5 170 [.val (.int .u64 1), .val (.int .u64 20)] (.tup [.int .u64 0, .int .u64 20]) = ((0 : Int) = 0 ∧ (20 : Int) = 20 ∧ True) from by kernel_rfl)) ⟨rfl, rfl, trivial⟩
theorem q170_21 : symFun (ctx num2 refAnn) 5 170 [.val (.int .u64 1), .val (.int .u64 21)] (.tup [.int .u64 0, .int .u64 21]) := cast (Eq.symm (show symFun (ctx num2 refAnn) 5 170 [.val (.int .u64 1), .val (.int .u64 21)] (.tup [.int .u64 0, .int .u64 21]) = ((0 : Int) = 0 ∧ (21 : Int) = 21 ∧ True) from by kernel_rfl)) ⟨rfl, rfl, trivial⟩
theorem q170_22 : symFun (ctx num2 refAnn) 5 170 [.val (.int .u64 1), .val (.int .u64 22)] (.tup [.int .u64 0, .int .u64 22]) := cast (Eq.symm (show symFun (ctx num2 refAnn) 5 170 [.val (.int .u64 1), .val (.int .u64 22)] (.tup [.int .u64 0, .int .u64 22]) = ((0 : Int) = 0 ∧ (22 : Int) = 22 ∧ True) from by kernel_rfl)) ⟨rfl, rfl, trivial⟩
theorem q170_23 : symFun (ctx num2 refAnn) 5 170 [.val (.int .u64 1), .val (.int .u64 23)] (.tup [.int .u64 0, .int .u64 23]) := cast (Eq.symm (show symFun (ctx num2 refAnn) 5 170 [.val (.int .u64 1), .val (.int .u64 23)] (.tup [.int .u64 0, .int .u64 23]) = ((0 : Int) = 0 ∧ (23 : Int) = 23 ∧ True) from by kernel_rfl)) ⟨rfl, rfl, trivial⟩
theorem q170_24 : symFun (ctx num2 refAnn) 5 170 [.val (.int .u64 1), .val (.int .u64 24)] (.tup [.int .u64 0, .int .u64 24]) := cast (Eq.symm (show symFun (ctx num2 refAnn) 5 170 [.val (.int .u64 1), .val (.int .u64 24)] (.tup [.int .u64 0, .int .u64 24]) = ((0 : Int) = 0 ∧ (24 : Int) = 24 ∧ True) from by kernel_rfl)) ⟨rfl, rfl, trivial⟩
theorem s170 (n : Int) (h0 : 0 ≤ n) (h1 : n ≤ 24) : symFun (ctx num2 refAnn) 5 170 [.val (.int .u64 1), .val (.int .u64 n)] (.tup [.int .u64 0, .int .u64 n]) := by
  have h : n = 0 ∨ n = 1 ∨ n = 2 ∨ n = 3 ∨ n = 4 ∨ n = 5 ∨ n = 6 ∨ n = 7 ∨ n = 8 ∨ n = 9 ∨ n = 10 ∨ n = 11 ∨ n = 12 ∨ n = 13 ∨ n = 14 ∨ n = 15 ∨ n = 16 ∨ n = 17 ∨ n = 18 ∨ n = 19 ∨ n = 20 ∨ n = 21 ∨ n = 22 ∨ n = 23 ∨ n = 24 := by omega
  rcases h with rfl | rfl | rfl | rfl | rfl | rfl | rfl | rfl | rfl | rfl | rfl | rfl | rfl | rfl | rfl | rfl | rfl | rfl | rfl | rfl | rfl | rfl | rfl | rfl | rfl
  · exact q170_0
  · exact q170_1
  · exact q170_2
  · exact q170_3
  · exact q170_4
  · exact q170_5
  · exact q170_6
  · exact q170_7
  · exact q170_8
  · exact q170_9
  · exact q170_10
  · exact q170_11
  · exact q170_12
  · exact q170_13
  · exact q170_14
  · exact q170_15
  · exact q170_16
  · exact q170_17
  · exact q170_18
  · exact q170_19
  · exact q170_20
  · exact q170_21
  · exact q170_22
  · exact q170_23
  · exact q170_24
noncomputable def con170v : Con := fun | [.val (.int .u64 a), .val (.int .u64 n)] => some (a = 1 ∧ 0 ≤ n ∧ n ≤ 24, .tup [.int .u64 0, .int .u64 n]) | _ => none
theorem v170v : ∀ d, 30 ≤ d → VC d 170 con170v := fun d hd =>
  valid_of_sym (C := ctx num2 refAnn) (G := GC) (B := 25) (m := 5) rfl rfl rfl vn2 (fun us p r hc hp ht => by
    unfold con170v at hc; split at hc
    · cases hc; obtain ⟨rfl, h0, h1⟩ := hp; exact s170 _ h0 h1
    · cases hc) (fun _ _ => rfl) rfl rfl d hd
theorem v170 : ∀ d, 30 ≤ d → VC d 170 con170 := fun d hd us p r hc hp σ H vs hst hl => by
  unfold con170 at hc; split at hc
  · rename_i a n
    cases hc
    obtain ⟨rfl, h0, h1⟩ := hp
    refine v170v d hd [.val (.int .u64 1), .val (.int .u64 n)] _ _ rfl ⟨rfl, h0, h1⟩ σ H vs hst ⟨by simpa using hl.1, fun j v v' hj hj' => ?_⟩
    match j, hj with
    | 0, hj =>
      cases hj
      have := hl.2 0 _ v' rfl hj'
      cases this; exact .val rfl
    | 1, hj =>
      cases hj
      have := hl.2 1 _ v' rfl hj'
      cases this; exact .val rfl
    | j + 2, hj => simp at hj
  · cases hc
-- 86
theorem vc86 : ∀ (nm : List UInt8) (sh a b : Int) (o : D) (x y k : Int), symFun (ctx seat2 distAnn) 8 (86 : FuncId) [V.agg [V.str nm, V.int IntKind.u8 sh, V.int IntKind.i64 a, V.int IntKind.i64 b, V.dat (29 : TypeId) o,
 V.int IntKind.i64 x, V.int IntKind.i64 y], V.int IntKind.i64 k] (V.dat (29 : TypeId) (D.list (distRow (sizeZ sh a b).toNat sh a b k))) = ((sizeZ sh a b = 0 → False) ∧ (sizeZ sh a b < 0 → False) ∧ ((sizeZ sh a b < 0 →
 False) → (Int.ofNat 1 = 1 ∧ 0 ≤ IntKind.u64.wrap (sizeZ sh a b) ∧ IntKind.u64.wrap (sizeZ sh a b) ≤ 24) ∧ (((0 : Int) < 0 → False) → (9223372036854775807 < IntKind.u64.wrap (sizeZ sh a b) → False) ∧ ((9223372036854775807
 < IntKind.u64.wrap (sizeZ sh a b) → False) → 0 ≤ IntKind.i64.wrap (IntKind.u64.wrap (sizeZ sh a b)) ∧ IntKind.i64.wrap (IntKind.u64.wrap (sizeZ sh a b)) ≤ IntKind.i64.wrap (IntKind.u64.wrap (sizeZ sh a b)) ∧
 IntKind.i64.wrap (IntKind.u64.wrap (sizeZ sh a b)) ≤ 16777216 ∧ (ctx seat2 distAnn).P.types[3].bytes * (nW sh a b) ≤ 281474976710656 ∧ 0 + (nW sh a b) ≤ (List.replicate (nW sh a b) (D.int 0)).length ∧ 0 + 1 ≤ [D.int
 (-1)].length ∧ 0 < (nW sh a b) ∧ (0 : Nat) < 1 ∧ (∃ (x : Nat), (0 < x ∧ x ≤ (nW sh a b)) ∧ ((↑(min 1 (nW sh a b)) : Int) = (x : Int) ∧ True) ∧ List.take 0 (List.replicate (nW sh a b) (D.int 0)) ++ List.take (min 1 (nW sh
 a b)) [D.int (-1)] ++ List.drop (0 + min 1 (nW sh a b)) (List.replicate (nW sh a b) (D.int 0)) = rowF x (nW sh a b) ∧ True) ∧ ∀ (x : Nat), 0 < x ∧ x ≤ (nW sh a b) → (nW sh a b) - x < LIM ∧ ((x : Int) < (↑(nW sh a b) :
 Int) → 0 ≤ (x : Int) ∧ (x : Int) ≤ (↑(nW sh a b) : Int) ∧ ((↑(nW sh a b) : Int) - (↑(nW sh a b) : Int)).NonNeg ∧ (0 : Int) ≤ 0 ∧ 0 ≤ (x : Int) ∧ ((↑(nW sh a b) : Int) - (x : Int)).NonNeg ∧ x + ((nW sh a b) - x) ≤ (rowF x
 (nW sh a b)).length ∧ 0 + 0 + x ≤ (rowF x (nW sh a b)).length ∧ 0 < (nW sh a b) - x ∧ 0 < x ∧ ((-9223372036854775808) ≤ (x : Int) + (↑(min x ((nW sh a b) - x)) : Int) ∧ (x : Int) + (↑(min x ((nW sh a b) - x)) : Int) <
 9223372036854775808) ∧ ∃ (y : Nat), (0 < y ∧ y ≤ (nW sh a b)) ∧ (nW sh a b) - y < (nW sh a b) - x ∧ ((x : Int) + (↑(min x ((nW sh a b) - x)) : Int) = (y : Int) ∧ True) ∧ List.take x (rowF x (nW sh a b)) ++ List.take (min
 x ((nW sh a b) - x)) (List.drop (0 + 0) (rowF x (nW sh a b))) ++ List.drop (x + min x ((nW sh a b) - x)) (rowF x (nW sh a b)) = rowF y (nW sh a b) ∧ True) ∧ (((x : Int) < (↑(nW sh a b) : Int) → False) → 0 ≤ k ∧ k < (↑(nW
 sh a b) : Int) ∧ k.toNat < (rowF x (nW sh a b)).length ∧ ((∃ (x_1 : (Nat → Int) × List D × List Nat), bfsS (nW sh a b) sh a b k x_1.fst x_1.snd.snd ∧ ((0 = x_1.snd.fst.length ∧ 1 = x_1.snd.snd.length ∧ 1 =
 x_1.snd.snd.length) ∧ True) ∧ [D.int k] = x_1.snd.fst ++ rowQ x_1.snd.snd ∧ (rowF x (nW sh a b)).set k.toNat (D.int 0) = rowN (nW sh a b) x_1.fst ∧ True) ∨ ∃ (x : (Nat → Int) × List D × List Nat), bfsS (nW sh a b) sh a b
 k x.fst x.snd.snd ∧ False) ∧ (∀ (x : (Nat → Int) × List D × List Nat), bfsS (nW sh a b) sh a b k x.fst x.snd.snd → negs (nW sh a b) x.fst + x.snd.snd.length < LIM ∧ (0 < (x.snd.snd.length : Int) → (0 : Int) ≤ 0 ∧ 0 <
 (x.snd.snd.length : Int) ∧ x.snd.fst.length + Int.toNat 0 < (x.snd.fst ++ rowQ x.snd.snd).length ∧ (0 : Int) ≤ 1 ∧ 1 ≤ (x.snd.snd.length : Int) ∧ ((x.snd.snd.length : Int) - (x.snd.snd.length : Int)).NonNeg ∧ ((∃ (x_1 :
 (Nat → Int) × List D × List Nat × Nat), (bfsI (nW sh a b) sh a b k (hdQ x.snd) (x_1.snd.snd.snd : Int) x_1.fst x_1.snd.snd.fst ∧ x_1.snd.snd.snd ≤ (nW sh a b) ∧ negs (nW sh a b) x_1.fst + x_1.snd.snd.fst.length = negsR
 (rowN (nW sh a b) x.fst) + (x.snd.snd.length - Int.toNat 1)) ∧ (0 = (x_1.snd.snd.snd : Int) ∧ (x.snd.fst.length + Int.toNat 1 = x_1.snd.fst.length ∧ x.snd.snd.length - Int.toNat 1 = x_1.snd.snd.fst.length ∧
 x.snd.snd.length - Int.toNat 1 = x_1.snd.snd.fst.length) ∧ True) ∧ x.snd.fst ++ rowQ x.snd.snd = x_1.snd.fst ++ rowQ x_1.snd.snd.fst ∧ rowN (nW sh a b) x.fst = rowN (nW sh a b) x_1.fst ∧ True) ∨ ∃ (x_1 : (Nat → Int) ×
 List D × List Nat × Nat), (bfsI (nW sh a b) sh a b k (hdQ x.snd) (x_1.snd.snd.snd : Int) x_1.fst x_1.snd.snd.fst ∧ x_1.snd.snd.snd ≤ (nW sh a b) ∧ negs (nW sh a b) x_1.fst + x_1.snd.snd.fst.length = negsR (rowN (nW sh a
 b) x.fst) + (x.snd.snd.length - Int.toNat 1)) ∧ False) ∧ (∀ (x_1 : (Nat → Int) × List D × List Nat × Nat), bfsI (nW sh a b) sh a b k (hdQ x.snd) (x_1.snd.snd.snd : Int) x_1.fst x_1.snd.snd.fst ∧ x_1.snd.snd.snd ≤ (nW sh
 a b) ∧ negs (nW sh a b) x_1.fst + x_1.snd.snd.fst.length = negsR (rowN (nW sh a b) x.fst) + (x.snd.snd.length - Int.toNat 1) → (nW sh a b) - x_1.snd.snd.snd < LIM ∧ ((x_1.snd.snd.snd : Int) < (↑(nW sh a b) : Int) → 0 ≤
 (x_1.snd.snd.snd : Int) ∧ (x_1.snd.snd.snd : Int) < (↑(nW sh a b) : Int) ∧ x_1.snd.snd.snd < (rowN (nW sh a b) x_1.fst).length ∧ ((nthD (rowN (nW sh a b) x_1.fst) x_1.snd.snd.snd).asInt < 0 → (inTab sh a b (hdQ x.snd) ∧
 inTab sh a b (x_1.snd.snd.snd : Int)) ∧ (nearP sh a b (hdQ x.snd) (x_1.snd.snd.snd : Int) → 0 ≤ (hdQ x.snd) ∧ (hdQ x.snd) < (↑(nW sh a b) : Int) ∧ (hdQ x.snd).toNat < (rowN (nW sh a b) x_1.fst).length ∧
 ((-9223372036854775808) ≤ (nthD (rowN (nW sh a b) x_1.fst) (hdQ x.snd).toNat).asInt + 1 ∧ (nthD (rowN (nW sh a b) x_1.fst) (hdQ x.snd).toNat).asInt + 1 < 9223372036854775808) ∧ 0 ≤ (x_1.snd.snd.snd : Int) ∧
 (x_1.snd.snd.snd : Int) < (↑(nW sh a b) : Int) ∧ x_1.snd.snd.snd < (rowN (nW sh a b) x_1.fst).length ∧ 0 + 1 ≤ [D.int (x_1.snd.snd.snd : Int)].length ∧ x_1.snd.fst.length + x_1.snd.snd.fst.length ≤ (x_1.snd.fst ++ rowQ
 x_1.snd.snd.fst).length ∧ x_1.snd.snd.fst.length + 1 ≤ 16777216 ∧ (x_1.snd.snd.fst.length + 1 ≤ x_1.snd.snd.fst.length → x_1.snd.fst.length + x_1.snd.snd.fst.length + 1 ≤ (x_1.snd.fst ++ rowQ x_1.snd.snd.fst).length ∧
 ((-9223372036854775808) ≤ (x_1.snd.snd.snd : Int) + 1 ∧ (x_1.snd.snd.snd : Int) + 1 < 9223372036854775808) ∧ ((∃ (y : (Nat → Int) × List D × List Nat × Nat), (bfsI (nW sh a b) sh a b k (hdQ x.snd) (y.snd.snd.snd : Int)
 y.fst y.snd.snd.fst ∧ y.snd.snd.snd ≤ (nW sh a b) ∧ negs (nW sh a b) y.fst + y.snd.snd.fst.length = negsR (rowN (nW sh a b) x.fst) + (x.snd.snd.length - Int.toNat 1)) ∧ (nW sh a b) - y.snd.snd.snd < (nW sh a b) -
 x_1.snd.snd.snd ∧ ((x_1.snd.snd.snd : Int) + 1 = (y.snd.snd.snd : Int) ∧ (x_1.snd.fst.length = y.snd.fst.length ∧ x_1.snd.snd.fst.length + 1 = y.snd.snd.fst.length ∧ x_1.snd.snd.fst.length = y.snd.snd.fst.length) ∧ True)
 ∧ List.take (x_1.snd.fst.length + x_1.snd.snd.fst.length) (x_1.snd.fst ++ rowQ x_1.snd.snd.fst) ++ List.take 1 [D.int (x_1.snd.snd.snd : Int)] ++ List.drop (x_1.snd.fst.length + x_1.snd.snd.fst.length + 1) (x_1.snd.fst
 ++ rowQ x_1.snd.snd.fst) = y.snd.fst ++ rowQ y.snd.snd.fst ∧ (rowN (nW sh a b) x_1.fst).set x_1.snd.snd.snd (D.int ((nthD (rowN (nW sh a b) x_1.fst) (hdQ x.snd).toNat).asInt + 1)) = rowN (nW sh a b) y.fst ∧ True) ∨ ∃ (y
 : (Nat → Int) × List D × List Nat × Nat), (bfsI (nW sh a b) sh a b k (hdQ x.snd) (y.snd.snd.snd : Int) y.fst y.snd.snd.fst ∧ y.snd.snd.snd ≤ (nW sh a b) ∧ negs (nW sh a b) y.fst + y.snd.snd.fst.length = negsR (rowN (nW
 sh a b) x.fst) + (x.snd.snd.length - Int.toNat 1)) ∧ (nW sh a b) - y.snd.snd.snd < (nW sh a b) - x_1.snd.snd.snd ∧ False)) ∧ (x_1.snd.snd.fst.length < x_1.snd.snd.fst.length + 1 → ((-9223372036854775808) ≤
 (x_1.snd.snd.snd : Int) + 1 ∧ (x_1.snd.snd.snd : Int) + 1 < 9223372036854775808) ∧ ((∃ (y : (Nat → Int) × List D × List Nat × Nat), (bfsI (nW sh a b) sh a b k (hdQ x.snd) (y.snd.snd.snd : Int) y.fst y.snd.snd.fst ∧
 y.snd.snd.snd ≤ (nW sh a b) ∧ negs (nW sh a b) y.fst + y.snd.snd.fst.length = negsR (rowN (nW sh a b) x.fst) + (x.snd.snd.length - Int.toNat 1)) ∧ (nW sh a b) - y.snd.snd.snd < (nW sh a b) - x_1.snd.snd.snd ∧ False) ∨ ∃
 (y : (Nat → Int) × List D × List Nat × Nat), (bfsI (nW sh a b) sh a b k (hdQ x.snd) (y.snd.snd.snd : Int) y.fst y.snd.snd.fst ∧ y.snd.snd.snd ≤ (nW sh a b) ∧ negs (nW sh a b) y.fst + y.snd.snd.fst.length = negsR (rowN
 (nW sh a b) x.fst) + (x.snd.snd.length - Int.toNat 1)) ∧ (nW sh a b) - y.snd.snd.snd < (nW sh a b) - x_1.snd.snd.snd ∧ ((x_1.snd.snd.snd : Int) + 1 = (y.snd.snd.snd : Int) ∧ (0 = y.snd.fst.length ∧ x_1.snd.snd.fst.length
 + 1 = y.snd.snd.fst.length ∧ True) ∧ True) ∧ List.take x_1.snd.snd.fst.length (List.drop x_1.snd.fst.length (x_1.snd.fst ++ rowQ x_1.snd.snd.fst)) ++ List.take 1 [D.int (x_1.snd.snd.snd : Int)] = y.snd.fst ++ rowQ
 y.snd.snd.fst ∧ (rowN (nW sh a b) x_1.fst).set x_1.snd.snd.snd (D.int ((nthD (rowN (nW sh a b) x_1.fst) (hdQ x.snd).toNat).asInt + 1)) = rowN (nW sh a b) y.fst ∧ True))) ∧ ((nearP sh a b (hdQ x.snd) (x_1.snd.snd.snd :
 Int) → False) → ((-9223372036854775808) ≤ (x_1.snd.snd.snd : Int) + 1 ∧ (x_1.snd.snd.snd : Int) + 1 < 9223372036854775808) ∧ ((∃ (y : (Nat → Int) × List D × List Nat × Nat), (bfsI (nW sh a b) sh a b k (hdQ x.snd)
 (y.snd.snd.snd : Int) y.fst y.snd.snd.fst ∧ y.snd.snd.snd ≤ (nW sh a b) ∧ negs (nW sh a b) y.fst + y.snd.snd.fst.length = negsR (rowN (nW sh a b) x.fst) + (x.snd.snd.length - Int.toNat 1)) ∧ (nW sh a b) - y.snd.snd.snd <
 (nW sh a b) - x_1.snd.snd.snd ∧ ((x_1.snd.snd.snd : Int) + 1 = (y.snd.snd.snd : Int) ∧ (x_1.snd.fst.length = y.snd.fst.length ∧ x_1.snd.snd.fst.length = y.snd.snd.fst.length ∧ x_1.snd.snd.fst.length =
 y.snd.snd.fst.length) ∧ True) ∧ x_1.snd.fst ++ rowQ x_1.snd.snd.fst = y.snd.fst ++ rowQ y.snd.snd.fst ∧ rowN (nW sh a b) x_1.fst = rowN (nW sh a b) y.fst ∧ True) ∨ ∃ (y : (Nat → Int) × List D × List Nat × Nat), (bfsI (nW
 sh a b) sh a b k (hdQ x.snd) (y.snd.snd.snd : Int) y.fst y.snd.snd.fst ∧ y.snd.snd.snd ≤ (nW sh a b) ∧ negs (nW sh a b) y.fst + y.snd.snd.fst.length = negsR (rowN (nW sh a b) x.fst) + (x.snd.snd.length - Int.toNat 1)) ∧
 (nW sh a b) - y.snd.snd.snd < (nW sh a b) - x_1.snd.snd.snd ∧ False))) ∧ (((nthD (rowN (nW sh a b) x_1.fst) x_1.snd.snd.snd).asInt < 0 → False) → ((-9223372036854775808) ≤ (x_1.snd.snd.snd : Int) + 1 ∧ (x_1.snd.snd.snd :
 Int) + 1 < 9223372036854775808) ∧ ((∃ (y : (Nat → Int) × List D × List Nat × Nat), (bfsI (nW sh a b) sh a b k (hdQ x.snd) (y.snd.snd.snd : Int) y.fst y.snd.snd.fst ∧ y.snd.snd.snd ≤ (nW sh a b) ∧ negs (nW sh a b) y.fst +
 y.snd.snd.fst.length = negsR (rowN (nW sh a b) x.fst) + (x.snd.snd.length - Int.toNat 1)) ∧ (nW sh a b) - y.snd.snd.snd < (nW sh a b) - x_1.snd.snd.snd ∧ ((x_1.snd.snd.snd : Int) + 1 = (y.snd.snd.snd : Int) ∧
 (x_1.snd.fst.length = y.snd.fst.length ∧ x_1.snd.snd.fst.length = y.snd.snd.fst.length ∧ x_1.snd.snd.fst.length = y.snd.snd.fst.length) ∧ True) ∧ x_1.snd.fst ++ rowQ x_1.snd.snd.fst = y.snd.fst ++ rowQ y.snd.snd.fst ∧
 rowN (nW sh a b) x_1.fst = rowN (nW sh a b) y.fst ∧ True) ∨ ∃ (y : (Nat → Int) × List D × List Nat × Nat), (bfsI (nW sh a b) sh a b k (hdQ x.snd) (y.snd.snd.snd : Int) y.fst y.snd.snd.fst ∧ y.snd.snd.snd ≤ (nW sh a b) ∧
 negs (nW sh a b) y.fst + y.snd.snd.fst.length = negsR (rowN (nW sh a b) x.fst) + (x.snd.snd.length - Int.toNat 1)) ∧ (nW sh a b) - y.snd.snd.snd < (nW sh a b) - x_1.snd.snd.snd ∧ False))) ∧ (((x_1.snd.snd.snd : Int) <
 (↑(nW sh a b) : Int) → False) → (∃ (y : (Nat → Int) × List D × List Nat), bfsS (nW sh a b) sh a b k y.fst y.snd.snd ∧ negs (nW sh a b) y.fst + y.snd.snd.length < negs (nW sh a b) x.fst + x.snd.snd.length ∧
 ((x_1.snd.fst.length = y.snd.fst.length ∧ x_1.snd.snd.fst.length = y.snd.snd.length ∧ x_1.snd.snd.fst.length = y.snd.snd.length) ∧ True) ∧ x_1.snd.fst ++ rowQ x_1.snd.snd.fst = y.snd.fst ++ rowQ y.snd.snd ∧ rowN (nW sh a
 b) x_1.fst = rowN (nW sh a b) y.fst ∧ True) ∨ ∃ (y : (Nat → Int) × List D × List Nat), bfsS (nW sh a b) sh a b k y.fst y.snd.snd ∧ negs (nW sh a b) y.fst + y.snd.snd.length < negs (nW sh a b) x.fst + x.snd.snd.length ∧
 False)) ∧ ∀ (x_1 : (Nat → Int) × List D × List Nat × Nat), bfsI (nW sh a b) sh a b k (hdQ x.snd) (x_1.snd.snd.snd : Int) x_1.fst x_1.snd.snd.fst ∧ x_1.snd.snd.snd ≤ (nW sh a b) ∧ negs (nW sh a b) x_1.fst +
 x_1.snd.snd.fst.length = negsR (rowN (nW sh a b) x.fst) + (x.snd.snd.length - Int.toNat 1) → (nW sh a b) - x_1.snd.snd.snd < LIM ∧ ((x_1.snd.snd.snd : Int) < (↑(nW sh a b) : Int) → 0 ≤ (x_1.snd.snd.snd : Int) ∧
 (x_1.snd.snd.snd : Int) < (↑(nW sh a b) : Int) ∧ x_1.snd.snd.snd < (rowN (nW sh a b) x_1.fst).length ∧ ((nthD (rowN (nW sh a b) x_1.fst) x_1.snd.snd.snd).asInt < 0 → (inTab sh a b (hdQ x.snd) ∧ inTab sh a b
 (x_1.snd.snd.snd : Int)) ∧ (nearP sh a b (hdQ x.snd) (x_1.snd.snd.snd : Int) → 0 ≤ (hdQ x.snd) ∧ (hdQ x.snd) < (↑(nW sh a b) : Int) ∧ (hdQ x.snd).toNat < (rowN (nW sh a b) x_1.fst).length ∧ ((-9223372036854775808) ≤
 (nthD (rowN (nW sh a b) x_1.fst) (hdQ x.snd).toNat).asInt + 1 ∧ (nthD (rowN (nW sh a b) x_1.fst) (hdQ x.snd).toNat).asInt + 1 < 9223372036854775808) ∧ 0 ≤ (x_1.snd.snd.snd : Int) ∧ (x_1.snd.snd.snd : Int) < (↑(nW sh a b)
 : Int) ∧ x_1.snd.snd.snd < (rowN (nW sh a b) x_1.fst).length ∧ 0 + 1 ≤ [D.int (x_1.snd.snd.snd : Int)].length ∧ x_1.snd.fst.length + x_1.snd.snd.fst.length ≤ (x_1.snd.fst ++ rowQ x_1.snd.snd.fst).length ∧
 x_1.snd.snd.fst.length + 1 ≤ 16777216 ∧ ((-9223372036854775808) ≤ (x_1.snd.snd.snd : Int) + 1 ∧ (x_1.snd.snd.snd : Int) + 1 < 9223372036854775808) ∧ ((∃ (y : (Nat → Int) × List D × List Nat × Nat), (bfsI (nW sh a b) sh a
 b k (hdQ x.snd) (y.snd.snd.snd : Int) y.fst y.snd.snd.fst ∧ y.snd.snd.snd ≤ (nW sh a b) ∧ negs (nW sh a b) y.fst + y.snd.snd.fst.length = negsR (rowN (nW sh a b) x.fst) + (x.snd.snd.length - Int.toNat 1)) ∧ (nW sh a b) -
 y.snd.snd.snd < (nW sh a b) - x_1.snd.snd.snd ∧ False) ∨ ∃ (y : (Nat → Int) × List D × List Nat × Nat), (bfsI (nW sh a b) sh a b k (hdQ x.snd) (y.snd.snd.snd : Int) y.fst y.snd.snd.fst ∧ y.snd.snd.snd ≤ (nW sh a b) ∧
 negs (nW sh a b) y.fst + y.snd.snd.fst.length = negsR (rowN (nW sh a b) x.fst) + (x.snd.snd.length - Int.toNat 1)) ∧ (nW sh a b) - y.snd.snd.snd < (nW sh a b) - x_1.snd.snd.snd ∧ ((x_1.snd.snd.snd : Int) + 1 =
 (y.snd.snd.snd : Int) ∧ (0 = y.snd.fst.length ∧ x_1.snd.snd.fst.length + 1 = y.snd.snd.fst.length ∧ True) ∧ True) ∧ List.take x_1.snd.snd.fst.length (List.drop x_1.snd.fst.length (x_1.snd.fst ++ rowQ x_1.snd.snd.fst)) ++
 List.take 1 [D.int (x_1.snd.snd.snd : Int)] = y.snd.fst ++ rowQ y.snd.snd.fst ∧ (rowN (nW sh a b) x_1.fst).set x_1.snd.snd.snd (D.int ((nthD (rowN (nW sh a b) x_1.fst) (hdQ x.snd).toNat).asInt + 1)) = rowN (nW sh a b)
 y.fst ∧ True)) ∧ ((nearP sh a b (hdQ x.snd) (x_1.snd.snd.snd : Int) → False) → ((-9223372036854775808) ≤ (x_1.snd.snd.snd : Int) + 1 ∧ (x_1.snd.snd.snd : Int) + 1 < 9223372036854775808) ∧ ((∃ (y : (Nat → Int) × List D ×
 List Nat × Nat), (bfsI (nW sh a b) sh a b k (hdQ x.snd) (y.snd.snd.snd : Int) y.fst y.snd.snd.fst ∧ y.snd.snd.snd ≤ (nW sh a b) ∧ negs (nW sh a b) y.fst + y.snd.snd.fst.length = negsR (rowN (nW sh a b) x.fst) +
 (x.snd.snd.length - Int.toNat 1)) ∧ (nW sh a b) - y.snd.snd.snd < (nW sh a b) - x_1.snd.snd.snd ∧ False) ∨ ∃ (y : (Nat → Int) × List D × List Nat × Nat), (bfsI (nW sh a b) sh a b k (hdQ x.snd) (y.snd.snd.snd : Int) y.fst
 y.snd.snd.fst ∧ y.snd.snd.snd ≤ (nW sh a b) ∧ negs (nW sh a b) y.fst + y.snd.snd.fst.length = negsR (rowN (nW sh a b) x.fst) + (x.snd.snd.length - Int.toNat 1)) ∧ (nW sh a b) - y.snd.snd.snd < (nW sh a b) -
 x_1.snd.snd.snd ∧ ((x_1.snd.snd.snd : Int) + 1 = (y.snd.snd.snd : Int) ∧ (x_1.snd.fst.length = y.snd.fst.length ∧ x_1.snd.snd.fst.length = y.snd.snd.fst.length ∧ True) ∧ True) ∧ x_1.snd.fst ++ rowQ x_1.snd.snd.fst =
 y.snd.fst ++ rowQ y.snd.snd.fst ∧ rowN (nW sh a b) x_1.fst = rowN (nW sh a b) y.fst ∧ True))) ∧ (((nthD (rowN (nW sh a b) x_1.fst) x_1.snd.snd.snd).asInt < 0 → False) → ((-9223372036854775808) ≤ (x_1.snd.snd.snd : Int) +
 1 ∧ (x_1.snd.snd.snd : Int) + 1 < 9223372036854775808) ∧ ((∃ (y : (Nat → Int) × List D × List Nat × Nat), (bfsI (nW sh a b) sh a b k (hdQ x.snd) (y.snd.snd.snd : Int) y.fst y.snd.snd.fst ∧ y.snd.snd.snd ≤ (nW sh a b) ∧
 negs (nW sh a b) y.fst + y.snd.snd.fst.length = negsR (rowN (nW sh a b) x.fst) + (x.snd.snd.length - Int.toNat 1)) ∧ (nW sh a b) - y.snd.snd.snd < (nW sh a b) - x_1.snd.snd.snd ∧ False) ∨ ∃ (y : (Nat → Int) × List D ×
 List Nat × Nat), (bfsI (nW sh a b) sh a b k (hdQ x.snd) (y.snd.snd.snd : Int) y.fst y.snd.snd.fst ∧ y.snd.snd.snd ≤ (nW sh a b) ∧ negs (nW sh a b) y.fst + y.snd.snd.fst.length = negsR (rowN (nW sh a b) x.fst) +
 (x.snd.snd.length - Int.toNat 1)) ∧ (nW sh a b) - y.snd.snd.snd < (nW sh a b) - x_1.snd.snd.snd ∧ ((x_1.snd.snd.snd : Int) + 1 = (y.snd.snd.snd : Int) ∧ (x_1.snd.fst.length = y.snd.fst.length ∧ x_1.snd.snd.fst.length =
 y.snd.snd.fst.length ∧ True) ∧ True) ∧ x_1.snd.fst ++ rowQ x_1.snd.snd.fst = y.snd.fst ++ rowQ y.snd.snd.fst ∧ rowN (nW sh a b) x_1.fst = rowN (nW sh a b) y.fst ∧ True))) ∧ (((x_1.snd.snd.snd : Int) < (↑(nW sh a b) :
 Int) → False) → (∃ (y : (Nat → Int) × List D × List Nat), bfsS (nW sh a b) sh a b k y.fst y.snd.snd ∧ negs (nW sh a b) y.fst + y.snd.snd.length < negs (nW sh a b) x.fst + x.snd.snd.length ∧ False) ∨ ∃ (y : (Nat → Int) ×
 List D × List Nat), bfsS (nW sh a b) sh a b k y.fst y.snd.snd ∧ negs (nW sh a b) y.fst + y.snd.snd.length < negs (nW sh a b) x.fst + x.snd.snd.length ∧ ((x_1.snd.fst.length = y.snd.fst.length ∧ x_1.snd.snd.fst.length =
 y.snd.snd.length ∧ True) ∧ True) ∧ x_1.snd.fst ++ rowQ x_1.snd.snd.fst = y.snd.fst ++ rowQ y.snd.snd ∧ rowN (nW sh a b) x_1.fst = rowN (nW sh a b) y.fst ∧ True)) ∧ ((0 < (x.snd.snd.length : Int) → False) → 0 + (nW sh a
 b) ≤ (rowN (nW sh a b) x.fst).length ∧ D.list (List.take (nW sh a b) (rowN (nW sh a b) x.fst)) = D.list (distRow (sizeZ sh a b).toNat sh a b k))) ∧ ∀ (x : (Nat → Int) × List D × List Nat), bfsS (nW sh a b) sh a b k x.fst
 x.snd.snd → negs (nW sh a b) x.fst + x.snd.snd.length < LIM ∧ (0 < (x.snd.snd.length : Int) → (0 : Int) ≤ 0 ∧ 0 < (x.snd.snd.length : Int) ∧ x.snd.fst.length + Int.toNat 0 < (x.snd.fst ++ rowQ x.snd.snd).length ∧ (0 :
 Int) ≤ 1 ∧ 1 ≤ (x.snd.snd.length : Int) ∧ ((x.snd.snd.length : Int) - (x.snd.snd.length : Int)).NonNeg ∧ ((∃ (x_1 : (Nat → Int) × List D × List Nat × Nat), (bfsI (nW sh a b) sh a b k (hdQ x.snd) (x_1.snd.snd.snd : Int)
 x_1.fst x_1.snd.snd.fst ∧ x_1.snd.snd.snd ≤ (nW sh a b) ∧ negs (nW sh a b) x_1.fst + x_1.snd.snd.fst.length = negsR (rowN (nW sh a b) x.fst) + (x.snd.snd.length - Int.toNat 1)) ∧ (0 = (x_1.snd.snd.snd : Int) ∧
 (x.snd.fst.length + Int.toNat 1 = x_1.snd.fst.length ∧ x.snd.snd.length - Int.toNat 1 = x_1.snd.snd.fst.length ∧ True) ∧ True) ∧ x.snd.fst ++ rowQ x.snd.snd = x_1.snd.fst ++ rowQ x_1.snd.snd.fst ∧ rowN (nW sh a b) x.fst
 = rowN (nW sh a b) x_1.fst ∧ True) ∨ ∃ (x_1 : (Nat → Int) × List D × List Nat × Nat), (bfsI (nW sh a b) sh a b k (hdQ x.snd) (x_1.snd.snd.snd : Int) x_1.fst x_1.snd.snd.fst ∧ x_1.snd.snd.snd ≤ (nW sh a b) ∧ negs (nW sh a
 b) x_1.fst + x_1.snd.snd.fst.length = negsR (rowN (nW sh a b) x.fst) + (x.snd.snd.length - Int.toNat 1)) ∧ False) ∧ (∀ (x_1 : (Nat → Int) × List D × List Nat × Nat), bfsI (nW sh a b) sh a b k (hdQ x.snd) (x_1.snd.snd.snd
 : Int) x_1.fst x_1.snd.snd.fst ∧ x_1.snd.snd.snd ≤ (nW sh a b) ∧ negs (nW sh a b) x_1.fst + x_1.snd.snd.fst.length = negsR (rowN (nW sh a b) x.fst) + (x.snd.snd.length - Int.toNat 1) → (nW sh a b) - x_1.snd.snd.snd < LIM
 ∧ ((x_1.snd.snd.snd : Int) < (↑(nW sh a b) : Int) → 0 ≤ (x_1.snd.snd.snd : Int) ∧ (x_1.snd.snd.snd : Int) < (↑(nW sh a b) : Int) ∧ x_1.snd.snd.snd < (rowN (nW sh a b) x_1.fst).length ∧ ((nthD (rowN (nW sh a b) x_1.fst)
 x_1.snd.snd.snd).asInt < 0 → (inTab sh a b (hdQ x.snd) ∧ inTab sh a b (x_1.snd.snd.snd : Int)) ∧ (nearP sh a b (hdQ x.snd) (x_1.snd.snd.snd : Int) → 0 ≤ (hdQ x.snd) ∧ (hdQ x.snd) < (↑(nW sh a b) : Int) ∧ (hdQ
 x.snd).toNat < (rowN (nW sh a b) x_1.fst).length ∧ ((-9223372036854775808) ≤ (nthD (rowN (nW sh a b) x_1.fst) (hdQ x.snd).toNat).asInt + 1 ∧ (nthD (rowN (nW sh a b) x_1.fst) (hdQ x.snd).toNat).asInt + 1 <
 9223372036854775808) ∧ 0 ≤ (x_1.snd.snd.snd : Int) ∧ (x_1.snd.snd.snd : Int) < (↑(nW sh a b) : Int) ∧ x_1.snd.snd.snd < (rowN (nW sh a b) x_1.fst).length ∧ 0 + 1 ≤ [D.int (x_1.snd.snd.snd : Int)].length ∧
 x_1.snd.fst.length + x_1.snd.snd.fst.length ≤ (x_1.snd.fst ++ rowQ x_1.snd.snd.fst).length ∧ x_1.snd.snd.fst.length + 1 ≤ 16777216 ∧ ((-9223372036854775808) ≤ (x_1.snd.snd.snd : Int) + 1 ∧ (x_1.snd.snd.snd : Int) + 1 <
 9223372036854775808) ∧ ((∃ (y : (Nat → Int) × List D × List Nat × Nat), (bfsI (nW sh a b) sh a b k (hdQ x.snd) (y.snd.snd.snd : Int) y.fst y.snd.snd.fst ∧ y.snd.snd.snd ≤ (nW sh a b) ∧ negs (nW sh a b) y.fst +
 y.snd.snd.fst.length = negsR (rowN (nW sh a b) x.fst) + (x.snd.snd.length - Int.toNat 1)) ∧ (nW sh a b) - y.snd.snd.snd < (nW sh a b) - x_1.snd.snd.snd ∧ False) ∨ ∃ (y : (Nat → Int) × List D × List Nat × Nat), (bfsI (nW
 sh a b) sh a b k (hdQ x.snd) (y.snd.snd.snd : Int) y.fst y.snd.snd.fst ∧ y.snd.snd.snd ≤ (nW sh a b) ∧ negs (nW sh a b) y.fst + y.snd.snd.fst.length = negsR (rowN (nW sh a b) x.fst) + (x.snd.snd.length - Int.toNat 1)) ∧
 (nW sh a b) - y.snd.snd.snd < (nW sh a b) - x_1.snd.snd.snd ∧ ((x_1.snd.snd.snd : Int) + 1 = (y.snd.snd.snd : Int) ∧ (0 = y.snd.fst.length ∧ x_1.snd.snd.fst.length + 1 = y.snd.snd.fst.length ∧ True) ∧ True) ∧ List.take
 x_1.snd.snd.fst.length (List.drop x_1.snd.fst.length (x_1.snd.fst ++ rowQ x_1.snd.snd.fst)) ++ List.take 1 [D.int (x_1.snd.snd.snd : Int)] = y.snd.fst ++ rowQ y.snd.snd.fst ∧ (rowN (nW sh a b) x_1.fst).set
 x_1.snd.snd.snd (D.int ((nthD (rowN (nW sh a b) x_1.fst) (hdQ x.snd).toNat).asInt + 1)) = rowN (nW sh a b) y.fst ∧ True)) ∧ ((nearP sh a b (hdQ x.snd) (x_1.snd.snd.snd : Int) → False) → ((-9223372036854775808) ≤
 (x_1.snd.snd.snd : Int) + 1 ∧ (x_1.snd.snd.snd : Int) + 1 < 9223372036854775808) ∧ ((∃ (y : (Nat → Int) × List D × List Nat × Nat), (bfsI (nW sh a b) sh a b k (hdQ x.snd) (y.snd.snd.snd : Int) y.fst y.snd.snd.fst ∧
 y.snd.snd.snd ≤ (nW sh a b) ∧ negs (nW sh a b) y.fst + y.snd.snd.fst.length = negsR (rowN (nW sh a b) x.fst) + (x.snd.snd.length - Int.toNat 1)) ∧ (nW sh a b) - y.snd.snd.snd < (nW sh a b) - x_1.snd.snd.snd ∧
 ((x_1.snd.snd.snd : Int) + 1 = (y.snd.snd.snd : Int) ∧ (x_1.snd.fst.length = y.snd.fst.length ∧ x_1.snd.snd.fst.length = y.snd.snd.fst.length ∧ True) ∧ True) ∧ x_1.snd.fst ++ rowQ x_1.snd.snd.fst = y.snd.fst ++ rowQ
 y.snd.snd.fst ∧ rowN (nW sh a b) x_1.fst = rowN (nW sh a b) y.fst ∧ True) ∨ ∃ (y : (Nat → Int) × List D × List Nat × Nat), (bfsI (nW sh a b) sh a b k (hdQ x.snd) (y.snd.snd.snd : Int) y.fst y.snd.snd.fst ∧ y.snd.snd.snd
 ≤ (nW sh a b) ∧ negs (nW sh a b) y.fst + y.snd.snd.fst.length = negsR (rowN (nW sh a b) x.fst) + (x.snd.snd.length - Int.toNat 1)) ∧ (nW sh a b) - y.snd.snd.snd < (nW sh a b) - x_1.snd.snd.snd ∧ False))) ∧ (((nthD (rowN
 (nW sh a b) x_1.fst) x_1.snd.snd.snd).asInt < 0 → False) → ((-9223372036854775808) ≤ (x_1.snd.snd.snd : Int) + 1 ∧ (x_1.snd.snd.snd : Int) + 1 < 9223372036854775808) ∧ ((∃ (y : (Nat → Int) × List D × List Nat × Nat),
 (bfsI (nW sh a b) sh a b k (hdQ x.snd) (y.snd.snd.snd : Int) y.fst y.snd.snd.fst ∧ y.snd.snd.snd ≤ (nW sh a b) ∧ negs (nW sh a b) y.fst + y.snd.snd.fst.length = negsR (rowN (nW sh a b) x.fst) + (x.snd.snd.length -
 Int.toNat 1)) ∧ (nW sh a b) - y.snd.snd.snd < (nW sh a b) - x_1.snd.snd.snd ∧ ((x_1.snd.snd.snd : Int) + 1 = (y.snd.snd.snd : Int) ∧ (x_1.snd.fst.length = y.snd.fst.length ∧ x_1.snd.snd.fst.length = y.snd.snd.fst.length
 ∧ True) ∧ True) ∧ x_1.snd.fst ++ rowQ x_1.snd.snd.fst = y.snd.fst ++ rowQ y.snd.snd.fst ∧ rowN (nW sh a b) x_1.fst = rowN (nW sh a b) y.fst ∧ True) ∨ ∃ (y : (Nat → Int) × List D × List Nat × Nat), (bfsI (nW sh a b) sh a
 b k (hdQ x.snd) (y.snd.snd.snd : Int) y.fst y.snd.snd.fst ∧ y.snd.snd.snd ≤ (nW sh a b) ∧ negs (nW sh a b) y.fst + y.snd.snd.fst.length = negsR (rowN (nW sh a b) x.fst) + (x.snd.snd.length - Int.toNat 1)) ∧ (nW sh a b) -
 y.snd.snd.snd < (nW sh a b) - x_1.snd.snd.snd ∧ False))) ∧ (((x_1.snd.snd.snd : Int) < (↑(nW sh a b) : Int) → False) → (∃ (y : (Nat → Int) × List D × List Nat), bfsS (nW sh a b) sh a b k y.fst y.snd.snd ∧ negs (nW sh a
 b) y.fst + y.snd.snd.length < negs (nW sh a b) x.fst + x.snd.snd.length ∧ False) ∨ ∃ (y : (Nat → Int) × List D × List Nat), bfsS (nW sh a b) sh a b k y.fst y.snd.snd ∧ negs (nW sh a b) y.fst + y.snd.snd.length < negs (nW
 sh a b) x.fst + x.snd.snd.length ∧ ((x_1.snd.fst.length = y.snd.fst.length ∧ x_1.snd.snd.fst.length = y.snd.snd.length ∧ True) ∧ True) ∧ x_1.snd.fst ++ rowQ x_1.snd.snd.fst = y.snd.fst ++ rowQ y.snd.snd ∧ rowN (nW sh a
 b) x_1.fst = rowN (nW sh a b) y.fst ∧ True)) ∧ ∀ (x_1 : (Nat → Int) × List D × List Nat × Nat), bfsI (nW sh a b) sh a b k (hdQ x.snd) (x_1.snd.snd.snd : Int) x_1.fst x_1.snd.snd.fst ∧ x_1.snd.snd.snd ≤ (nW sh a b) ∧ negs
 (nW sh a b) x_1.fst + x_1.snd.snd.fst.length = negsR (rowN (nW sh a b) x.fst) + (x.snd.snd.length - Int.toNat 1) → (nW sh a b) - x_1.snd.snd.snd < LIM ∧ ((x_1.snd.snd.snd : Int) < (↑(nW sh a b) : Int) → 0 ≤
 (x_1.snd.snd.snd : Int) ∧ (x_1.snd.snd.snd : Int) < (↑(nW sh a b) : Int) ∧ x_1.snd.snd.snd < (rowN (nW sh a b) x_1.fst).length ∧ ((nthD (rowN (nW sh a b) x_1.fst) x_1.snd.snd.snd).asInt < 0 → (inTab sh a b (hdQ x.snd) ∧
 inTab sh a b (x_1.snd.snd.snd : Int)) ∧ (nearP sh a b (hdQ x.snd) (x_1.snd.snd.snd : Int) → 0 ≤ (hdQ x.snd) ∧ (hdQ x.snd) < (↑(nW sh a b) : Int) ∧ (hdQ x.snd).toNat < (rowN (nW sh a b) x_1.fst).length ∧
 ((-9223372036854775808) ≤ (nthD (rowN (nW sh a b) x_1.fst) (hdQ x.snd).toNat).asInt + 1 ∧ (nthD (rowN (nW sh a b) x_1.fst) (hdQ x.snd).toNat).asInt + 1 < 9223372036854775808) ∧ 0 ≤ (x_1.snd.snd.snd : Int) ∧
 (x_1.snd.snd.snd : Int) < (↑(nW sh a b) : Int) ∧ x_1.snd.snd.snd < (rowN (nW sh a b) x_1.fst).length ∧ 0 + 1 ≤ [D.int (x_1.snd.snd.snd : Int)].length ∧ x_1.snd.fst.length + x_1.snd.snd.fst.length ≤ (x_1.snd.fst ++ rowQ
 x_1.snd.snd.fst).length ∧ x_1.snd.snd.fst.length + 1 ≤ 16777216 ∧ ((-9223372036854775808) ≤ (x_1.snd.snd.snd : Int) + 1 ∧ (x_1.snd.snd.snd : Int) + 1 < 9223372036854775808) ∧ ((∃ (y : (Nat → Int) × List D × List Nat ×
 Nat), (bfsI (nW sh a b) sh a b k (hdQ x.snd) (y.snd.snd.snd : Int) y.fst y.snd.snd.fst ∧ y.snd.snd.snd ≤ (nW sh a b) ∧ negs (nW sh a b) y.fst + y.snd.snd.fst.length = negsR (rowN (nW sh a b) x.fst) + (x.snd.snd.length -
 Int.toNat 1)) ∧ (nW sh a b) - y.snd.snd.snd < (nW sh a b) - x_1.snd.snd.snd ∧ False) ∨ ∃ (y : (Nat → Int) × List D × List Nat × Nat), (bfsI (nW sh a b) sh a b k (hdQ x.snd) (y.snd.snd.snd : Int) y.fst y.snd.snd.fst ∧
 y.snd.snd.snd ≤ (nW sh a b) ∧ negs (nW sh a b) y.fst + y.snd.snd.fst.length = negsR (rowN (nW sh a b) x.fst) + (x.snd.snd.length - Int.toNat 1)) ∧ (nW sh a b) - y.snd.snd.snd < (nW sh a b) - x_1.snd.snd.snd ∧
 ((x_1.snd.snd.snd : Int) + 1 = (y.snd.snd.snd : Int) ∧ (0 = y.snd.fst.length ∧ x_1.snd.snd.fst.length + 1 = y.snd.snd.fst.length ∧ True) ∧ True) ∧ List.take x_1.snd.snd.fst.length (List.drop x_1.snd.fst.length
 (x_1.snd.fst ++ rowQ x_1.snd.snd.fst)) ++ List.take 1 [D.int (x_1.snd.snd.snd : Int)] = y.snd.fst ++ rowQ y.snd.snd.fst ∧ (rowN (nW sh a b) x_1.fst).set x_1.snd.snd.snd (D.int ((nthD (rowN (nW sh a b) x_1.fst) (hdQ
 x.snd).toNat).asInt + 1)) = rowN (nW sh a b) y.fst ∧ True)) ∧ ((nearP sh a b (hdQ x.snd) (x_1.snd.snd.snd : Int) → False) → ((-9223372036854775808) ≤ (x_1.snd.snd.snd : Int) + 1 ∧ (x_1.snd.snd.snd : Int) + 1 <
 9223372036854775808) ∧ ((∃ (y : (Nat → Int) × List D × List Nat × Nat), (bfsI (nW sh a b) sh a b k (hdQ x.snd) (y.snd.snd.snd : Int) y.fst y.snd.snd.fst ∧ y.snd.snd.snd ≤ (nW sh a b) ∧ negs (nW sh a b) y.fst +
 y.snd.snd.fst.length = negsR (rowN (nW sh a b) x.fst) + (x.snd.snd.length - Int.toNat 1)) ∧ (nW sh a b) - y.snd.snd.snd < (nW sh a b) - x_1.snd.snd.snd ∧ False) ∨ ∃ (y : (Nat → Int) × List D × List Nat × Nat), (bfsI (nW
 sh a b) sh a b k (hdQ x.snd) (y.snd.snd.snd : Int) y.fst y.snd.snd.fst ∧ y.snd.snd.snd ≤ (nW sh a b) ∧ negs (nW sh a b) y.fst + y.snd.snd.fst.length = negsR (rowN (nW sh a b) x.fst) + (x.snd.snd.length - Int.toNat 1)) ∧
 (nW sh a b) - y.snd.snd.snd < (nW sh a b) - x_1.snd.snd.snd ∧ ((x_1.snd.snd.snd : Int) + 1 = (y.snd.snd.snd : Int) ∧ (x_1.snd.fst.length = y.snd.fst.length ∧ x_1.snd.snd.fst.length = y.snd.snd.fst.length ∧ True) ∧ True)
 ∧ x_1.snd.fst ++ rowQ x_1.snd.snd.fst = y.snd.fst ++ rowQ y.snd.snd.fst ∧ rowN (nW sh a b) x_1.fst = rowN (nW sh a b) y.fst ∧ True))) ∧ (((nthD (rowN (nW sh a b) x_1.fst) x_1.snd.snd.snd).asInt < 0 → False) →
 ((-9223372036854775808) ≤ (x_1.snd.snd.snd : Int) + 1 ∧ (x_1.snd.snd.snd : Int) + 1 < 9223372036854775808) ∧ ((∃ (y : (Nat → Int) × List D × List Nat × Nat), (bfsI (nW sh a b) sh a b k (hdQ x.snd) (y.snd.snd.snd : Int)
 y.fst y.snd.snd.fst ∧ y.snd.snd.snd ≤ (nW sh a b) ∧ negs (nW sh a b) y.fst + y.snd.snd.fst.length = negsR (rowN (nW sh a b) x.fst) + (x.snd.snd.length - Int.toNat 1)) ∧ (nW sh a b) - y.snd.snd.snd < (nW sh a b) -
 x_1.snd.snd.snd ∧ False) ∨ ∃ (y : (Nat → Int) × List D × List Nat × Nat), (bfsI (nW sh a b) sh a b k (hdQ x.snd) (y.snd.snd.snd : Int) y.fst y.snd.snd.fst ∧ y.snd.snd.snd ≤ (nW sh a b) ∧ negs (nW sh a b) y.fst +
 y.snd.snd.fst.length = negsR (rowN (nW sh a b) x.fst) + (x.snd.snd.length - Int.toNat 1)) ∧ (nW sh a b) - y.snd.snd.snd < (nW sh a b) - x_1.snd.snd.snd ∧ ((x_1.snd.snd.snd : Int) + 1 = (y.snd.snd.snd : Int) ∧
 (x_1.snd.fst.length = y.snd.fst.length ∧ x_1.snd.snd.fst.length = y.snd.snd.fst.length ∧ True) ∧ True) ∧ x_1.snd.fst ++ rowQ x_1.snd.snd.fst = y.snd.fst ++ rowQ y.snd.snd.fst ∧ rowN (nW sh a b) x_1.fst = rowN (nW sh a b)
 y.fst ∧ True))) ∧ (((x_1.snd.snd.snd : Int) < (↑(nW sh a b) : Int) → False) → (∃ (y : (Nat → Int) × List D × List Nat), bfsS (nW sh a b) sh a b k y.fst y.snd.snd ∧ negs (nW sh a b) y.fst + y.snd.snd.length < negs (nW sh
 a b) x.fst + x.snd.snd.length ∧ False) ∨ ∃ (y : (Nat → Int) × List D × List Nat), bfsS (nW sh a b) sh a b k y.fst y.snd.snd ∧ negs (nW sh a b) y.fst + y.snd.snd.length < negs (nW sh a b) x.fst + x.snd.snd.length ∧
 ((x_1.snd.fst.length = y.snd.fst.length ∧ x_1.snd.snd.fst.length = y.snd.snd.length ∧ True) ∧ True) ∧ x_1.snd.fst ++ rowQ x_1.snd.snd.fst = y.snd.fst ++ rowQ y.snd.snd ∧ rowN (nW sh a b) x_1.fst = rowN (nW sh a b) y.fst
 ∧ True)) ∧ ((0 < (x.snd.snd.length : Int) → False) → 0 + (nW sh a b) ≤ (rowN (nW sh a b) x.fst).length ∧ D.list (List.take (nW sh a b) (rowN (nW sh a b) x.fst)) = D.list (distRow (sizeZ sh a b).toNat sh a b k))))) ∧ ((0
 : Int) < 0 → False))) := by intros; kernel_rfl
theorem wrapU {n : Int} (h0 : 0 ≤ n) (h1 : n ≤ 24) : IntKind.u64.wrap n = n := by
  have h : n = 0 ∨ n = 1 ∨ n = 2 ∨ n = 3 ∨ n = 4 ∨ n = 5 ∨ n = 6 ∨ n = 7 ∨ n = 8 ∨ n = 9 ∨ n = 10 ∨ n = 11 ∨ n = 12 ∨ n = 13 ∨ n = 14 ∨ n = 15 ∨ n = 16 ∨ n = 17 ∨ n = 18 ∨ n = 19 ∨ n = 20 ∨ n = 21 ∨ n = 22 ∨ n = 23 ∨ n = 24 := by omega
  rcases h with rfl | rfl | rfl | rfl | rfl | rfl | rfl | rfl | rfl | rfl | rfl | rfl | rfl | rfl | rfl | rfl | rfl | rfl | rfl | rfl | rfl | rfl | rfl | rfl | rfl <;> rfl
theorem wrapI {n : Int} (h0 : 0 ≤ n) (h1 : n ≤ 24) : IntKind.i64.wrap n = n := by
  have h : n = 0 ∨ n = 1 ∨ n = 2 ∨ n = 3 ∨ n = 4 ∨ n = 5 ∨ n = 6 ∨ n = 7 ∨ n = 8 ∨ n = 9 ∨ n = 10 ∨ n = 11 ∨ n = 12 ∨ n = 13 ∨ n = 14 ∨ n = 15 ∨ n = 16 ∨ n = 17 ∨ n = 18 ∨ n = 19 ∨ n = 20 ∨ n = 21 ∨ n = 22 ∨ n = 23 ∨ n = 24 := by omega
  rcases h with rfl | rfl | rfl | rfl | rfl | rfl | rfl | rfl | rfl | rfl | rfl | rfl | rfl | rfl | rfl | rfl | rfl | rfl | rfl | rfl | rfl | rfl | rfl | rfl | rfl <;> rfl
theorem len_rowN (n : Nat) (L : Nat → Int) : (rowN n L).length = n := by simp [rowN]
theorem len_rowQ (Q : List Nat) : (rowQ Q).length = Q.length := by simp [rowQ]
theorem len_rowF {k n : Nat} (h : k ≤ n) : (rowF k n).length = n := by simp [rowF]; omega
theorem negsR_row (n : Nat) (L : Nat → Int) : negsR (rowN n L) = negs n L := by
  unfold negsR negs rowN
  rw [List.filter_map, List.length_map]; rfl
theorem nth_queue (pre : List D) (q : Nat) (Q : List Nat) : (nthD (pre ++ rowQ (q :: Q)) pre.length).asInt = q := by
  induction pre with
  | nil => rfl
  | cons d l ih => exact ih
theorem nonneg_of {x y : Int} (h : y ≤ x) : (x - y).NonNeg := h
theorem nth_rowN {n i : Nat} (L : Nat → Int) (h : i < n) : (nthD (rowN n L) i).asInt = L i := by
  unfold rowN nthD
  simp [h, asInt_int]
theorem set_rowN {n i : Nat} (L : Nat → Int) (z : Int) : (rowN n L).set i (.int z) = rowN n (upd L i z) := by
  apply List.ext_getElem
  · simp [rowN]
  · intro j h1 h2
    simp only [rowN, List.getElem_set, List.getElem_map, List.getElem_range, upd]
    by_cases h : i = j
    · simp [h]
    · simp [h, Ne.symm h]
theorem rowF_full (n : Nat) : rowF n n = rowN n fun _ => -1 := by
  apply List.ext_getElem <;> simp [rowF, rowN]
theorem rowF_one {n : Nat} (h : 0 < n) : List.take 0 (List.replicate n (D.int 0)) ++ List.take (min 1 n) [D.int (-1)] ++ List.drop (min 1 n) (List.replicate n (D.int 0)) = rowF 1 n := by
  rw [Nat.min_eq_left h]; simp [rowF]
theorem rowF_step {x n : Nat} (h : x ≤ n) : List.take x (rowF x n) ++ List.take (min x (n - x)) (List.drop 0 (rowF x n)) ++ List.drop (x + min x (n - x)) (rowF x n) = rowF (x + min x (n - x)) n := by
  have h1 : min x (n - x) ≤ x := Nat.min_le_left _ _
  have h2 : min x (n - x) ≤ n - x := Nat.min_le_right _ _
  generalize min x (n - x) = m at *
  unfold rowF
  rw [List.drop_zero, List.take_left' (by simp), List.take_append_of_le_length (by simpa using h1), List.drop_append, List.take_replicate, List.drop_replicate, List.drop_replicate, ← List.append_assoc]
  simp only [List.length_replicate, Nat.min_eq_left h1]
  rw [show x - (x + m) = 0 by omega, show x + m - x = m by omega, List.replicate_zero, List.append_nil, show n - x - m = n - (x + m) by omega, List.replicate_append_replicate]
theorem bfsI.step {n : Nat} {sh a b k : Int} {q i : Nat} {L : Nat → Int} {Q : List Nat} (h : bfsI n sh a b k q i L Q) (hi : i < n) (h0 : L i < 0) (hn : nearP sh a b q i) :
    bfsI n sh a b k q ((i + 1 : Nat) : Int) (upd L i (L q + 1)) (Q ++ [i]) ∧ negs n (upd L i (L q + 1)) + 1 = negs n L := by
  obtain ⟨d, hd⟩ := h.out
  simp only [Int.toNat_natCast] at hd
  have h1 := hd.step hi h0 hn
  have hq := hd.here
  have h2 : negs n (upd L i (L q + 1)) + 1 = negs n L := negs_upd hi h0 (by omega)
  refine ⟨⟨⟨d, ?_⟩, fun m hm => ?_⟩, h2⟩
  · rw [hq.2]; simpa only [Int.toNat_natCast] using h1
  · have l1 := h.low m hm
    have l2 := h.low q hq.1
    unfold upd
    split <;> (first | (have h2' := h2; unfold upd at h2'; omega) | skip)
theorem bfsI.skip {n : Nat} {sh a b k : Int} {q i : Nat} {L : Nat → Int} {Q : List Nat} (h : bfsI n sh a b k q i L Q) (hno : ¬ (L i < 0 ∧ nearP sh a b q i)) : bfsI n sh a b k q ((i + 1 : Nat) : Int) L Q := by
  obtain ⟨d, hd⟩ := h.out
  simp only [Int.toNat_natCast] at hd
  exact ⟨⟨d, by simpa only [Int.toNat_natCast] using hd.skip hno⟩, h.low⟩
theorem bfsI.leave {n : Nat} {sh a b k : Int} {q i : Nat} {L : Nat → Int} {Q : List Nat} (h : bfsI n sh a b k q i L Q) (hi : ¬ i < n) (hi' : i ≤ n) (hl : negs n L + Q.length ≤ n) : bfsS n sh a b k L Q := by
  obtain ⟨d, hd⟩ := h.out
  have e : i = n := by omega
  subst e
  simp only [Int.toNat_natCast] at hd
  exact ⟨hd.leave, h.low, hl⟩
theorem bfsS.enter {n : Nat} {sh a b k : Int} {q : Nat} {L : Nat → Int} {Q : List Nat} (h : bfsS n sh a b k L (q :: Q)) : bfsI n sh a b k q ((0 : Nat) : Int) L Q := by
  obtain ⟨d, _, hd⟩ := h.out.enter
  exact ⟨⟨d, by simpa only [Int.toNat_natCast] using hd⟩, h.low⟩
theorem bfsS.start {n : Nat} {sh a b k : Int} (h0 : 0 ≤ k) (h1 : k < n) : bfsS n sh a b k (upd (fun _ => -1) k.toNat 0) [k.toNat] := by
  have hk : k.toNat < n := by omega
  have hn : negs n (upd (fun _ => -1) k.toNat 0) + 1 = negs n fun _ => -1 := negs_upd hk (by omega) (by omega)
  have hle := negs_le (n := n) fun _ => -1
  refine ⟨Bfs.start hk, fun m _ => ?_, by simp only [List.length_cons, List.length_nil]; omega⟩
  have : upd (fun _ => -1) k.toNat 0 m ≤ 0 := by unfold upd; split <;> simp
  omega
theorem bfsS.finish {n : Nat} {sh a b k : Int} {L : Nat → Int} (h : bfsS n sh a b k L []) : rowN n L = distRow n sh a b k := by
  unfold distRow rowN
  refine List.map_congr_left fun m hm => ?_
  rw [h.out.finish m (List.mem_range.1 hm)]
theorem s86 (nm : List UInt8) (sh a b : Int) (o : D) (x y k : Int) (h : inTab sh a b k) : symFun (ctx seat2 distAnn) 8 86 [.agg [.str nm, .int .u8 sh, .int .i64 a, .int .i64 b, .dat 29 o, .int .i64 x, .int .i64 y], .int .i64 k] (.dat 29 (.list (distRow (sizeZ sh a b).toNat sh a b k))) := by
  have hs := size_cases h.out.1
  have hk := h.out.2
  have h24 : 0 < sizeZ sh a b ∧ sizeZ sh a b ≤ 24 := by omega
  have hT : ∀ m : Int, inTab sh a b m ↔ 0 ≤ m ∧ m < sizeZ sh a b := fun m => ⟨fun h => h.out.2, fun h' => ⟨h.out.1, h'⟩⟩
  rw [vc86]
  unfold nW hdQ
  have e3 : (ctx seat2 distAnn).P.types[(3 : Nat)].bytes = 8 := rfl
  obtain ⟨n, hn⟩ : ∃ n : Nat, sizeZ sh a b = n := ⟨(sizeZ sh a b).toNat, by omega⟩
  rw [hn] at hk h24
  have e1 := wrapU (n := n) (by omega) h24.2
  have e2 := wrapI (n := n) (by omega) h24.2
  simp only [hT, hn, e1, e2, e3, Int.toNat_natCast, len_rowN, len_rowQ, negsR_row, List.length_append, List.length_replicate, List.length_cons, List.length_nil, Int.toNat_zero, Int.toNat_one, Nat.zero_add, Nat.add_zero, true_and, and_true, and_false, exists_false, exists_const, or_false, false_or, imp_false, Classical.not_not, Int.ofNat_lt, Int.natCast_nonneg, Int.natCast_inj]
  clear e1 e2 e3 hT
  refine ⟨by omega, by omega, fun _ => ⟨⟨rfl, by omega⟩, fun _ => ⟨by omega, fun _ => ⟨by omega, by omega, by omega, by omega, by omega, by omega, by omega, ⟨1, ⟨by omega, by omega⟩, by omega, rowF_one (by omega)⟩, fun x hx => ⟨by unfold LIM; omega, fun hlt => ?A, fun hge => ?B⟩⟩⟩, by omega⟩⟩
  case A =>
    have hF := len_rowF hx.2
    refine ⟨by omega, nonneg_of (by omega), by omega, nonneg_of (by omega), by omega, by omega, by omega, by omega, ⟨by omega, by omega⟩, x + min x (n - x), ⟨by omega, by omega⟩, by omega, by omega, rowF_step hx.2⟩
  case B =>
    have hF := len_rowF hx.2
    have hxn : x = n := by omega
    subst hxn
    refine ⟨hk.1, hk.2, by omega, ⟨(upd (fun _ => -1) k.toNat 0, [], [k.toNat]), bfsS.start hk.1 hk.2, ⟨rfl, rfl, rfl⟩, ?_, ?_⟩, ?O0, ?O1⟩
    · show [D.int k] = [D.int (k.toNat : Int)]
      rw [Int.toNat_of_nonneg hk.1]
    · rw [rowF_full, set_rowN]
    all_goals
      rintro ⟨L, pre, Q⟩ hb
      have hlen := hb.len
      refine ⟨by unfold LIM; simp only at hlen ⊢; omega, fun h0 => ?_, fun h0 => ⟨by omega, ?_⟩⟩
      rotate_left
      · have hQ : Q = [] := List.eq_nil_of_length_eq_zero (by simp only at h0; omega)
        subst hQ
        rw [List.take_of_length_le (by rw [len_rowN]; exact Nat.le_refl _), bfsS.finish hb]
      cases Q with
      | nil => exact absurd h0 (by simp)
      | cons q Q =>
        have hq : q < x := (hb.out.q q List.mem_cons_self).1
        simp only [nth_queue, List.length_cons] at hlen ⊢
        refine ⟨by omega, by omega, by omega, by omega, by omega, nonneg_of (by omega), ⟨(L, pre ++ [D.int (q : Int)], Q, 0), ?_⟩, ?_, ?_⟩
        · refine ⟨⟨bfsS.enter hb, Nat.zero_le _, ?_⟩, by simp, by simp [rowQ], rfl⟩
          show negs x L + Q.length = negs x L + (Q.length + 1 - 1); omega
        all_goals
          rintro ⟨L1, p1, Q1, i⟩ ⟨hI, hle, hng⟩
          simp only at hI hle hng ⊢
          have hlen' : negs x L + (Q.length + 1) ≤ x := hlen
          refine ⟨by unfold LIM; omega, fun hi => ?_, fun hi => ⟨(L1, p1, Q1), hI.leave hi hle (by omega), ?_⟩⟩
          · have hL := nth_rowN L1 hi
            have hLq := nth_rowN L1 hq
            simp only [hL, hLq, Int.toNat_natCast]
            refine ⟨hi, hi, fun hneg => ⟨⟨⟨by omega, by omega⟩, hi⟩, fun hn => ?_, fun hn => ⟨⟨by omega, by omega⟩, (L1, p1, Q1, i + 1), ⟨hI.skip fun h => hn h.2, hi, hng⟩, ?_⟩⟩, fun hneg => ⟨⟨by omega, by omega⟩, (L1, p1, Q1, i + 1), ⟨hI.skip fun h => hneg h.1, hi, hng⟩, ?_⟩⟩
            · obtain ⟨hs1, hs2⟩ := hI.step hi hneg hn
              have lq := hI.low q hq
              have hrow := set_rowN (n := x) (i := i) L1 (L1 q + 1)
              have hge : 0 ≤ L1 q := by obtain ⟨d, hd⟩ := hI.out; have := hd.here.2; simp only [Int.toNat_natCast] at this; omega
              repeat' (first | apply And.intro | intro _)
              all_goals first
                | omega
                | (exfalso; omega)
                | (refine ⟨(upd L1 i (L1 q + 1), [], Q1 ++ [i], i + 1), ⟨hs1, hi, ?_⟩, ?_, ?_, ?_, hrow⟩
                   · show negs x (upd L1 i (L1 q + 1)) + (Q1 ++ [i]).length = _
                     simp only [List.length_append, List.length_cons, List.length_nil]; omega
                   · show x - (i + 1) < x - i; omega
                   · simp
                   · simp only [List.nil_append, rowQ, List.map_append, List.drop_left, List.map_cons, List.map_nil, List.take_succ_cons, List.take_zero]
                     rw [List.take_of_length_le (by simp)])
            · exact ⟨by show x - (i + 1) < x - i; omega, by simp, rfl, rfl⟩
            · exact ⟨by show x - (i + 1) < x - i; omega, by simp, rfl, rfl⟩
          · exact ⟨by show negs x L1 + Q1.length < negs x L + (Q.length + 1); omega, by simp, rfl, rfl⟩
theorem vs2 : ∀ d, 37 ≤ d → ∀ g c, seat2 g = some c → VC d g c := fun d hd g c h => by
  unfold seat2 at h
  split at h
  · cases h; exact v88 d hd
  · cases h; exact valid_ext (v170 d (by omega))
  · exact vs1 d (by omega) _ c h
end Go.Ev
