/-
  Part of the engine that the claim is proved with: it states nothing of the document by itself.
-/
import Derived.Test.YtenmglepjkflhaaDoorCoreG32

section
open Go.Proofs
namespace Go.Ev
set_option maxRecDepth 100000
set_option maxHeartbeats 4000000
def nK (q k : Int) (x : Nat) : List D := netS q.toNat k.toNat x ++ List.replicate (q.toNat - x) D.nil
def nJ (q k : Int) (x y : Nat) : List D := netI (netS q.toNat k.toNat x ++ List.replicate (q.toNat - x) D.nil) q.toNat k.toNat x y
theorem vc4 : ∀ (k q : Int), symFun (ctx nt3 ntAnn) 4 (38 : FuncId) [V.int IntKind.i64 k, V.int IntKind.i64 q] (V.tup [V.dat (24 : TypeId) (netR k q), V.int IntKind.i64 (netX k q)]) = (fldP q ∧ (((True → False) → False)
→ ((k < 1 → False) → ((q < k → False) → fits64 (k * q) ∧ (64 < k * q → D.nil = netR k q ∧ 90 = netX k q ∧ True) ∧ ((64 < k * q → False) → 0 ≤ q ∧ q ≤ q ∧ q ≤ 16777216 ∧ 24 * q.toNat ≤ 281474976710656 ∧ (∃ (x : Nat), x.le
q.toNat ∧ (0 = (x : Int) ∧ True) ∧ (List.replicate q.toNat D.nil = nK q k x ∧ allNil (List.replicate q.toNat D.nil)) ∧ True) ∧ ∀ (x : Nat), x.le q.toNat → q.toNat - x < LIM ∧ ((x : Int) < q → (∃ (x_1 : Nat), x_1.le
q.toNat ∧ (0 = (x_1 : Int) ∧ True) ∧ nK q k x = nJ q k x x_1 ∧ True) ∧ ∀ (x_1 : Nat), x_1.le q.toNat → q.toNat - x_1 < LIM ∧ ((x_1 : Int) < q → ((∃ (x : Nat), x = 0 ∧ (0 = (x : Int) ∧ True ∧ True) ∧ True) ∨ ∃ (x : Nat),
(0 < x ∧ x ≤ k.toNat) ∧ (0 = (x : Int) ∧ False ∧ True) ∧ False ∧ True) ∧ (∀ (x_2 : Nat), x_2 = 0 → k.toNat - x_2 < LIM ∧ ((x_2 : Int) < k → fits64 ((x_2 : Int) * q) ∧ (fldP q ∧ fpZ q = fpZ q ∧ frZ q = frZ q ∧ eltP q (x :
Int) ∧ eltP q (x_2 : Int)) ∧ (fldP q ∧ fpZ q = fpZ q ∧ frZ q = frZ q ∧ (1 : Int) = 1 ∧ eltP q (mulZ q (x : Int) (x_2 : Int)) ∧ eltP q (x_1 : Int)) ∧ fits64 ((x_2 : Int) * q + addZ q (mulZ q (x : Int) (x_2 : Int)) (x_1 :
Int)) ∧ 0 + 1 ≤ [D.int ((x_2 : Int) * q + addZ q (mulZ q (x : Int) (x_2 : Int)) (x_1 : Int))].length ∧ (1 : Nat) ≤ 16777216 ∧ fits64 ((x_2 : Int) + 1) ∧ ((∃ (y : Nat), y = 0 ∧ k.toNat - y < k.toNat - x_2 ∧ ((x_2 : Int) +
1 = (y : Int) ∧ False ∧ True) ∧ True) ∨ ∃ (y : Nat), (0 < y ∧ y ≤ k.toNat) ∧ k.toNat - y < k.toNat - x_2 ∧ ((x_2 : Int) + 1 = (y : Int) ∧ ((0 : Nat) = 0 ∧ 1 = y ∧ True) ∧ True) ∧ List.take 1 [D.int ((x_2 : Int) * q +
addZ q (mulZ q (x : Int) (x_2 : Int)) (x_1 : Int))] = netT q.toNat x x_1 y ∧ True)) ∧ (((x_2 : Int) < k → False) → 0 ≤ (x : Int) ∧ (x : Int) < (q.toNat : Int) ∧ x < (nJ q k x x_1).length ∧ (nthD (nJ q k x x_1) x = D.nil
→ 0 + 1 ≤ [D.nil].length ∧ (1 : Nat) ≤ 16777216 ∧ 0 ≤ (x : Int) ∧ (x : Int) < (q.toNat : Int) ∧ x < (nJ q k x x_1).length ∧ True ∧ (0 : Nat) = 0 ∧ 1 = (List.take 1 [D.nil]).length ∧ True ∧ fits64 ((x_1 : Int) + 1) ∧ ∃ (y
: Nat), y.le q.toNat ∧ q.toNat - y < q.toNat - x_1 ∧ ((x_1 : Int) + 1 = (y : Int) ∧ True) ∧ (nJ q k x x_1).set x (D.list (List.take 1 [D.nil])) = netI (nK q k x) q.toNat k.toNat x y ∧ True) ∧ (∀ (r : List D), nthD (nJ q
k x x_1) x = D.list r → x < (nJ q k x x_1).length ∧ r.length = (nthD (nJ q k x x_1) x).len ∧ (∃ (r : List D), nthD (nJ q k x x_1) x = D.list r) ∧ Nat.le 1 1 ∧ 0 + 1 ≤ [D.nil].length ∧ 0 + r.length ≤ (nthD (nJ q k x x_1)
x).asList.length ∧ r.length + 1 ≤ 16777216 ∧ 0 ≤ (x : Int) ∧ (x : Int) < (q.toNat : Int) ∧ x < ((nJ q k x x_1).set x (D.int 0)).length ∧ True ∧ (0 : Nat) = 0 ∧ r.length + 1 = (List.take r.length (nthD (nJ q k x x_1)
x).asList ++ List.take 1 [D.nil]).length ∧ True ∧ fits64 ((x_1 : Int) + 1) ∧ ∃ (y : Nat), y.le q.toNat ∧ q.toNat - y < q.toNat - x_1 ∧ ((x_1 : Int) + 1 = (y : Int) ∧ True) ∧ ((nJ q k x x_1).set x (D.int 0)).set x (D.list
(List.take r.length (nthD (nJ q k x x_1) x).asList ++ List.take 1 [D.nil])) = netI (nK q k x) q.toNat k.toNat x y ∧ True) ∧ ∀ (n : Int), nthD (nJ q k x x_1) x = D.int n → False)) ∧ ∀ (x_2 : Nat), 0 < x_2 ∧ x_2 ≤ k.toNat
→ k.toNat - x_2 < LIM ∧ ((x_2 : Int) < k → fits64 ((x_2 : Int) * q) ∧ (fldP q ∧ fpZ q = fpZ q ∧ frZ q = frZ q ∧ eltP q (x : Int) ∧ eltP q (x_2 : Int)) ∧ (fldP q ∧ fpZ q = fpZ q ∧ frZ q = frZ q ∧ (1 : Int) = 1 ∧ eltP q
(mulZ q (x : Int) (x_2 : Int)) ∧ eltP q (x_1 : Int)) ∧ fits64 ((x_2 : Int) * q + addZ q (mulZ q (x : Int) (x_2 : Int)) (x_1 : Int)) ∧ 0 + 1 ≤ [D.int ((x_2 : Int) * q + addZ q (mulZ q (x : Int) (x_2 : Int)) (x_1 :
Int))].length ∧ 0 + x_2 ≤ (netT q.toNat x x_1 x_2).length ∧ x_2 + 1 ≤ 16777216 ∧ fits64 ((x_2 : Int) + 1) ∧ ((∃ (y : Nat), y = 0 ∧ k.toNat - y < k.toNat - x_2 ∧ ((x_2 : Int) + 1 = (y : Int) ∧ False ∧ True) ∧ True) ∨ ∃ (y
: Nat), (0 < y ∧ y ≤ k.toNat) ∧ k.toNat - y < k.toNat - x_2 ∧ ((x_2 : Int) + 1 = (y : Int) ∧ ((0 : Nat) = 0 ∧ x_2 + 1 = y ∧ True) ∧ True) ∧ List.take x_2 (netT q.toNat x x_1 x_2) ++ List.take 1 [D.int ((x_2 : Int) * q +
addZ q (mulZ q (x : Int) (x_2 : Int)) (x_1 : Int))] = netT q.toNat x x_1 y ∧ True)) ∧ (((x_2 : Int) < k → False) → 0 ≤ (x : Int) ∧ (x : Int) < (q.toNat : Int) ∧ x < (nJ q k x x_1).length ∧ (nthD (nJ q k x x_1) x = D.nil
→ 0 + x_2 ≤ (netT q.toNat x x_1 x_2).length ∧ 0 + 1 ≤ [D.list (List.take x_2 (netT q.toNat x x_1 x_2))].length ∧ (1 : Nat) ≤ 16777216 ∧ 0 ≤ (x : Int) ∧ (x : Int) < (q.toNat : Int) ∧ x < (nJ q k x x_1).length ∧ True ∧ (0
: Nat) = 0 ∧ 1 = (List.take 1 [D.list (List.take x_2 (netT q.toNat x x_1 x_2))]).length ∧ True ∧ fits64 ((x_1 : Int) + 1) ∧ ∃ (y : Nat), y.le q.toNat ∧ q.toNat - y < q.toNat - x_1 ∧ ((x_1 : Int) + 1 = (y : Int) ∧ True) ∧
(nJ q k x x_1).set x (D.list (List.take 1 [D.list (List.take x_2 (netT q.toNat x x_1 x_2))])) = netI (nK q k x) q.toNat k.toNat x y ∧ True) ∧ (∀ (r : List D), nthD (nJ q k x x_1) x = D.list r → 0 + x_2 ≤ (netT q.toNat x
x_1 x_2).length ∧ x < (nJ q k x x_1).length ∧ r.length = (nthD (nJ q k x x_1) x).len ∧ (∃ (r : List D), nthD (nJ q k x x_1) x = D.list r) ∧ Nat.le 1 1 ∧ 0 + 1 ≤ [D.list (List.take x_2 (netT q.toNat x x_1 x_2))].length ∧
0 + r.length ≤ (nthD (nJ q k x x_1) x).asList.length ∧ r.length + 1 ≤ 16777216 ∧ 0 ≤ (x : Int) ∧ (x : Int) < (q.toNat : Int) ∧ x < ((nJ q k x x_1).set x (D.int 0)).length ∧ True ∧ (0 : Nat) = 0 ∧ r.length + 1 =
(List.take r.length (nthD (nJ q k x x_1) x).asList ++ List.take 1 [D.list (List.take x_2 (netT q.toNat x x_1 x_2))]).length ∧ True ∧ fits64 ((x_1 : Int) + 1) ∧ ∃ (y : Nat), y.le q.toNat ∧ q.toNat - y < q.toNat - x_1 ∧
((x_1 : Int) + 1 = (y : Int) ∧ True) ∧ ((nJ q k x x_1).set x (D.int 0)).set x (D.list (List.take r.length (nthD (nJ q k x x_1) x).asList ++ List.take 1 [D.list (List.take x_2 (netT q.toNat x x_1 x_2))])) = netI (nK q k
x) q.toNat k.toNat x y ∧ True) ∧ ∀ (n : Int), nthD (nJ q k x x_1) x = D.int n → False)) ∧ (((x_1 : Int) < q → False) → fits64 ((x : Int) + 1) ∧ ∃ (y : Nat), y.le q.toNat ∧ q.toNat - y < q.toNat - x ∧ ((x : Int) + 1 = (y
: Int) ∧ True) ∧ nJ q k x x_1 = netS q.toNat k.toNat y ++ List.replicate (q.toNat - y) D.nil ∧ True)) ∧ (((x : Int) < q → False) → (0 + q.toNat ≤ (nK q k x).length ∧ noHole (nK q k x) ∧ (isSliceT (ctx nt3 ntAnn).P (33 :
TypeId) = true ∧ sizeIs (ctx nt3 ntAnn).P (33 : TypeId) 1 = true) ∧ D.list (List.take q.toNat (nK q k x)) = netR k q) ∧ 0 = netX k q ∧ True))) ∧ (q < k → D.nil = netR k q ∧ 90 = netX k q ∧ True)) ∧ (k < 1 → D.nil = netR
k q ∧ 90 = netX k q ∧ True)) ∧ ((True → False) → D.nil = netR k q ∧ 90 = netX k q ∧ True)) := by intros; kernel_rfl
theorem vc9 : ∀ (q : Int), symFun (ctx cc0 noAnn) 3 (56 : FuncId) [V.int IntKind.i64 q] (V.tup [V.agg [V.int IntKind.i64 q, V.int IntKind.i64 (fpZ q), V.int IntKind.i64 (frZ q)], V.prop True]) = ((q = 2 → (q = q ∧ q =
fpZ q ∧ 0 = frZ q ∧ True) ∧ (true = true ↔ True) ∧ True) ∧ ((q = 2 → False) → (q = 3 → (q = q ∧ q = fpZ q ∧ 0 = frZ q ∧ True) ∧ (true = true ↔ True) ∧ True) ∧ ((q = 3 → False) → (q = 5 → (q = q ∧ q = fpZ q ∧ 0 = frZ q ∧
True) ∧ (true = true ↔ True) ∧ True) ∧ ((q = 5 → False) → (q = 7 → (q = q ∧ q = fpZ q ∧ 0 = frZ q ∧ True) ∧ (true = true ↔ True) ∧ True) ∧ ((q = 7 → False) → (q = 11 → (q = q ∧ q = fpZ q ∧ 0 = frZ q ∧ True) ∧ (true =
true ↔ True) ∧ True) ∧ ((q = 11 → False) → (q = 13 → (q = q ∧ q = fpZ q ∧ 0 = frZ q ∧ True) ∧ (true = true ↔ True) ∧ True) ∧ ((q = 13 → False) → (q = 4 → (q = q ∧ 2 = fpZ q ∧ 3 = frZ q ∧ True) ∧ (true = true ↔ True) ∧
True) ∧ ((q = 4 → False) → (q = 8 → (q = q ∧ 2 = fpZ q ∧ 3 = frZ q ∧ True) ∧ (true = true ↔ True) ∧ True) ∧ ((q = 8 → False) → (q = 16 → (q = q ∧ 2 = fpZ q ∧ 3 = frZ q ∧ True) ∧ (true = true ↔ True) ∧ True) ∧ ((q = 16 →
False) → (q = 9 → (q = q ∧ 3 = fpZ q ∧ 2 = frZ q ∧ True) ∧ (true = true ↔ True) ∧ True) ∧ ((q = 9 → False) → (0 = q ∧ 0 = fpZ q ∧ 0 = frZ q ∧ True) ∧ (false = true ↔ True) ∧ True))))))))))) := by intros; kernel_rfl
theorem s9 (q : Int) (h : fldP q) : symFun (ctx cc0 noAnn) 3 56 [.int .i64 q] (.tup [.agg [.int .i64 q, .int .i64 (fpZ q), .int .i64 (frZ q)], .prop True]) := by
 rw [vc9]
 rcases h.out with rfl | rfl | rfl | rfl | rfl | rfl | rfl | rfl | rfl | rfl
 all_goals
  repeat' (first | apply And.intro | intro _)
  all_goals first | exact trivial | decide | exact iff_of_true rfl trivial | (exfalso; first | omega | solve_by_elim)
theorem netT_succ (q a b r : Nat) : netT q a b (r + 1) = netT q a b r ++ [.int (nV q a b r : Nat)] := by unfold netT; rw [List.range_succ, List.map_append]; rfl
theorem netE_succ (q k a x : Nat) : netE q k a (x + 1) = netE q k a x ++ [.list (netT q a x k)] := by unfold netE; rw [List.range_succ, List.map_append]; rfl
theorem netS_next {q k x : Nat} (h : x < q) : (netS q k x ++ List.replicate (q - x) D.nil).set x (.list (netE q k x q)) = netS q k (x + 1) ++ List.replicate (q - (x + 1)) D.nil := by
 have e : q - x = q - (x + 1) + 1 := by omega
 rw [List.set_append_right _ _ (by rw [netS_len]; exact Nat.le_refl _), netS_len, Nat.sub_self, e, List.replicate_succ, List.set_cons_zero]
 unfold netS
 rw [List.range_succ, List.map_append, List.append_assoc]
 rfl
theorem netS_base (q k x : Nat) (h : x ≤ q) : (netS q k x ++ List.replicate (q - x) D.nil).length = q := by rw [List.length_append, netS_len, List.length_replicate]; omega
theorem netS_nil {q k x : Nat} (h : x < q) : nthD (netS q k x ++ List.replicate (q - x) D.nil) x = .nil := by
 unfold nthD
 rw [List.getElem?_append_right (by rw [netS_len]; exact Nat.le_refl _), netS_len, Nat.sub_self, List.getElem?_replicate, if_pos (by omega)]; rfl
theorem netI_len (l : List D) (q k a : Nat) : ∀ x, (netI l q k a x).length = l.length
 | 0 => rfl
 | x + 1 => by unfold netI; rw [List.length_set]
theorem netI_at {l : List D} (q k : Nat) {a : Nat} (ha : a < l.length) (h0 : nthD l a = .nil) : ∀ x, (x = 0 ∧ nthD (netI l q k a x) a = .nil) ∨ (0 < x ∧ nthD (netI l q k a x) a = .list (netE q k a x))
 | 0 => .inl ⟨rfl, h0⟩
 | x + 1 => .inr ⟨by omega, by unfold netI; rw [nthD_set _ _ _ _ ha, if_pos rfl]⟩
theorem netI_set (l : List D) (q k a : Nat) (d : D) : ∀ x, (netI l q k a x).set a d = l.set a d
 | 0 => rfl
 | x + 1 => by unfold netI; rw [List.set_set]
theorem netS_noHole (q k : Nat) : noHole (netS q k q ++ List.replicate (q - q) D.nil) := ⟨fun n h => by
 rw [Nat.sub_self, List.replicate_zero, List.append_nil] at h
 obtain ⟨i, _, e⟩ := List.mem_map.1 h
 cases e⟩
theorem qs_rng {q : Nat} (h : q ∈ qsL) : 2 ≤ q ∧ q ≤ 16 := by
 unfold qsL at h
 simp only [List.mem_cons, List.not_mem_nil, or_false] at h
 omega
theorem nV_int (q a b r : Nat) : (r : Int) * (q : Int) + addZ (q : Int) (mulZ (q : Int) (a : Int) (r : Int)) (b : Int) = ((nV q a b r : Nat) : Int) := by
 show (r : Int) * (q : Int) + ((aN q (mN q a r) b : Nat) : Int) = ((r * q + aN q (mN q a r) b : Nat) : Int)
 rw [Int.natCast_add, Int.natCast_mul]
theorem sl4 : isSliceT (ctx nt3 ntAnn).P (33 : TypeId) = true ∧ sizeIs (ctx nt3 ntAnn).P (33 : TypeId) (1 : Nat) = true := by constructor <;> kernel_rfl
theorem net_no {k q : Int} (h : ¬ netQ k q) : D.nil = netR k q ∧ (90 : Int) = netX k q ∧ True := by
 unfold netR netX; rw [if_neg h, if_neg h]; exact ⟨rfl, rfl, trivial⟩
theorem s4 (k q : Int) (hf : fldP q) (hk1 : 1 ≤ k) (hk2 : k ≤ 65) : symFun (ctx nt3 ntAnn) 4 38 [.int .i64 k, .int .i64 q] (.tup [.dat 24 (netR k q), .int .i64 (netX k q)]) := by
 rw [vc4]
 unfold nJ nK
 refine ⟨hf, ⟨fun _ => ⟨fun _ => ⟨fun hle => ?_, fun hlt => net_no fun h => by have := h.kq; omega⟩, fun h => by omega⟩, fun h => (h trivial).elim⟩⟩
 have hle := not_of hle
 obtain ⟨Q, hQ, rfl⟩ := fld_nat hf
 obtain ⟨K, rfl⟩ : ∃ n : Nat, k = n := ⟨k.toNat, by omega⟩
 obtain ⟨hQ1, hQ2⟩ := qs_rng hQ
 have hKQ : K ≤ Q := by omega
 have hP : (K : Int) * (Q : Int) = ((K * Q : Nat) : Int) := (Int.natCast_mul K Q).symm
 have hPb : K * Q ≤ 256 := Nat.le_trans (Nat.mul_le_mul hKQ (Nat.le_refl Q)) (Nat.le_trans (Nat.mul_le_mul hQ2 hQ2) (by decide))
 refine ⟨⟨by rw [hP]; omega, by rw [hP]; omega⟩, fun h64 => net_no fun h => by have := h.lim; omega, fun h64 => ?_⟩
 have h64 := not_of h64
 have hyes : netQ (K : Int) (Q : Int) := ⟨hf, hk1, by omega, by omega⟩
 rw [Int.toNat_natCast, Int.toNat_natCast]
 have hmul : ∀ r : Nat, r ≤ 16 → 0 ≤ (r : Int) * (Q : Int) ∧ (r : Int) * (Q : Int) ≤ 256 := fun r hr => by
  rw [← Int.natCast_mul]
  have := Nat.mul_le_mul hr hQ2
  omega
 refine ⟨by omega, Int.le_refl _, by omega, by omega, ⟨0, Nat.zero_le _, ⟨rfl, trivial⟩, ⟨rfl, allNil_rep _⟩, trivial⟩, fun x hx => ?_⟩
 have hx : x ≤ Q := hx
 have hlen := netS_base Q K x hx
 refine ⟨limS (by omega), fun hlt => ⟨⟨0, Nat.zero_le _, ⟨rfl, trivial⟩, rfl, trivial⟩, fun b hb => ?_⟩, fun hge => ?_⟩
 ·have hxQ : x < Q := by omega
  have hb : b ≤ Q := hb
  have hnil := netS_nil (q := Q) (k := K) hxQ
  have hIl : (netI (netS Q K x ++ List.replicate (Q - x) D.nil) Q K x b).length = Q := by rw [netI_len, hlen]
  have hIa := netI_at Q K (l := netS Q K x ++ List.replicate (Q - x) D.nil) (a := x) (by rw [hlen]; exact hxQ) hnil b
  have hIs : ∀ d, (netI (netS Q K x ++ List.replicate (Q - x) D.nil) Q K x b).set x d = (netS Q K x ++ List.replicate (Q - x) D.nil).set x d := fun d => netI_set _ _ _ _ _ b
  refine ⟨limS (by omega), fun hlt2 => ⟨.inl ⟨0, rfl, ⟨rfl, trivial, trivial⟩, trivial⟩, fun r hr => ?_, fun r ⟨hr1, hr2⟩ => ?_⟩, fun hge2 => ?_⟩
  ·subst hr
   have hbQ : b < Q := by omega
   refine ⟨limS (by omega), fun hlt3 => ?_, fun hge3 => absurd (by omega) (not_of hge3)⟩
   have e1 : eltP (Q : Int) (x : Int) := ⟨by omega, by omega⟩
   have e2 : eltP (Q : Int) ((0 : Nat) : Int) := ⟨by omega, by omega⟩
   have e3 : eltP (Q : Int) (b : Int) := ⟨by omega, by omega⟩
   have e4 := mul_elt hf e1 e2
   have e5 := (add_elt hf e4 e3).out
   have e6 := hmul 0 (by omega)
   have hv := nV_int Q x b 0
   rw [hv] 
   refine ⟨⟨by omega, by omega⟩, ⟨hf, rfl, rfl, e1, e2⟩, ⟨hf, rfl, rfl, rfl, e4, e3⟩, ⟨by omega, by omega⟩, Nat.le_refl _, by decide, ⟨by decide, by decide⟩, .inr ⟨1, ⟨by omega, by omega⟩, by omega, ⟨rfl, ⟨rfl, rfl, trivial⟩, trivial⟩, rfl, trivial⟩⟩
  ·have hbQ : b < Q := by omega
   refine ⟨limS (by omega), fun hlt3 => ?_, fun hge3 => ?_⟩
   ·have e1 : eltP (Q : Int) (x : Int) := ⟨by omega, by omega⟩
    have e2 : eltP (Q : Int) (r : Int) := ⟨by omega, by omega⟩
    have e3 : eltP (Q : Int) (b : Int) := ⟨by omega, by omega⟩
    have e4 := mul_elt hf e1 e2
    have e5 := (add_elt hf e4 e3).out
    have e6 := hmul r (by omega)
    have hv := nV_int Q x b r
    rw [hv]
    refine ⟨⟨by omega, by omega⟩, ⟨hf, rfl, rfl, e1, e2⟩, ⟨hf, rfl, rfl, rfl, e4, e3⟩, ⟨by omega, by omega⟩, Nat.le_refl _, by rw [netT_len]; omega, by omega, ⟨by omega, by omega⟩, .inr ⟨r + 1, ⟨by omega, by omega⟩, by omega, ⟨by omega, ⟨rfl, rfl, trivial⟩, trivial⟩, ?_, trivial⟩⟩
    rw [List.take_of_length_le (by rw [netT_len]; exact Nat.le_refl _), netT_succ]; rfl
   ·have hge3 := not_of hge3
    have er : r = K := by omega
    subst er
    have hTk : List.take r (netT Q x b r) = netT Q x b r := List.take_of_length_le (by rw [netT_len]; exact Nat.le_refl _)
    rw [hIl]
    refine ⟨by omega, by omega, by omega, fun hn => ?_, fun rw_ hrw => ?_, fun n hn => ?_⟩
    ·rcases hIa with ⟨hb0, _⟩ | ⟨_, h2⟩
     ·subst hb0
      refine ⟨by rw [netT_len]; omega, Nat.le_refl _, by decide, by omega, by omega, by omega, trivial, rfl, rfl, trivial, ⟨by decide, by decide⟩, 1, by show 1 ≤ _; omega, by omega, ⟨rfl, trivial⟩, ?_, trivial⟩
      rw [hTk, hIs]; rfl
     ·rw [h2] at hn; cases hn
    ·rcases hIa with ⟨_, h2⟩ | ⟨hb0, h2⟩
     ·rw [h2] at hrw; cases hrw
     ·rw [h2] at hrw; cases hrw
      have hEl := netE_len Q r x b
      have hs2 : ((netI (netS Q r x ++ List.replicate (Q - x) D.nil) Q r x b).set x (D.int (0 : Int))).length = Q := by rw [List.length_set, hIl]
      rw [h2, hTk, hs2]
      refine ⟨by rw [netT_len]; omega, by omega, rfl, ⟨_, rfl⟩, Nat.le_refl _, Nat.le_refl _, by show 0 + _ ≤ (netE Q r x b).length; omega, by omega, by omega, by omega, by omega, trivial, rfl, ?_, trivial, ⟨by omega, by omega⟩, b + 1, by show b + 1 ≤ _; omega, by omega, ⟨by omega, trivial⟩, ?_, trivial⟩
      ·show _ = (List.take (netE Q r x b).length (netE Q r x b) ++ List.take 1 _).length
       rw [List.take_of_length_le (Nat.le_refl _), List.length_append]; rfl
      ·show _ = (netS Q r x ++ List.replicate (Q - x) D.nil).set x (.list (netE Q r x (b + 1)))
       rw [List.set_set, hIs, netE_succ]
       show (netS Q r x ++ List.replicate (Q - x) D.nil).set x (.list (List.take (netE Q r x b).length (netE Q r x b) ++ List.take 1 _)) = _
       rw [List.take_of_length_le (Nat.le_refl _)]; rfl
    ·rcases hIa with ⟨_, h2⟩ | ⟨_, h2⟩ <;> (rw [h2] at hn; cases hn)
  ·have hge2 := not_of hge2
   have eb : b = Q := by omega
   subst eb
   refine ⟨⟨by omega, by omega⟩, x + 1, by show x + 1 ≤ _; omega, by omega, ⟨by omega, trivial⟩, ?_, trivial⟩
   obtain ⟨c, rfl⟩ : ∃ c, b = c + 1 := ⟨b - 1, by omega⟩
   exact netS_next hxQ
 ·have hge := not_of hge
  have ex : x = Q := by omega
  subst ex
  refine ⟨⟨by rw [hlen]; omega, netS_noHole _ _, sl4, ?_⟩, ?_, trivial⟩
  ·unfold netR
   rw [if_pos hyes, Int.toNat_natCast, Int.toNat_natCast, Nat.sub_self, List.replicate_zero, List.append_nil, List.take_of_length_le (by rw [netS_len]; exact Nat.le_refl _)]
  ·unfold netX; rw [if_pos hyes]
end Go.Ev

end

section
open Go.Proofs
namespace Go.Ev
set_option maxRecDepth 100000
set_option maxHeartbeats 4000000
def row3i (a b c : Int) : List D := List.take ((1 : Nat) + (1 : Nat)) (List.take (1 : Nat) (List.take (1 : Nat) [D.int a]) ++ List.take (1 : Nat) [D.int b]) ++ List.take (1 : Nat) [D.int c]
def row3 (a b c : Int) : List D := List.take ((1 : Nat) + (1 : Nat) + (1 : Nat)) (row3i a b c)
def kkO (x : Nat × List D) (B : Nat) (C : Int) (L : List D) : Prop := (((((∃ (y : List D), y = kkI x.snd x.fst (0 : Nat) ∧ (5 : Nat) - (0 : Nat) < B ∧ (C = (0 : Int) ∧ True) ∧ L = y ∧ True) ∨ ∃ (y : List D), y = kkI x.snd x.fst ((0 : Nat) + (1 : Nat)) ∧ (5 : Nat) - ((0
: Nat) + (1 : Nat)) < B ∧ (C = (1 : Int) ∧ True) ∧ L = y ∧ True) ∨ ∃ (y : List D), y = kkI x.snd x.fst ((1 : Nat) + (1 : Nat)) ∧ (5 : Nat) - ((1 : Nat) + (1 : Nat)) < B ∧ (C = (2 : Int) ∧ True) ∧ L =
y ∧ True) ∨ ∃ (y : List D), y = kkI x.snd x.fst ((2 : Nat) + (1 : Nat)) ∧ (5 : Nat) - ((2 : Nat) + (1 : Nat)) < B ∧ (C = (3 : Int) ∧ True) ∧ L = y ∧ True) ∨ ∃ (y : List D), y = kkI x.snd x.fst ((3 :
Nat) + (1 : Nat)) ∧ (5 : Nat) - ((3 : Nat) + (1 : Nat)) < B ∧ (C = (4 : Int) ∧ True) ∧ L = y ∧ True) ∨ ∃ (y : List D), y = kkI x.snd x.fst ((4 : Nat) + (1 : Nat)) ∧ (5 : Nat) - ((4 : Nat) + (1 : Nat))
< B ∧ (C = (5 : Int) ∧ True) ∧ L = y ∧ True
def kkB (x : Nat × List D) (l : List D) (B1 : Nat) (C1 a b c : Int) : Prop := (0 : Int) ≤ (↑x.fst : Int) ∧ (↑x.fst : Int) < (↑(Int.toNat (7 : Int)) : Int) ∧ x.fst < l.length ∧ (nthD l x.fst = D.nil → (0 : Nat) + ((1 : Nat) + (1 : Nat) + (1 : Nat)) ≤ (row3i a b c).length ∧ (0 :
Nat) + (1 : Nat) ≤ [D.list (row3 a b c)].length ∧ (1 : Nat) ≤ (16777216 : Nat) ∧ (0 : Int) ≤ (↑x.fst : Int) ∧ (↑x.fst : Int) < (↑(Int.toNat (7 : Int)) : Int) ∧ x.fst < l.length ∧ True ∧ (0 : Nat) = (0
: Nat) ∧ (1 : Nat) = (List.take (1 : Nat) [D.list (row3 a b c)]).length ∧ True ∧ (kkO x B1 C1 (l.set x.fst (D.list (List.take (1 : Nat) [D.list (row3 a b c)]))))) ∧ (∀ (r : List D), nthD l x.fst =
D.list r → (0 : Nat) + ((1 : Nat) + (1 : Nat) + (1 : Nat)) ≤ (row3i a b c).length ∧ x.fst < l.length ∧ r.length = (nthD l x.fst).len ∧ (∃ (r : List D), nthD l x.fst = D.list r) ∧ Nat.le (1 : Nat) (1 :
Nat) ∧ (0 : Nat) + (1 : Nat) ≤ [D.list (row3 a b c)].length ∧ (0 : Nat) + r.length ≤ (nthD l x.fst).asList.length ∧ r.length + (1 : Nat) ≤ (16777216 : Nat) ∧ (0 : Int) ≤ (↑x.fst : Int) ∧ (↑x.fst :
Int) < (↑(Int.toNat (7 : Int)) : Int) ∧ x.fst < (l.set x.fst (D.int (0 : Int))).length ∧ True ∧ (0 : Nat) = (0 : Nat) ∧ r.length + (1 : Nat) = (List.take r.length (nthD l x.fst).asList ++ List.take (1
: Nat) [D.list (row3 a b c)]).length ∧ True ∧ (kkO x B1 C1 ((l.set x.fst (D.int (0 : Int))).set x.fst (D.list (List.take r.length (nthD l x.fst).asList ++ List.take (1 : Nat) [D.list (row3 a b
c)]))))) ∧ ∀ (n : Int), nthD l x.fst = D.int n → False
theorem vc18k : ∀ (x : Unit), symFun (ctxs cc0 kkAnn) 3 (18 : FuncId) [] (V.dat (24 : TypeId) (D.list (kkS 7))) = ((0 : Int) ≤ 7 ∧ (7 : Int) ≤ 7 ∧ (7 : Int) ≤ 16777216 ∧ 24 * Int.toNat 7 ≤ 281474976710656 ∧ (∃ (x : Nat ×
List D), (x.fst ≤ 7 ∧ x.snd = kkS x.fst ++ List.replicate (7 - x.fst) D.nil) ∧ (0 = (x.fst : Int) ∧ True) ∧ (List.replicate (Int.toNat 7) D.nil = x.snd ∧ allNil (List.replicate (Int.toNat 7) D.nil)) ∧ True) ∧ ∀ (x : Nat
× List D), x.fst ≤ 7 ∧ x.snd = kkS x.fst ++ List.replicate (7 - x.fst) D.nil → 7 - x.fst < LIM ∧ ((x.fst : Int) < (↑(Int.toNat 7) : Int) → ((((((∃ (x_1 : List D), x_1 = kkI x.snd x.fst 0 ∧ ((0 : Int) = 0 ∧ True) ∧ x.snd
= x_1 ∧ True) ∨ ∃ (x_1 : List D), x_1 = kkI x.snd x.fst (0 + 1) ∧ ((0 : Int) = 1 ∧ True) ∧ x.snd = x_1 ∧ True) ∨ ∃ (x_1 : List D), x_1 = kkI x.snd x.fst (1 + 1) ∧ ((0 : Int) = 2 ∧ True) ∧ x.snd = x_1 ∧ True) ∨ ∃ (x_1 :
List D), x_1 = kkI x.snd x.fst (2 + 1) ∧ ((0 : Int) = 3 ∧ True) ∧ x.snd = x_1 ∧ True) ∨ ∃ (x_1 : List D), x_1 = kkI x.snd x.fst (3 + 1) ∧ ((0 : Int) = 4 ∧ True) ∧ x.snd = x_1 ∧ True) ∨ ∃ (x_1 : List D), x_1 = kkI x.snd
x.fst (4 + 1) ∧ ((0 : Int) = 5 ∧ True) ∧ x.snd = x_1 ∧ True) ∧ (((((∀ (x_1 : List D), x_1 = kkI x.snd x.fst 0 → 5 - 0 < LIM ∧ 0 + 1 ≤ [D.int 14].length ∧ (1 : Nat) ≤ 16777216 ∧ fits64 (0 + (x.fst : Int)) ∧ ((7 : Int) = 0
→ False) ∧ fits64 (Int.ofNat Nat.zero + (0 + (x.fst : Int)).tmod 7) ∧ 0 + 1 ≤ [D.int (Int.ofNat Nat.zero + (0 + (x.fst : Int)).tmod 7)].length ∧ 0 + 1 ≤ (List.take 1 [D.int 14]).length ∧ (1 : Nat) + 1 ≤ 16777216 ∧ fits64
(7 + (x.fst : Int)) ∧ ((7 : Int) = 0 → False) ∧ fits64 (Int.ofNat (Nat.succ 6) + (7 + (x.fst : Int)).tmod 7) ∧ 0 + 1 ≤ [D.int (Int.ofNat (Nat.succ 6) + (7 + (x.fst : Int)).tmod 7)].length ∧ 0 + (1 + 1) ≤ (List.take 1
(List.take 1 [D.int 14]) ++ List.take 1 [D.int (Int.ofNat Nat.zero + (0 + (x.fst : Int)).tmod 7)]).length ∧ (1 : Nat) + 1 + 1 ≤ 16777216 ∧ kkB x x_1 (5 - 0) (Int.ofNat 1) 14 (Int.ofNat Nat.zero + (0 + (x.fst : Int)).tmod
7) (Int.ofNat (Nat.succ 6) + (7 + (x.fst : Int)).tmod 7)) ∧ ∀ (x_1 : List D), x_1 = kkI x.snd x.fst (0 + 1) → 5 - (0 + 1) < LIM ∧ fits64 (1 + (x.fst : Int)) ∧ ((7 : Int) = 0 → False) ∧ fits64 (Int.ofNat Nat.zero + (1 +
(x.fst : Int)).tmod 7) ∧ 0 + 1 ≤ [D.int (Int.ofNat Nat.zero + (1 + (x.fst : Int)).tmod 7)].length ∧ (1 : Nat) ≤ 16777216 ∧ fits64 (6 + (x.fst : Int)) ∧ ((7 : Int) = 0 → False) ∧ fits64 (Int.ofNat Nat.zero + (6 + (x.fst :
Int)).tmod 7) ∧ 0 + 1 ≤ [D.int (Int.ofNat Nat.zero + (6 + (x.fst : Int)).tmod 7)].length ∧ 0 + 1 ≤ (List.take 1 [D.int (Int.ofNat Nat.zero + (1 + (x.fst : Int)).tmod 7)]).length ∧ (1 : Nat) + 1 ≤ 16777216 ∧ fits64 (12 +
(x.fst : Int)) ∧ ((7 : Int) = 0 → False) ∧ fits64 (Int.ofNat (Nat.succ 6) + (12 + (x.fst : Int)).tmod 7) ∧ 0 + 1 ≤ [D.int (Int.ofNat (Nat.succ 6) + (12 + (x.fst : Int)).tmod 7)].length ∧ 0 + (1 + 1) ≤ (List.take 1
(List.take 1 [D.int (Int.ofNat Nat.zero + (1 + (x.fst : Int)).tmod 7)]) ++ List.take 1 [D.int (Int.ofNat Nat.zero + (6 + (x.fst : Int)).tmod 7)]).length ∧ (1 : Nat) + 1 + 1 ≤ 16777216 ∧ kkB x x_1 (5 - (0 + 1)) (Int.ofNat
2) (Int.ofNat Nat.zero + (1 + (x.fst : Int)).tmod 7) (Int.ofNat Nat.zero + (6 + (x.fst : Int)).tmod 7) (Int.ofNat (Nat.succ 6) + (12 + (x.fst : Int)).tmod 7)) ∧ ∀ (x_1 : List D), x_1 = kkI x.snd x.fst (1 + 1) → 5 - (1 +
1) < LIM ∧ fits64 (2 + (x.fst : Int)) ∧ ((7 : Int) = 0 → False) ∧ fits64 (Int.ofNat Nat.zero + (2 + (x.fst : Int)).tmod 7) ∧ 0 + 1 ≤ [D.int (Int.ofNat Nat.zero + (2 + (x.fst : Int)).tmod 7)].length ∧ (1 : Nat) ≤ 16777216
∧ fits64 (5 + (x.fst : Int)) ∧ ((7 : Int) = 0 → False) ∧ fits64 (Int.ofNat Nat.zero + (5 + (x.fst : Int)).tmod 7) ∧ 0 + 1 ≤ [D.int (Int.ofNat Nat.zero + (5 + (x.fst : Int)).tmod 7)].length ∧ 0 + 1 ≤ (List.take 1 [D.int
(Int.ofNat Nat.zero + (2 + (x.fst : Int)).tmod 7)]).length ∧ (1 : Nat) + 1 ≤ 16777216 ∧ fits64 (10 + (x.fst : Int)) ∧ ((7 : Int) = 0 → False) ∧ fits64 (Int.ofNat (Nat.succ 6) + (10 + (x.fst : Int)).tmod 7) ∧ 0 + 1 ≤
[D.int (Int.ofNat (Nat.succ 6) + (10 + (x.fst : Int)).tmod 7)].length ∧ 0 + (1 + 1) ≤ (List.take 1 (List.take 1 [D.int (Int.ofNat Nat.zero + (2 + (x.fst : Int)).tmod 7)]) ++ List.take 1 [D.int (Int.ofNat Nat.zero + (5 +
(x.fst : Int)).tmod 7)]).length ∧ (1 : Nat) + 1 + 1 ≤ 16777216 ∧ kkB x x_1 (5 - (1 + 1)) (Int.ofNat 3) (Int.ofNat Nat.zero + (2 + (x.fst : Int)).tmod 7) (Int.ofNat Nat.zero + (5 + (x.fst : Int)).tmod 7) (Int.ofNat
(Nat.succ 6) + (10 + (x.fst : Int)).tmod 7)) ∧ ∀ (x_1 : List D), x_1 = kkI x.snd x.fst (2 + 1) → 5 - (2 + 1) < LIM ∧ fits64 (3 + (x.fst : Int)) ∧ ((7 : Int) = 0 → False) ∧ fits64 (Int.ofNat Nat.zero + (3 + (x.fst :
Int)).tmod 7) ∧ 0 + 1 ≤ [D.int (Int.ofNat Nat.zero + (3 + (x.fst : Int)).tmod 7)].length ∧ (1 : Nat) ≤ 16777216 ∧ fits64 (4 + (x.fst : Int)) ∧ ((7 : Int) = 0 → False) ∧ fits64 (Int.ofNat Nat.zero + (4 + (x.fst :
Int)).tmod 7) ∧ 0 + 1 ≤ [D.int (Int.ofNat Nat.zero + (4 + (x.fst : Int)).tmod 7)].length ∧ 0 + 1 ≤ (List.take 1 [D.int (Int.ofNat Nat.zero + (3 + (x.fst : Int)).tmod 7)]).length ∧ (1 : Nat) + 1 ≤ 16777216 ∧ fits64 (13 +
(x.fst : Int)) ∧ ((7 : Int) = 0 → False) ∧ fits64 (Int.ofNat (Nat.succ 6) + (13 + (x.fst : Int)).tmod 7) ∧ 0 + 1 ≤ [D.int (Int.ofNat (Nat.succ 6) + (13 + (x.fst : Int)).tmod 7)].length ∧ 0 + (1 + 1) ≤ (List.take 1
(List.take 1 [D.int (Int.ofNat Nat.zero + (3 + (x.fst : Int)).tmod 7)]) ++ List.take 1 [D.int (Int.ofNat Nat.zero + (4 + (x.fst : Int)).tmod 7)]).length ∧ (1 : Nat) + 1 + 1 ≤ 16777216 ∧ kkB x x_1 (5 - (2 + 1)) (Int.ofNat
4) (Int.ofNat Nat.zero + (3 + (x.fst : Int)).tmod 7) (Int.ofNat Nat.zero + (4 + (x.fst : Int)).tmod 7) (Int.ofNat (Nat.succ 6) + (13 + (x.fst : Int)).tmod 7)) ∧ ∀ (x_1 : List D), x_1 = kkI x.snd x.fst (3 + 1) → 5 - (3 +
1) < LIM ∧ fits64 (8 + (x.fst : Int)) ∧ ((7 : Int) = 0 → False) ∧ fits64 (Int.ofNat (Nat.succ 6) + (8 + (x.fst : Int)).tmod 7) ∧ 0 + 1 ≤ [D.int (Int.ofNat (Nat.succ 6) + (8 + (x.fst : Int)).tmod 7)].length ∧ (1 : Nat) ≤
16777216 ∧ fits64 (9 + (x.fst : Int)) ∧ ((7 : Int) = 0 → False) ∧ fits64 (Int.ofNat (Nat.succ 6) + (9 + (x.fst : Int)).tmod 7) ∧ 0 + 1 ≤ [D.int (Int.ofNat (Nat.succ 6) + (9 + (x.fst : Int)).tmod 7)].length ∧ 0 + 1 ≤
(List.take 1 [D.int (Int.ofNat (Nat.succ 6) + (8 + (x.fst : Int)).tmod 7)]).length ∧ (1 : Nat) + 1 ≤ 16777216 ∧ fits64 (11 + (x.fst : Int)) ∧ ((7 : Int) = 0 → False) ∧ fits64 (Int.ofNat (Nat.succ 6) + (11 + (x.fst :
Int)).tmod 7) ∧ 0 + 1 ≤ [D.int (Int.ofNat (Nat.succ 6) + (11 + (x.fst : Int)).tmod 7)].length ∧ 0 + (1 + 1) ≤ (List.take 1 (List.take 1 [D.int (Int.ofNat (Nat.succ 6) + (8 + (x.fst : Int)).tmod 7)]) ++ List.take 1 [D.int
(Int.ofNat (Nat.succ 6) + (9 + (x.fst : Int)).tmod 7)]).length ∧ (1 : Nat) + 1 + 1 ≤ 16777216 ∧ kkB x x_1 (5 - (3 + 1)) (Int.ofNat 5) (Int.ofNat (Nat.succ 6) + (8 + (x.fst : Int)).tmod 7) (Int.ofNat (Nat.succ 6) + (9 +
(x.fst : Int)).tmod 7) (Int.ofNat (Nat.succ 6) + (11 + (x.fst : Int)).tmod 7)) ∧ ∀ (x_1 : List D), x_1 = kkI x.snd x.fst (4 + 1) → 5 - (4 + 1) < LIM ∧ fits64 ((x.fst : Int) + 1) ∧ ∃ (y : Nat × List D), (y.fst ≤ 7 ∧ y.snd
= kkS y.fst ++ List.replicate (7 - y.fst) D.nil) ∧ 7 - y.fst < 7 - x.fst ∧ ((x.fst : Int) + 1 = (y.fst : Int) ∧ True) ∧ x_1 = y.snd ∧ True) ∧ (((x.fst : Int) < (↑(Int.toNat 7) : Int) → False) → 0 + Int.toNat 7 ≤
x.snd.length ∧ noHole x.snd ∧ (isSliceT (ctxs cc0 kkAnn).P (33 : TypeId) = true ∧ sizeIs (ctxs cc0 kkAnn).P (33 : TypeId) 1 = true) ∧ D.list (List.take (Int.toNat 7) x.snd) = D.list (kkS 7))) := by intros; kernel_rfl
theorem kk_num (k g j : Nat) (hg : g ≠ 14) (hk : k = g / 7 * 7) : Int.ofNat k + ((g : Int) + (j : Int)).tmod 7 = ((kkG g j : Nat) : Int) := by
 unfold kkG
 rw [if_neg hg, Int.tmod_eq_emod_of_nonneg (by omega), hk]
 show ((g / 7 * 7 : Nat) : Int) + _ = _
 omega
theorem kkE_len (j x : Nat) (h : x ≤ 5) : (kkE j x).length = x := by
 unfold kkE
 rw [List.length_map, List.length_take]
 show min x 5 = x
 omega
theorem kkE_succ (j : Nat) {x : Nat} (h : x < kkF.length) : kkE j (x + 1) = kkE j x ++ [kkT j kkF[x]] := by
 unfold kkE
 rw [List.take_add_one, List.getElem?_eq_getElem h, List.map_append]; rfl
theorem kkI_len (l : List D) (j : Nat) : ∀ x, (kkI l j x).length = l.length
 | 0 => rfl
 | x + 1 => List.length_set ..
theorem kkI_set (l : List D) (j : Nat) (d : D) : ∀ x, (kkI l j x).set j d = l.set j d
 | 0 => rfl
 | x + 1 => List.set_set ..
theorem kkI_at {l : List D} {j : Nat} (hj : j < l.length) : ∀ x, nthD (kkI l j (x + 1)) j = .list (kkE j (x + 1)) := fun x => by
 show nthD (l.set j _) j = _
 rw [nthD_set _ _ _ _ hj, if_pos rfl]
theorem kkO_ok {x : Nat × List D} {L : List D} {i : Nat} (hi : i < 5) (hL : L = kkI x.2 x.1 (i + 1)) : kkO x (5 - i) (Int.ofNat (i + 1)) L := by
 unfold kkO
 match i, hi, hL with
 | 0, _, hL => exact .inl (.inl (.inl (.inl (.inr ⟨_, rfl, by decide, ⟨rfl, trivial⟩, hL, trivial⟩))))
 | 1, _, hL => exact .inl (.inl (.inl (.inr ⟨_, rfl, by decide, ⟨rfl, trivial⟩, hL, trivial⟩)))
 | 2, _, hL => exact .inl (.inl (.inr ⟨_, rfl, by decide, ⟨rfl, trivial⟩, hL, trivial⟩))
 | 3, _, hL => exact .inl (.inr ⟨_, rfl, by decide, ⟨rfl, trivial⟩, hL, trivial⟩)
 | 4, _, hL => exact .inr ⟨_, rfl, by decide, ⟨rfl, trivial⟩, hL, trivial⟩
 | i + 5, hi, _ => exact absurd hi (by omega)
theorem kkB_ok {x : Nat × List D} {l : List D} {i : Nat} {a b c : Int} (hx : x.1 < 7) (hlen : x.2.length = 7) (h0 : nthD x.2 x.1 = .nil) (hl : l = kkI x.2 x.1 i) (hi : i < 5)
  (hrow : D.list (row3 a b c) = kkT x.1 (kkF[i]'hi)) : kkB x l (5 - i) (Int.ofNat (i + 1)) a b c := by
 have hll : l.length = 7 := by rw [hl, kkI_len, hlen]
 have hls : ∀ d, l.set x.1 d = x.2.set x.1 d := fun d => by rw [hl, kkI_set]
 have h7 : (x.1 : Int) < ((Int.toNat (7 : Int) : Nat) : Int) := by show (x.1 : Int) < 7; omega
 unfold kkB
 refine ⟨by omega, h7, by omega, fun hn => ⟨Nat.le_refl _, Nat.le_refl _, by decide, by omega, h7, by omega, trivial, rfl, rfl, trivial, kkO_ok hi ?_⟩, fun r hr => ?_, fun n hn => ?_⟩
 ·match i, hi, hl, hrow with
  | 0, _, hl, hrow => rw [hls, hrow]; rfl
  | i + 1, hi, hl, hrow =>
   rw [hl, kkI_at (by omega)] at hn
   cases hn
 ·match i, hi, hl, hrow with
  | 0, _, hl, hrow =>
   rw [hl] at hr
   have hr : nthD x.2 x.1 = .list r := hr
   rw [h0] at hr; cases hr
  | i + 1, hi, hl, hrow =>
   have hat : nthD l x.1 = .list (kkE x.1 (i + 1)) := by rw [hl]; exact kkI_at (by omega) i
   rw [hat] at hr ⊢
   cases hr
   have hEl := kkE_len x.1 (i + 1) (by omega)
   refine ⟨Nat.le_refl _, by omega, rfl, ⟨_, rfl⟩, Nat.le_refl _, Nat.le_refl _, by show 0 + _ ≤ (kkE x.1 (i + 1)).length; omega, by omega, by omega, h7, by rw [List.length_set]; omega, trivial, rfl, ?_, trivial, kkO_ok hi ?_⟩
   ·show _ = (List.take (kkE x.1 (i + 1)).length (kkE x.1 (i + 1)) ++ List.take 1 _).length
    rw [List.take_of_length_le (Nat.le_refl _), List.length_append]; rfl
   ·show (l.set x.1 (D.int 0)).set x.1 (.list (List.take (kkE x.1 (i + 1)).length (kkE x.1 (i + 1)) ++ List.take 1 [D.list (row3 a b c)])) = _
    rw [List.set_set, hls, List.take_of_length_le (Nat.le_refl _), hrow]
    show _ = x.2.set x.1 (.list (kkE x.1 (i + 1 + 1)))
    rw [kkE_succ x.1 hi]; rfl
 ·match i, hi, hl, hrow with
  | 0, _, hl, hrow =>
   rw [hl] at hn
   have hn : nthD x.2 x.1 = .int n := hn
   rw [h0] at hn; cases hn
  | i + 1, hi, hl, hrow =>
   rw [hl, kkI_at (by omega)] at hn
   cases hn
theorem kkS_len (x : Nat) : (kkS x).length = x := by unfold kkS; rw [List.length_map, List.length_range]
theorem kk_next {x : Nat} (h : x < 7) : (kkS x ++ List.replicate (7 - x) D.nil).set x (.list (kkE x 5)) = kkS (x + 1) ++ List.replicate (7 - (x + 1)) D.nil := by
 have e : 7 - x = 7 - (x + 1) + 1 := by omega
 rw [List.set_append_right _ _ (by rw [kkS_len]; exact Nat.le_refl _), kkS_len, Nat.sub_self, e, List.replicate_succ, List.set_cons_zero]
 unfold kkS
 rw [List.range_succ, List.map_append, List.append_assoc]
 rfl
theorem kk_nil {x : Nat} (h : x < 7) : nthD (kkS x ++ List.replicate (7 - x) D.nil) x = .nil := by
 unfold nthD
 rw [List.getElem?_append_right (by rw [kkS_len]; exact Nat.le_refl _), kkS_len, Nat.sub_self, List.getElem?_replicate]
 split <;> rfl
theorem slkk : isSliceT (ctxs cc0 kkAnn).P (33 : TypeId) = true ∧ sizeIs (ctxs cc0 kkAnn).P (33 : TypeId) (1 : Nat) = true := by constructor <;> kernel_rfl
theorem rng_k {k : Nat} {z : Int} (hk : k ≤ 7) (hz : 0 ≤ z ∧ z ≤ 100) : (-9223372036854775808 : Int) ≤ Int.ofNat k + z.tmod 7 ∧ Int.ofNat k + z.tmod 7 < 9223372036854775808 := by
 rw [Int.tmod_eq_emod_of_nonneg hz.1]
 show (-9223372036854775808 : Int) ≤ (k : Int) + _ ∧ (k : Int) + _ < 9223372036854775808
 omega
theorem s18k (u : Unit) : symFun (ctxs cc0 kkAnn) 3 18 [] (.dat 24 (.list (kkS 7))) := by
 rw [vc18k u]
 refine ⟨by decide, by decide, by decide, by decide, ⟨(0, List.replicate 7 D.nil), ⟨Nat.zero_le _, rfl⟩, ⟨rfl, trivial⟩, ⟨rfl, allNil_rep _⟩, trivial⟩, fun x ⟨hx, hs⟩ => ?_⟩
 have hlen : x.2.length = 7 := by rw [hs, List.length_append, kkS_len, List.length_replicate]; omega
 refine ⟨limS (by omega), fun hlt => ?_, fun hge => ?_⟩
 ·have hx7 : x.1 < 7 := by have : (x.1 : Int) < 7 := hlt; omega
  have h0 : nthD x.2 x.1 = .nil := by rw [hs]; exact kk_nil hx7
  refine ⟨.inl (.inl (.inl (.inl (.inl ⟨_, rfl, ⟨rfl, trivial⟩, rfl, trivial⟩)))), ⟨⟨⟨⟨⟨?_, ?_⟩, ?_⟩, ?_⟩, ?_⟩, ?_⟩⟩
  ·intro l hl
   refine ⟨limS (by decide), Nat.le_refl _, by decide, ⟨by omega, by omega⟩, fun h => by omega, rng_k (by decide) ⟨by omega, by omega⟩, Nat.le_refl _, Nat.le_refl _, by decide, ⟨by omega, by omega⟩, fun h => by omega, rng_k (by decide) ⟨by omega, by omega⟩, Nat.le_refl _, Nat.le_refl _, by decide, kkB_ok (i := 0) hx7 hlen h0 hl (by decide) ?_⟩
   rw [show Int.ofNat Nat.zero + ((0 : Int) + (x.1 : Int)).tmod 7 = _ from kk_num 0 0 x.1 (by decide) rfl, show Int.ofNat (Nat.succ 6) + ((7 : Int) + (x.1 : Int)).tmod 7 = _ from kk_num 7 7 x.1 (by decide) rfl]
   rfl
  ·intro l hl
   refine ⟨limS (by decide), ⟨by omega, by omega⟩, fun h => by omega, rng_k (by decide) ⟨by omega, by omega⟩, Nat.le_refl _, by decide, ⟨by omega, by omega⟩, fun h => by omega, rng_k (by decide) ⟨by omega, by omega⟩, Nat.le_refl _, Nat.le_refl _, by decide, ⟨by omega, by omega⟩, fun h => by omega, rng_k (by decide) ⟨by omega, by omega⟩, Nat.le_refl _, Nat.le_refl _, by decide, kkB_ok (i := 1) hx7 hlen h0 hl (by decide) ?_⟩
   rw [show Int.ofNat Nat.zero + ((1 : Int) + (x.1 : Int)).tmod 7 = _ from kk_num 0 1 x.1 (by decide) rfl, show Int.ofNat Nat.zero + ((6 : Int) + (x.1 : Int)).tmod 7 = _ from kk_num 0 6 x.1 (by decide) rfl, show Int.ofNat (Nat.succ 6) + ((12 : Int) + (x.1 : Int)).tmod 7 = _ from kk_num 7 12 x.1 (by decide) rfl]
   rfl
  ·intro l hl
   refine ⟨limS (by decide), ⟨by omega, by omega⟩, fun h => by omega, rng_k (by decide) ⟨by omega, by omega⟩, Nat.le_refl _, by decide, ⟨by omega, by omega⟩, fun h => by omega, rng_k (by decide) ⟨by omega, by omega⟩, Nat.le_refl _, Nat.le_refl _, by decide, ⟨by omega, by omega⟩, fun h => by omega, rng_k (by decide) ⟨by omega, by omega⟩, Nat.le_refl _, Nat.le_refl _, by decide, kkB_ok (i := 2) hx7 hlen h0 hl (by decide) ?_⟩
   rw [show Int.ofNat Nat.zero + ((2 : Int) + (x.1 : Int)).tmod 7 = _ from kk_num 0 2 x.1 (by decide) rfl, show Int.ofNat Nat.zero + ((5 : Int) + (x.1 : Int)).tmod 7 = _ from kk_num 0 5 x.1 (by decide) rfl, show Int.ofNat (Nat.succ 6) + ((10 : Int) + (x.1 : Int)).tmod 7 = _ from kk_num 7 10 x.1 (by decide) rfl]
   rfl
  ·intro l hl
   refine ⟨limS (by decide), ⟨by omega, by omega⟩, fun h => by omega, rng_k (by decide) ⟨by omega, by omega⟩, Nat.le_refl _, by decide, ⟨by omega, by omega⟩, fun h => by omega, rng_k (by decide) ⟨by omega, by omega⟩, Nat.le_refl _, Nat.le_refl _, by decide, ⟨by omega, by omega⟩, fun h => by omega, rng_k (by decide) ⟨by omega, by omega⟩, Nat.le_refl _, Nat.le_refl _, by decide, kkB_ok (i := 3) hx7 hlen h0 hl (by decide) ?_⟩
   rw [show Int.ofNat Nat.zero + ((3 : Int) + (x.1 : Int)).tmod 7 = _ from kk_num 0 3 x.1 (by decide) rfl, show Int.ofNat Nat.zero + ((4 : Int) + (x.1 : Int)).tmod 7 = _ from kk_num 0 4 x.1 (by decide) rfl, show Int.ofNat (Nat.succ 6) + ((13 : Int) + (x.1 : Int)).tmod 7 = _ from kk_num 7 13 x.1 (by decide) rfl]
   rfl
  ·intro l hl
   refine ⟨limS (by decide), ⟨by omega, by omega⟩, fun h => by omega, rng_k (by decide) ⟨by omega, by omega⟩, Nat.le_refl _, by decide, ⟨by omega, by omega⟩, fun h => by omega, rng_k (by decide) ⟨by omega, by omega⟩, Nat.le_refl _, Nat.le_refl _, by decide, ⟨by omega, by omega⟩, fun h => by omega, rng_k (by decide) ⟨by omega, by omega⟩, Nat.le_refl _, Nat.le_refl _, by decide, kkB_ok (i := 4) hx7 hlen h0 hl (by decide) ?_⟩
   rw [show Int.ofNat (Nat.succ 6) + ((8 : Int) + (x.1 : Int)).tmod 7 = _ from kk_num 7 8 x.1 (by decide) rfl, show Int.ofNat (Nat.succ 6) + ((9 : Int) + (x.1 : Int)).tmod 7 = _ from kk_num 7 9 x.1 (by decide) rfl, show Int.ofNat (Nat.succ 6) + ((11 : Int) + (x.1 : Int)).tmod 7 = _ from kk_num 7 11 x.1 (by decide) rfl]
   rfl
  ·intro l hl
   refine ⟨limS (by decide), ⟨by omega, by omega⟩, (x.1 + 1, l), ⟨by show x.1 + 1 ≤ 7; omega, ?_⟩, by show 7 - (x.1 + 1) < _; omega, ⟨by show (x.1 : Int) + 1 = ((x.1 + 1 : Nat) : Int); omega, trivial⟩, rfl, trivial⟩
   have hl : l = x.2.set x.1 (.list (kkE x.1 5)) := hl
   show l = kkS (x.1 + 1) ++ _
   rw [hl, hs, kk_next hx7]
 ·have hge := not_of hge
  have ex : x.1 = 7 := by have : ¬ (x.1 : Int) < 7 := hge; omega
  have hs7 : x.2 = kkS 7 := by rw [hs, ex]; simp
  rw [hs7]
  refine ⟨by rw [kkS_len]; decide, ⟨fun k h => by obtain ⟨i, _, e⟩ := List.mem_map.1 h; cases e⟩, slkk, by rw [List.take_of_length_le (by rw [kkS_len]; decide)]⟩
end Go.Ev

end
