/-
  Part of the engine that the claim is proved with: it states nothing of the document by itself.
-/
import Derived.Test.YtenmglepjkflhaaDoorCoreG34
import Derived.Test.YtenmglepjkflhaaDoorCoreG33

section
open Go.Proofs
namespace Go.Ev
set_option maxRecDepth 100000
set_option maxHeartbeats 4000000
theorem vc67 : ∀ (n : Int), symFun (ctx cc0 dsAnn) 3 (67 : FuncId) [V.int IntKind.i64 n] (V.dat (24 : TypeId) (D.list (alL n.toNat 64))) = ((0 : Int) ≤ 64 ∧ (64 : Int) ≤ 64 ∧ (64 : Int) ≤ 16777216 ∧ 24 * Int.toNat 64 ≤
281474976710656 ∧ (∃ (x : Nat × List D), (x.fst ≤ 64 ∧ x.snd = alL n.toNat x.fst ++ List.replicate (64 - x.fst) D.nil) ∧ (0 = (x.fst : Int) ∧ True) ∧ (List.replicate (Int.toNat 64) D.nil = x.snd ∧ allNil (List.replicate
(Int.toNat 64) D.nil)) ∧ True) ∧ ∀ (x : Nat × List D), x.fst ≤ 64 ∧ x.snd = alL n.toNat x.fst ++ List.replicate (64 - x.fst) D.nil → 64 - x.fst < LIM ∧ ((x.fst : Int) < (↑(Int.toNat 64) : Int) → (∃ (x_1 : Nat × List D),
(x_1.fst ≤ n.toNat ∧ x_1.snd = alI x.snd x.fst x_1.fst) ∧ (0 = (x_1.fst : Int) ∧ True) ∧ x.snd = x_1.snd ∧ True) ∧ ∀ (x_1 : Nat × List D), x_1.fst ≤ n.toNat ∧ x_1.snd = alI x.snd x.fst x_1.fst → n.toNat - x_1.fst < LIM ∧
((x_1.fst : Int) < n → 0 ≤ (x.fst : Int) ∧ (x.fst : Int) < (↑(Int.toNat 64) : Int) ∧ x.fst < x_1.snd.length ∧ (nthD x_1.snd x.fst = D.nil → 0 + 1 ≤ [D.int (x_1.fst : Int)].length ∧ 0 + 1 ≤ [D.list (List.take 1 [D.int
(x_1.fst : Int)])].length ∧ (1 : Nat) ≤ 16777216 ∧ 0 ≤ (x.fst : Int) ∧ (x.fst : Int) < (↑(Int.toNat 64) : Int) ∧ x.fst < x_1.snd.length ∧ True ∧ (0 : Nat) = 0 ∧ 1 = (List.take 1 [D.list (List.take 1 [D.int (x_1.fst :
Int)])]).length ∧ True ∧ fits64 ((x_1.fst : Int) + 1) ∧ ∃ (y : Nat × List D), (y.fst ≤ n.toNat ∧ y.snd = alI x.snd x.fst y.fst) ∧ n.toNat - y.fst < n.toNat - x_1.fst ∧ ((x_1.fst : Int) + 1 = (y.fst : Int) ∧ True) ∧
x_1.snd.set x.fst (D.list (List.take 1 [D.list (List.take 1 [D.int (x_1.fst : Int)])])) = y.snd ∧ True) ∧ (∀ (r : List D), nthD x_1.snd x.fst = D.list r → 0 + 1 ≤ [D.int (x_1.fst : Int)].length ∧ x.fst < x_1.snd.length ∧
r.length = (nthD x_1.snd x.fst).len ∧ (∃ (r : List D), nthD x_1.snd x.fst = D.list r) ∧ Nat.le 1 1 ∧ 0 + 1 ≤ [D.list (List.take 1 [D.int (x_1.fst : Int)])].length ∧ 0 + r.length ≤ (nthD x_1.snd x.fst).asList.length ∧
r.length + 1 ≤ 16777216 ∧ 0 ≤ (x.fst : Int) ∧ (x.fst : Int) < (↑(Int.toNat 64) : Int) ∧ x.fst < (x_1.snd.set x.fst (D.int 0)).length ∧ True ∧ (0 : Nat) = 0 ∧ r.length + 1 = (List.take r.length (nthD x_1.snd x.fst).asList
++ List.take 1 [D.list (List.take 1 [D.int (x_1.fst : Int)])]).length ∧ True ∧ fits64 ((x_1.fst : Int) + 1) ∧ ∃ (y : Nat × List D), (y.fst ≤ n.toNat ∧ y.snd = alI x.snd x.fst y.fst) ∧ n.toNat - y.fst < n.toNat - x_1.fst
∧ ((x_1.fst : Int) + 1 = (y.fst : Int) ∧ True) ∧ (x_1.snd.set x.fst (D.int 0)).set x.fst (D.list (List.take r.length (nthD x_1.snd x.fst).asList ++ List.take 1 [D.list (List.take 1 [D.int (x_1.fst : Int)])])) = y.snd ∧
True) ∧ ∀ (n : Int), nthD x_1.snd x.fst = D.int n → False) ∧ (((x_1.fst : Int) < n → False) → fits64 ((x.fst : Int) + 1) ∧ ∃ (y : Nat × List D), (y.fst ≤ 64 ∧ y.snd = alL n.toNat y.fst ++ List.replicate (64 - y.fst)
D.nil) ∧ 64 - y.fst < 64 - x.fst ∧ ((x.fst : Int) + 1 = (y.fst : Int) ∧ True) ∧ x_1.snd = y.snd ∧ True)) ∧ (((x.fst : Int) < (↑(Int.toNat 64) : Int) → False) → 0 + Int.toNat 64 ≤ x.snd.length ∧ noHole x.snd ∧ (isSliceT
(ctx cc0 dsAnn).P (33 : TypeId) = true ∧ sizeIs (ctx cc0 dsAnn).P (33 : TypeId) 1 = true) ∧ D.list (List.take (Int.toNat 64) x.snd) = D.list (alL n.toNat 64))) := by intros; kernel_rfl
theorem vc56n : ∀ (q : Int), symFun (ctx cc0 noAnn) 3 (56 : FuncId) [V.int IntKind.i64 q] (V.tup [V.agg [V.int IntKind.i64 0, V.int IntKind.i64 0, V.int IntKind.i64 0], V.prop False]) = ((q = 2 → (q = 0 ∧ q = 0 ∧ (0 :
Int) = 0 ∧ True) ∧ (true = true ↔ False) ∧ True) ∧ ((q = 2 → False) → (q = 3 → (q = 0 ∧ q = 0 ∧ (0 : Int) = 0 ∧ True) ∧ (true = true ↔ False) ∧ True) ∧ ((q = 3 → False) → (q = 5 → (q = 0 ∧ q = 0 ∧ (0 : Int) = 0 ∧ True) ∧
(true = true ↔ False) ∧ True) ∧ ((q = 5 → False) → (q = 7 → (q = 0 ∧ q = 0 ∧ (0 : Int) = 0 ∧ True) ∧ (true = true ↔ False) ∧ True) ∧ ((q = 7 → False) → (q = 11 → (q = 0 ∧ q = 0 ∧ (0 : Int) = 0 ∧ True) ∧ (true = true ↔
False) ∧ True) ∧ ((q = 11 → False) → (q = 13 → (q = 0 ∧ q = 0 ∧ (0 : Int) = 0 ∧ True) ∧ (true = true ↔ False) ∧ True) ∧ ((q = 13 → False) → (q = 4 → (q = 0 ∧ (2 : Int) = 0 ∧ (3 : Int) = 0 ∧ True) ∧ (true = true ↔ False)
∧ True) ∧ ((q = 4 → False) → (q = 8 → (q = 0 ∧ (2 : Int) = 0 ∧ (3 : Int) = 0 ∧ True) ∧ (true = true ↔ False) ∧ True) ∧ ((q = 8 → False) → (q = 16 → (q = 0 ∧ (2 : Int) = 0 ∧ (3 : Int) = 0 ∧ True) ∧ (true = true ↔ False) ∧
True) ∧ ((q = 16 → False) → (q = 9 → (q = 0 ∧ (3 : Int) = 0 ∧ (2 : Int) = 0 ∧ True) ∧ (true = true ↔ False) ∧ True) ∧ ((q = 9 → False) → ((0 : Int) = 0 ∧ (0 : Int) = 0 ∧ (0 : Int) = 0 ∧ True) ∧ (false = true ↔ False) ∧
True))))))))))) := by intros; kernel_rfl
theorem vc38n : ∀ (k q : Int), symFun (ctx nf1 nrAnn) 4 (38 : FuncId) [V.int IntKind.i64 k, V.int IntKind.i64 q] (V.tup [V.dat (24 : TypeId) D.nil, V.int IntKind.i64 90]) = ((fldP q → False) ∧ (((False → False) → False)
→ ((k < 1 → False) → ((q < k → False) → fits64 (k * q) ∧ (64 < k * q → D.nil = D.nil ∧ (90 : Int) = 90 ∧ True) ∧ ((64 < k * q → False) → 0 ≤ q ∧ q ≤ q ∧ q ≤ 16777216 ∧ 24 * q.toNat ≤ 281474976710656 ∧ (∃ (x : Unit),
False ∧ True ∧ True) ∧ ∀ (x : Unit), False → 0 < LIM ∧ False)) ∧ (q < k → D.nil = D.nil ∧ (90 : Int) = 90 ∧ True)) ∧ (k < 1 → D.nil = D.nil ∧ (90 : Int) = 90 ∧ True)) ∧ ((False → False) → D.nil = D.nil ∧ (90 : Int) = 90
∧ True)) := by intros; kernel_rfl
theorem vc17n : ∀ (q : Int), symFun (ctx nf1 nrAnn) 5 (17 : FuncId) [V.int IntKind.i64 q] (V.tup [V.dat (24 : TypeId) D.nil, V.int IntKind.i64 90]) = ((fldP q → False) ∧ (((False → False) → False) → ((q < 1 → False) →
((q < q → False) → fits64 (q * q) ∧ (64 < q * q → D.nil = D.nil ∧ (90 : Int) = 90 ∧ True) ∧ ((64 < q * q → False) → 0 ≤ q ∧ q ≤ q ∧ q ≤ 16777216 ∧ 24 * q.toNat ≤ 281474976710656 ∧ (∃ (x : Unit), False ∧ True ∧ True) ∧ ∀
(x : Unit), False → 0 < LIM ∧ False)) ∧ (q < q → D.nil = D.nil ∧ (90 : Int) = 90 ∧ True)) ∧ (q < 1 → D.nil = D.nil ∧ (90 : Int) = 90 ∧ True)) ∧ ((False → False) → D.nil = D.nil ∧ (90 : Int) = 90 ∧ True)) := by intros; kernel_rfl
def B6 (n z e : Int) : Prop := (z = 0 → False) ∧ (-9223372036854775808 ≤ n.tdiv z ∧ n.tdiv z < 9223372036854775808) ∧ ((1 ≤ z ∧ z ≤ 64) ∧ 1 ≤ n.tdiv z ∧ n.tdiv z ≤ 64) ∧ (e ≤ (↑(netR z (n.tdiv z)).len
: Int) → (0 : Int) ≤ 0 ∧ 0 ≤ e ∧ e ≤ (↑(netR z (n.tdiv z)).len : Int) ∧ (netR z (n.tdiv z)).sub 0 e.toNat = desR n z e ∧ 0 = desX n z e ∧ True) ∧ ((e ≤ (↑(netR z (n.tdiv z)).len : Int) → False) →
D.nil = desR n z e ∧ 91 = desX n z e ∧ True)
def B5 (n z e : Int) : Prop := (-9223372036854775808 ≤ z * z ∧ z * z < 9223372036854775808) ∧ (z * z = n → (1 ≤ z ∧ z ≤ 8) ∧ (e ≤ (↑(plR z).len : Int) → (0 : Int) ≤ 0 ∧ 0 ≤ e ∧ e ≤ (↑(plR z).len :
Int) ∧ (plR z).sub 0 e.toNat = desR n z e ∧ 0 = desX n z e ∧ True) ∧ ((e ≤ (↑(plR z).len : Int) → False) → B6 n z e)) ∧ ((z * z = n → False) → B6 n z e)
def B4 (n z e : Int) : Prop := (z = 3 → (n = 15 → True ∧ (e ≤ (↑(kkS 7).length : Int) → (0 : Int) ≤ 0 ∧ 0 ≤ e ∧ e ≤ (↑(kkS 7).length : Int) ∧ (D.list (kkS 7)).sub 0 e.toNat = desR n z e ∧ 0 = desX n z
e ∧ True) ∧ ((e ≤ (↑(kkS 7).length : Int) → False) → B5 n z e)) ∧ ((n = 15 → False) → B5 n z e)) ∧ ((z = 3 → False) → B5 n z e)
def B3 (n z e : Int) : Prop := (z = 2 → (2 ≤ n ∧ n ≤ 64) ∧ (e ≤ (↑(p2S n.toNat (evM n.toNat) (evM n.toNat - 1)).length : Int) → (0 : Int) ≤ 0 ∧ 0 ≤ e ∧ e ≤ (↑(p2S n.toNat (evM n.toNat) (evM n.toNat -
1)).length : Int) ∧ (D.list (p2S n.toNat (evM n.toNat) (evM n.toNat - 1))).sub 0 e.toNat = desR n z e ∧ 0 = desX n z e ∧ True) ∧ ((e ≤ (↑(p2S n.toNat (evM n.toNat) (evM n.toNat - 1)).length : Int) →
False) → B4 n z e)) ∧ ((z = 2 → False) → B4 n z e)
def B2 (n z e : Int) : Prop := (z = 1 → (1 ≤ n ∧ n ≤ 64) ∧ (e ≤ (↑(alL n.toNat 64).length : Int) → (0 : Int) ≤ 0 ∧ 0 ≤ e ∧ e ≤ (↑(alL n.toNat 64).length : Int) ∧ (D.list (alL n.toNat 64)).sub 0
e.toNat = desR n z e ∧ 0 = desX n z e ∧ True) ∧ ((e ≤ (↑(alL n.toNat 64).length : Int) → False) → B3 n z e)) ∧ ((z = 1 → False) → B3 n z e)
def B1 (n z e : Int) : Prop := (z = n → (((0 : Int) ≤ 0 ∧ (0 : Int) ≤ 64) ∧ 1 ≤ n ∧ n ≤ 64) ∧ 0 + 1 ≤ [D.list (List.map (fun (i : Nat) => D.int (0 + (↑i : Int))) (List.range n.toNat))].length ∧ (e ≤
((1 : Nat) : Int) → (0 : Int) ≤ 0 ∧ 0 ≤ e ∧ (((1 : Nat) : Int) - e).NonNeg ∧ (0 + 0 + e.toNat ≤ [D.list (List.take 1 [D.list (List.map (fun (i : Nat) => D.int (0 + (↑i : Int))) (List.range
n.toNat))])].length ∧ D.list (List.take e.toNat (List.drop (0 + 0) [D.list (List.take 1 [D.list (List.map (fun (i : Nat) => D.int (0 + (↑i : Int))) (List.range n.toNat))])])) = desR n z e) ∧ 0 = desX
n z e ∧ True) ∧ ((e ≤ ((1 : Nat) : Int) → False) → B2 n z e)) ∧ ((z = n → False) → B2 n z e)
theorem vc19d : ∀ (n z e : Int), symFun (ctx ds1 dsAnn) 8 (19 : FuncId) [V.int IntKind.i64 n, V.int IntKind.i64 z, V.int IntKind.i64 e] (V.tup [V.dat (24 : TypeId) (desR n z e), V.int IntKind.i64 (desX n z e)]) = ((1 ≤ n
→ (((n ≤ 64 → False) → False) → ((z < 1 → False) → (z = 0 → False) ∧ ((n.tmod z = 0 → False) → D.nil = desR n z e ∧ 90 = desX n z e ∧ True) ∧ (((n.tmod z = 0 → False) → False) → (0 ≤ e → ((e ≤ 64 → False) → D.nil = desR
n z e ∧ 2 = desX n z e ∧ True) ∧ (((e ≤ 64 → False) → False) → (e = 0 → D.nil = desR n z e ∧ 0 = desX n z e ∧ True) ∧ ((e = 0 → False) → B1 n z e))) ∧ ((0 ≤ e → False) → D.nil = desR n z e ∧ 2 = desX n z e ∧ True))) ∧ (z
< 1 → D.nil = desR n z e ∧ 90 = desX n z e ∧ True)) ∧ ((n ≤ 64 → False) → D.nil = desR n z e ∧ 90 = desX n z e ∧ True)) ∧ ((1 ≤ n → False) → D.nil = desR n z e ∧ 90 = desX n z e ∧ True)) := by intros; kernel_rfl
theorem alE_succ (x : Nat) : alE (x + 1) = alE x ++ [alT x] := by unfold alE; rw [List.range_succ, List.map_append]; rfl
theorem alE_len (x : Nat) : (alE x).length = x := by unfold alE; rw [List.length_map, List.length_range]
theorem alL_len (n x : Nat) : (alL n x).length = x := by unfold alL; rw [List.length_map, List.length_range]
theorem alI_len (l : List D) (e : Nat) : ∀ x, (alI l e x).length = l.length
 | 0 => rfl
 | x + 1 => List.length_set ..
theorem alI_set (l : List D) (e : Nat) (d : D) : ∀ x, (alI l e x).set e d = l.set e d
 | 0 => rfl
 | x + 1 => List.set_set ..
theorem alI_at {l : List D} {e : Nat} (h : e < l.length) (x : Nat) : nthD (alI l e (x + 1)) e = .list (alE (x + 1)) := by
 show nthD (l.set e _) e = _
 rw [nthD_set _ _ _ _ h, if_pos rfl]
theorem al_next {n x : Nat} (h : x < 64) : (alL n x ++ List.replicate (64 - x) D.nil).set x (.list (alE n)) = alL n (x + 1) ++ List.replicate (64 - (x + 1)) D.nil := by
 have e : 64 - x = 64 - (x + 1) + 1 := by omega
 rw [List.set_append_right _ _ (by rw [alL_len]; exact Nat.le_refl _), alL_len, Nat.sub_self, e, List.replicate_succ, List.set_cons_zero]
 unfold alL
 rw [List.range_succ, List.map_append, List.append_assoc]
 rfl
theorem al_nil {n x : Nat} (h : x < 64) : nthD (alL n x ++ List.replicate (64 - x) D.nil) x = .nil := by
 unfold nthD
 rw [List.getElem?_append_right (by rw [alL_len]; exact Nat.le_refl _), alL_len, Nat.sub_self, List.getElem?_replicate]
 split <;> rfl
theorem slal : isSliceT (ctx cc0 dsAnn).P (33 : TypeId) = true ∧ sizeIs (ctx cc0 dsAnn).P (33 : TypeId) (1 : Nat) = true := by constructor <;> kernel_rfl
theorem s67 (n : Int) (hn1 : 1 ≤ n) (hn2 : n ≤ 64) : symFun (ctx cc0 dsAnn) 3 67 [.int .i64 n] (.dat 24 (.list (alL n.toNat 64))) := by
 rw [vc67]
 refine ⟨by decide, by decide, by decide, by decide, ⟨(0, List.replicate 64 D.nil), ⟨Nat.zero_le _, rfl⟩, ⟨rfl, trivial⟩, ⟨rfl, allNil_rep _⟩, trivial⟩, fun x ⟨hx, hs⟩ => ?_⟩
 have hlen : x.2.length = 64 := by rw [hs, List.length_append, alL_len, List.length_replicate]; omega
 refine ⟨limS (by omega), fun hlt => ?_, fun hge => ?_⟩
 ·have hx7 : x.1 < 64 := by have : (x.1 : Int) < 64 := hlt; omega
  have h0 : nthD x.2 x.1 = .nil := by rw [hs]; exact al_nil hx7
  refine ⟨⟨(0, x.2), ⟨Nat.zero_le _, rfl⟩, ⟨rfl, trivial⟩, rfl, trivial⟩, fun y ⟨hy, hl⟩ => ?_⟩
  obtain ⟨i, l⟩ := y
  have hy : i ≤ n.toNat := hy
  have hl : l = alI x.2 x.1 i := hl
  have hll : l.length = 64 := by rw [hl, alI_len, hlen]
  have hls : ∀ d, l.set x.1 d = x.2.set x.1 d := fun d => by rw [hl, alI_set]
  refine ⟨limS (by show n.toNat - i ≤ _; omega), fun hlt2 => ?_, fun hge2 => ?_⟩
  ·have hin : i < n.toNat := by have : (i : Int) < n := hlt2; omega
   refine ⟨by omega, hlt, by show x.1 < l.length; omega, fun hn => ?_, fun r hr => ?_, fun m hm => ?_⟩
   ·cases i with
    | zero =>
     refine ⟨Nat.le_refl _, Nat.le_refl _, by decide, by omega, hlt, by show x.1 < l.length; omega, trivial, rfl, rfl, trivial, ⟨by dsimp only; omega, by dsimp only; omega⟩, (1, l.set x.1 (.list (alE 1))), ⟨by show 1 ≤ _; omega, ?_⟩, by show n.toNat - 1 < n.toNat - 0; omega, ⟨rfl, trivial⟩, rfl, trivial⟩
     show l.set x.1 _ = x.2.set x.1 _
     rw [hls]
    | succ i =>
     have hn : nthD l x.1 = .nil := hn
     rw [hl, alI_at (by omega)] at hn; cases hn
   ·have hr : nthD l x.1 = .list r := hr
    cases i with
    | zero => rw [hl] at hr; have hr : nthD x.2 x.1 = .list r := hr; rw [h0] at hr; cases hr
    | succ i =>
     have hat : nthD l x.1 = .list (alE (i + 1)) := by rw [hl]; exact alI_at (by omega) i
     have hEl := alE_len (i + 1)
     dsimp only
     rw [hat] at hr ⊢
     cases hr
     refine ⟨Nat.le_refl _, by omega, rfl, ⟨_, rfl⟩, Nat.le_refl _, Nat.le_refl _, by show 0 + _ ≤ (alE (i + 1)).length; omega, by omega, by omega, hlt, by rw [List.length_set]; omega, trivial, rfl, ?_, trivial, ⟨by omega, by omega⟩, (i + 1 + 1, l.set x.1 (.list (alE (i + 1 + 1)))), ⟨by show i + 1 + 1 ≤ _; omega, ?_⟩, by show n.toNat - (i + 1 + 1) < n.toNat - (i + 1); omega, ⟨by show ((i + 1 : Nat) : Int) + 1 = ((i + 1 + 1 : Nat) : Int); omega, trivial⟩, ?_, trivial⟩
     ·show _ = (List.take (alE (i + 1)).length (alE (i + 1)) ++ List.take 1 _).length
      rw [List.take_of_length_le (Nat.le_refl _), List.length_append]; rfl
     ·show l.set x.1 _ = x.2.set x.1 _
      rw [hls]
     ·show (l.set x.1 (D.int 0)).set x.1 (.list (List.take (alE (i + 1)).length (alE (i + 1)) ++ List.take 1 _)) = l.set x.1 _
      rw [List.set_set, List.take_of_length_le (Nat.le_refl _), alE_succ (i + 1)]
      rfl
   ·have hm : nthD l x.1 = .int m := hm
    cases i with
    | zero => rw [hl] at hm; have hm : nthD x.2 x.1 = .int m := hm; rw [h0] at hm; cases hm
    | succ i => rw [hl, alI_at (by omega)] at hm; cases hm
  ·have hge2 := not_of hge2
   have ei : i = n.toNat := by have : ¬ (i : Int) < n := hge2; omega
   refine ⟨⟨by omega, by omega⟩, (x.1 + 1, l), ⟨by show x.1 + 1 ≤ 64; omega, ?_⟩, by show 64 - (x.1 + 1) < 64 - x.1; omega, ⟨by show (x.1 : Int) + 1 = ((x.1 + 1 : Nat) : Int); omega, trivial⟩, rfl, trivial⟩
   show l = alL n.toNat (x.1 + 1) ++ _
   obtain ⟨N, hN⟩ : ∃ N, n.toNat = N + 1 := ⟨n.toNat - 1, by omega⟩
   rw [hl, ei, ← al_next hx7, ← hs, hN]; rfl
 ·have ex : x.1 = 64 := by have : ¬ (x.1 : Int) < 64 := not_of hge; omega
  have hs7 : x.2 = alL n.toNat 64 := by rw [hs, ex]; simp
  rw [hs7]
  refine ⟨by rw [alL_len]; decide, ⟨fun k h => by obtain ⟨i, _, e⟩ := List.mem_map.1 h; cases e⟩, slal, by rw [List.take_of_length_le (by rw [alL_len]; decide)]⟩
theorem fld_no {q : Int} (h : ¬ fldP q) : q ≠ 2 ∧ q ≠ 3 ∧ q ≠ 5 ∧ q ≠ 7 ∧ q ≠ 11 ∧ q ≠ 13 ∧ q ≠ 4 ∧ q ≠ 8 ∧ q ≠ 16 ∧ q ≠ 9 := by
 refine ⟨?_, ?_, ?_, ?_, ?_, ?_, ?_, ?_, ?_, ?_⟩ <;> (intro e; exact h ⟨by omega⟩)
theorem s56n (q : Int) (h : ¬ fldP q) : symFun (ctx cc0 noAnn) 3 56 [.int .i64 q] (.tup [.agg [.int .i64 0, .int .i64 0, .int .i64 0], .prop False]) := by
 rw [vc56n]
 obtain ⟨h1, h2, h3, h4, h5, h6, h7, h8, h9, h10⟩ := fld_no h
 exact ⟨fun e => (h1 e).elim, fun _ => ⟨fun e => (h2 e).elim, fun _ => ⟨fun e => (h3 e).elim, fun _ => ⟨fun e => (h4 e).elim, fun _ => ⟨fun e => (h5 e).elim, fun _ => ⟨fun e => (h6 e).elim, fun _ => ⟨fun e => (h7 e).elim, fun _ => ⟨fun e => (h8 e).elim, fun _ => ⟨fun e => (h9 e).elim, fun _ => ⟨fun e => (h10 e).elim, fun _ => ⟨⟨rfl, rfl, rfl, trivial⟩, ⟨fun e => (Bool.noConfusion e), fun e => e.elim⟩, trivial⟩⟩⟩⟩⟩⟩⟩⟩⟩⟩⟩
theorem s38n (k q : Int) (h : ¬ fldP q) : symFun (ctx nf1 nrAnn) 4 38 [.int .i64 k, .int .i64 q] (.tup [.dat 24 .nil, .int .i64 90]) := by
 rw [vc38n]
 exact ⟨h, ⟨fun k => (k fun e => e).elim, fun _ => ⟨rfl, rfl, trivial⟩⟩⟩
theorem s17n (q : Int) (h : ¬ fldP q) : symFun (ctx nf1 nrAnn) 5 17 [.int .i64 q] (.tup [.dat 24 .nil, .int .i64 90]) := by
 rw [vc17n]
 exact ⟨h, ⟨fun k => (k fun e => e).elim, fun _ => ⟨rfl, rfl, trivial⟩⟩⟩
theorem fin {n z e : Int} {s : D} (h : desD n z e = s) (h1 : 1 ≤ e) (h2 : e ≤ (s.len : Nat)) : s.sub 0 e.toNat = desR n z e ∧ 0 = desX n z e ∧ True := by
 have hn : s ≠ .nil := by
  rintro rfl
  have : ((D.nil.len : Nat) : Int) = 0 := rfl
  omega
 have he : e ≠ 0 := by omega
 unfold desR desX
 rw [if_neg he, if_neg he, h, if_neg hn, if_neg hn]
 exact ⟨rfl, rfl, trivial⟩
theorem fin0 {n z e : Int} (h : desD n z e = .nil) (h1 : e ≠ 0) : D.nil = desR n z e ∧ 91 = desX n z e ∧ True := by
 unfold desR desX
 rw [if_neg h1, if_neg h1, if_pos h, if_pos h]
 exact ⟨rfl, rfl, trivial⟩
structure pathP (n z e : Int) : Prop where
 sz : sizZ n z
 e1 : 1 ≤ e
 e2 : e ≤ 64
theorem size_le {n z : Int} (h : sizZ n z) : z ≤ n ∧ 1 ≤ n.tdiv z ∧ n.tdiv z ≤ 64 ∧ z * n.tdiv z = n := by
 have hn := h.n1
 have hz := h.z1
 have hm : z * n.tdiv z = n := by have := Int.mul_tdiv_add_tmod n z; rw [h.dv] at this; omega
 have h0 : 0 ≤ n.tdiv z := Int.tdiv_nonneg (by omega) (by omega)
 have h1 : n.tdiv z ≠ 0 := fun k => by rw [k, Int.mul_zero] at hm; omega
 have h2 : n.tdiv z ≤ n := by
  have := Int.mul_le_mul_of_nonneg_right hz h0
  omega
 have h3 : z * 1 ≤ z * n.tdiv z := Int.mul_le_mul_of_nonneg_left (by omega) (by omega)
 omega
theorem hit {P : Prop} {s d : D} {e : Int} {i : Decidable (P ∧ hasE s e)} (hp : P) (h : e ≤ (s.len : Nat)) : (if P ∧ hasE s e then s else d) = s := if_pos ⟨hp, ⟨h⟩⟩
theorem mis {P : Prop} {s d : D} {e : Int} {i : Decidable (P ∧ hasE s e)} (h : ¬ (P ∧ e ≤ (s.len : Nat))) : (if P ∧ hasE s e then s else d) = d := if_neg fun k => h ⟨k.1, k.2.out⟩
theorem b6 {n z e : Int} (p : pathP n z e) (h : desD n z e = des6 n z e) : B6 n z e := by
 obtain ⟨h1, h2, h3, h4⟩ := size_le p.sz
 have hz := p.sz.z1
 have hn := p.sz.n1
 have he := p.e1
 refine ⟨fun k => by omega, ⟨by omega, by omega⟩, ⟨⟨hz, by omega⟩, h2, h3⟩, fun k => ⟨Int.le_refl _, by omega, k, fin (by rw [h]; exact if_pos ⟨k⟩) he k⟩, fun k => fin0 (by rw [h]; exact if_neg fun q => k q.out) (by omega)⟩
theorem b5 {n z e : Int} (p : pathP n z e) (h : desD n z e = des5 n z e) : B5 n z e := by
 obtain ⟨h1, h2, h3, h4⟩ := size_le p.sz
 have hz := p.sz.z1
 have hn := p.sz.n1
 have he := p.e1
 have hq : z * z ≤ 64 * 64 := Int.mul_le_mul (by omega) (by omega) (by omega) (by omega)
 have hq0 : 0 ≤ z * z := Int.mul_nonneg (by omega) (by omega)
 refine ⟨⟨by omega, by omega⟩, fun k => ⟨⟨hz, ?_⟩, fun k2 => ⟨Int.le_refl _, by omega, k2, fin (by rw [h]; exact hit k k2) he k2⟩, fun k2 => b6 p (by rw [h]; exact mis fun q => k2 q.2)⟩, fun k => b6 p (by rw [h]; exact mis fun q => k q.1)⟩
 refine Int.not_lt.1 fun k3 => ?_
 have : 9 * 9 ≤ z * z := Int.mul_le_mul (by omega) (by omega) (by omega) (by omega)
 omega
theorem b4 {n z e : Int} (p : pathP n z e) (h : desD n z e = des4 n z e) : B4 n z e :=
 ⟨fun k => ⟨fun k1 => ⟨trivial, fun k2 => ⟨Int.le_refl _, Int.le_trans (by decide) p.e1, k2, fin (by rw [h]; exact hit ⟨k, k1⟩ k2) p.e1 k2⟩, fun k2 => b5 p (by rw [h]; exact mis fun q => k2 q.2)⟩, fun k1 => b5 p (by rw [h]; exact mis fun q => k1 q.1.2)⟩, fun k => b5 p (by rw [h]; exact mis fun q => k q.1.1)⟩
theorem b3 {n z e : Int} (p : pathP n z e) (h : desD n z e = des3 n z e) : B3 n z e :=
 ⟨fun k => ⟨⟨by have := size_le p.sz; omega, p.sz.n1.2⟩, fun k2 => ⟨Int.le_refl _, Int.le_trans (by decide) p.e1, k2, fin (by rw [h]; exact hit k k2) p.e1 k2⟩, fun k2 => b4 p (by rw [h]; exact mis fun q => k2 q.2)⟩, fun k => b4 p (by rw [h]; exact mis fun q => k q.1)⟩
theorem b2 {n z e : Int} (p : pathP n z e) (h : desD n z e = des2 n z e) : B2 n z e :=
 ⟨fun k => ⟨p.sz.n1, fun k2 => ⟨Int.le_refl _, Int.le_trans (by decide) p.e1, k2, fin (by rw [h]; exact hit k k2) p.e1 k2⟩, fun k2 => b3 p (by rw [h]; exact mis fun q => k2 q.2)⟩, fun k => b3 p (by rw [h]; exact mis fun q => k q.1)⟩
theorem b1 {n z e : Int} (p : pathP n z e) : B1 n z e := by
 have he := p.e1
 refine ⟨fun k => ⟨⟨⟨by decide, by decide⟩, p.sz.n1⟩, Nat.le_refl _, fun k2 => ?_, fun k2 => b2 p (mis fun q => k2 q.2)⟩, fun k => b2 p (mis fun q => k q.1)⟩
 have k3 : e ≤ ((rowL n).len : Nat) := k2
 have := fin (n := n) (z := z) (s := rowL n) (hit (P := d1P n z) k k3) he k3
 exact ⟨Int.le_refl _, by omega, k2, ⟨by show 0 + 0 + e.toNat ≤ 1; have : e ≤ 1 := k2; omega, this.1⟩, this.2⟩
theorem s19d (n z e : Int) (h : sizZ n z) (he0 : 0 ≤ e) (he : e ≤ 64) : symFun (ctx ds1 dsAnn) 8 19 [.int .i64 n, .int .i64 z, .int .i64 e] (.tup [.dat 24 (desR n z e), .int .i64 (desX n z e)]) := by
 rw [vc19d]
 have hn := h.n1
 have hz := h.z1
 refine ⟨fun _ => ⟨fun _ => ⟨fun _ => ?_, fun k => absurd k (by omega)⟩, fun k => (k hn.2).elim⟩, fun k => (k hn.1).elim⟩
 refine ⟨fun k => absurd k (by omega), fun k => (k h.dv).elim, fun _ => ⟨fun _ => ⟨fun k => (k he).elim, fun _ => ⟨fun k => ?_, fun k => b1 ⟨h, by have k := not_of k; omega, he⟩⟩⟩, fun k => (k he0).elim⟩⟩
 unfold desR desX
 rw [if_pos k, if_pos k]
 exact ⟨rfl, rfl, trivial⟩
end Go.Ev

end

section
open Go.Proofs
namespace Go.Ev
set_option maxRecDepth 100000
set_option maxHeartbeats 4000000
def szD (n z : Int) : D := .list (List.replicate (n.tdiv z).toNat (.int z))
structure dgS (n z : Int) (s : D) : Prop where
 big : bigP s
 len : s.len ≤ 64
 e0 : ∀ i, i < s.len → errE n .nil (el s i) = 0
 e1 : ∀ i, i < s.len → errE n (szD n z) (el s i) = 0
 mt : ∀ a b, b < a → a < n.toNat → mtS s s.len a b ≤ 1
 me : (s.len : Int) * (n.tdiv z * triZ z) ≤ triZ n
theorem scan_err {n : Int} {sz s : D} : ∀ f i, scanK n sz s f i = (0, 0) → ∀ k, i ≤ k → k < i + f → errE n sz (el s k) = 0
 | 0, i, _, k, h1, h2 => by omega
 | f + 1, i, h, k, h1, h2 => by
  unfold scanK at h
  by_cases he : errE n sz (el s i) ≠ 0
  ·rw [if_pos he] at h
   exact absurd (congrArg Prod.snd h) he
  ·rw [if_neg he] at h
   rcases Nat.lt_or_ge i k with h3 | h3
   ·exact scan_err f (i + 1) h k h3 (by omega)
   ·have : k = i := by omega
    subst this; exact Classical.not_not.1 he
theorem chk_err {n : Int} {sz s : D} (h : chk n sz s = (0, 0)) {i : Nat} (hi : i < s.len) : errE n sz (el s i) = 0 := by
 unfold chk at h
 split at h
 ·exact absurd (congrArg Prod.snd h) (by decide)
 ·split at h
  ·exact absurd (congrArg Prod.snd h) (by decide)
  ·exact scan_err _ _ h i (Nat.zero_le _) (by omega)
theorem szD_nat (Q Z : Nat) (hz : 1 ≤ Z) : szD ((Z * Q : Nat) : Int) Z = .list (List.replicate Q (.int Z)) ∧ ((Z * Q : Nat) : Int).tdiv Z = Q := by
 have h : ((Z * Q : Nat) : Int).tdiv (Z : Int) = (Q : Nat) := by rw [Int.natCast_mul]; exact Int.mul_tdiv_cancel_left _ (by omega)
 exact ⟨by unfold szD; rw [h]; rfl, h⟩
theorem rep_at {Q i : Nat} (d : D) (h : i < Q) : nAt (.list (List.replicate Q d)) i = d.asInt := by
 unfold nAt nthD
 show (((List.replicate Q d)[i]?).getD .nil).asInt = _
 rw [List.getElem?_replicate, if_pos h]; rfl
theorem rep_len (Q : Nat) (d : D) : (D.list (List.replicate Q d)).len = Q := List.length_replicate ..
theorem triZ_nn {z : Int} (h : 1 ≤ z) : 0 ≤ triZ z := Int.tdiv_nonneg (Int.mul_nonneg (by omega) (by omega)) (by decide)
theorem dg_nil {n z : Int} (h : 1 ≤ n) : dgS n z .nil :=
 ⟨⟨by decide, fun i hi => absurd hi (by show ¬ i < 0; omega)⟩, by decide, fun i hi => absurd hi (by show ¬ i < 0; omega), fun i hi => absurd hi (by show ¬ i < 0; omega), fun _ _ _ _ => by show (0 : Int) ≤ 1; decide, by show (0 : Int) * _ ≤ _; rw [Int.zero_mul]; exact triZ_nn h⟩
theorem dg_one {Q Z : Nat} {s : D} (h : oneS (Z * Q) s) (hq : (el s 0).len = Q) (hz : ∀ i, i < Q → (el (el s 0) i).len = Z) (hZ : 1 ≤ Z) : dgS ((Z * Q : Nat) : Int) Z s := by
 obtain ⟨hs, hd⟩ := szD_nat Q Z hZ
 have hL : szL s (el s 0).len = List.replicate Q (.int Z) := by
  refine List.eq_replicate_iff.2 ⟨by unfold szL; rw [List.length_map, List.length_range, hq], fun d hd => ?_⟩
  obtain ⟨i, hi, rfl⟩ := List.mem_map.1 hd
  rw [hz i (by have := List.mem_range.1 hi; omega)]
 have hl := h.len
 refine ⟨h.big, by omega, fun i hi => chk_err h.chk0 hi, fun i hi => chk_err (by rw [hs, ← hL]; exact h.chk1) hi, fun a b hb ha => by rw [h.one a b hb (by omega)]; exact Int.le_refl _, ?_⟩
 rw [hd, ← h.tri.1, hL, hq, triS_const (t := triZ Z) (fun i hi => by rw [rep_at _ hi]; rfl) Q (Nat.le_refl _)]
 exact Int.le_refl _
theorem dg_pairs {n : Nat} (h2 : 2 ≤ n) (h64 : n ≤ 64) (he : n % 2 = 0) : dgS (n : Int) 2 (.list (p2S n (evM n) (evM n - 1))) := by
 have hm : evM n = n := by unfold evM; omega
 have h := rob_one h2 h64
 have h0 : el (.list (p2S n (evM n) (evM n - 1))) 0 = .list (p2E n (evM n) 0) := p2S_at (by omega)
 have hl : (D.list (p2E n (evM n) 0)).len = n / 2 := by rw [p2E_len]; omega
 obtain ⟨Q, rfl⟩ : ∃ Q, n = 2 * Q := ⟨n / 2, by omega⟩
 refine dg_one (Z := 2) h (by rw [h0, hl]; omega) (fun j hj => ?_) (by decide)
 rw [h0]
 cases j with
 | zero =>
  rw [p2E_zero]
  unfold p2F
  rw [if_neg (by omega)]; rfl
 | succ k => rw [p2E_at (show k < evM (2 * Q) / 2 - 1 by omega)]; rfl
theorem dg_plane {q : Nat} (h : q ∈ plL) : dgS ((q * q : Nat) : Int) q (.list (plS q)) := by
 obtain ⟨_, h2, _⟩ := pl_rng h
 have h0 := plane_at q (show 0 < q by omega)
 exact dg_one (plane_one h) (by rw [h0]; exact netE_len _ _ _ _) (fun j hj => by rw [h0, netE_at q q 0 hj]; exact netT_len _ _ _ _) (by omega)
theorem dg_kk : dgS 15 3 (.list (kkS 7)) := by
 have h0 := kkS_at (i := 0) (by decide)
 exact dg_one (Q := 5) (Z := 3) kk_one (by rw [h0]; exact kkE_len 0 5 (by decide)) (fun j hj => by rw [h0]; exact kk_len3 0 j hj) (by decide)
theorem net_num : (qsL.all fun q => (List.range (kMax q + 1)).all fun k => decide ((q : Int) * ((q : Int) * triZ k) ≤ triZ ((k * q : Nat) : Int))) = true := by decide +kernel
theorem dg_net {k q : Int} (h : netQ k q) : dgS (k * q) k (netR k q) := by
 obtain ⟨Q, hQ, rfl⟩ := fld_nat h.f
 obtain ⟨K, rfl⟩ : ∃ n : Nat, k = n := ⟨k.toNat, by have := h.k0; omega⟩
 have hk := h.k0
 have hkq := h.kq
 have hlim := h.lim
 have hq := qs_rng hQ
 rw [← Int.natCast_mul] at hlim ⊢
 have hM : K ≤ kMax Q := by
  have := (Nat.le_div_iff_mul_le (show 0 < Q by omega)).2 (show K * Q ≤ 64 by omega)
  unfold kMax; omega
 have hn := net_ok hQ (show 0 < K by omega) hM
 have hL : (D.list (netS Q K Q)).len = Q := netS_len _ _ _
 obtain ⟨hs, hd⟩ := szD_nat Q K (by omega)
 unfold netR
 rw [if_pos h, Int.toNat_natCast, Int.toNat_natCast]
 refine ⟨⟨by rw [hL]; omega, fun i hi => ?_⟩, by rw [hL]; omega, fun i hi => ?_, fun i hi => ?_, fun a b hb ha => ?_, ?_⟩
 ·rw [hL] at hi
  rw [netS_at Q K hi]
  exact ⟨by rw [show (D.list (netE Q K i Q)).len = Q from netE_len _ _ _ _]; omega, fun j hj => by
   rw [show (D.list (netE Q K i Q)).len = Q from netE_len _ _ _ _] at hj
   rw [netE_at Q K i hj, show (D.list (netT Q i j K)).len = K from netT_len _ _ _ _]; omega⟩
 ·rw [hL] at hi
  rw [netS_at Q K hi]; exact net_errE hn hi ⟨fun hz => absurd hz (Nat.lt_irrefl 0)⟩
 ·rw [hL] at hi
  rw [netS_at Q K hi, hs]; exact net_errE hn hi ⟨fun _ => ⟨rep_len _ _, fun j hj => by rw [rep_at _ hj]; rfl⟩⟩
 ·rw [Int.toNat_natCast] at ha
  rw [hL, net_meet hn (by omega) (by omega)]
  split <;> decide
 ·rw [hL, hd]
  exact of_decide_eq_true (List.all_eq_true.1 (List.all_eq_true.1 net_num Q hQ) K (List.mem_range.2 (by omega)))
theorem ins_range : ∀ n, n < 65 → insB (List.range n) 0 = some (2 ^ n - 1) := by decide +kernel
theorem al_at {n x : Nat} (h : x < n) : el (.list (alE n)) x = alT x := by
 unfold el nthD alE
 show ((((List.range n).map alT)[x]?).getD .nil) = _
 rw [List.getElem?_map, List.getElem?_range h]; rfl
theorem al_ev {n x : Nat} (h : x < 64) : el (.list (alL n 64)) x = .list (alE n) := by
 unfold el nthD alL
 show ((((List.range 64).map fun _ => D.list (alE n))[x]?).getD .nil) = _
 rw [List.getElem?_map, List.getElem?_range h]; rfl
theorem al_flat {n : Nat} : ∀ x, x ≤ n → flatL (.list (alE n)) x = (List.range x).map fun y => D.int (y : Nat)
 | 0, _ => rfl
 | x + 1, h => by
  show flatL (.list (alE n)) x ++ (el (.list (alE n)) x).asList = _
  rw [al_flat x (by omega), al_at (by omega), List.range_succ, List.map_append]; rfl
theorem al_mtE {n a b : Nat} : ∀ x, x ≤ n → mtE (.list (alE n)) x a b = 0
 | 0, _ => rfl
 | x + 1, h => by
  show mtE (.list (alE n)) x a b + mtN (el (.list (alE n)) x) (el (.list (alE n)) x).len a b = 0
  rw [al_mtE x (by omega), al_at (by omega)]; rfl
theorem al_mtS {n a b : Nat} : ∀ x, x ≤ 64 → mtS (.list (alL n 64)) x a b = 0
 | 0, _ => rfl
 | x + 1, h => by
  show mtS (.list (alL n 64)) x a b + mtE (el (.list (alL n 64)) x) (el (.list (alL n 64)) x).len a b = 0
  rw [al_mtS x (by omega), al_ev (by omega), show (D.list (alE n)).len = n from alE_len n, al_mtE n (Nat.le_refl _)]; rfl
theorem dg_al {n : Nat} (h1 : 1 ≤ n) (h64 : n ≤ 64) : dgS (n : Int) 1 (.list (alL n 64)) := by
 have hL : (D.list (alL n 64)).len = 64 := alL_len n 64
 have hE : (D.list (alE n)).len = n := alE_len n
 obtain ⟨hs, hd⟩ := szD_nat n 1 (Nat.le_refl _)
 rw [Nat.one_mul] at hs hd
 have he : ∀ sz : D, (0 < sz.len → sz.len = n ∧ ∀ i, i < n → nAt sz i = 1) → errE (n : Int) sz (.list (alE n)) = 0 := fun sz hz =>
  errE_zero (v := List.range n) (fun j hj => by rw [hE] at hj; rw [al_at hj]; exact Nat.one_ne_zero) (fun h0 => ⟨by rw [hE, (hz h0).1], fun j hj => by
   rw [hE] at hj
   rw [al_at hj, (hz h0).2 j hj]; rfl⟩) (by rw [hE]; exact al_flat n (Nat.le_refl _)) (ins_range n (by omega))
 refine ⟨⟨by rw [hL]; decide, fun i hi => ?_⟩, by rw [hL]; decide, fun i hi => ?_, fun i hi => ?_, fun a b _ _ => ?_, ?_⟩
 ·rw [hL] at hi
  rw [al_ev hi]
  exact ⟨by rw [hE]; omega, fun j hj => by rw [hE] at hj; rw [al_at hj]; show 1 ≤ 1000; decide⟩
 ·rw [hL] at hi
  rw [al_ev hi]; exact he _ fun h0 => absurd h0 (Nat.lt_irrefl 0)
 ·rw [hL] at hi
  rw [al_ev hi]; exact he _ fun _ => by rw [show szD (n : Int) 1 = .list (List.replicate n (.int ((1 : Nat) : Int))) from hs]; exact ⟨rep_len _ _, fun j hj => by rw [rep_at _ hj]; rfl⟩
 ·rw [hL, al_mtS 64 (Nat.le_refl _)]; decide
 ·rw [show triZ 1 = 0 from rfl, Int.mul_zero, Int.mul_zero]; exact triZ_nn (by omega)
def rgA (n : Nat) : List D := (List.range n).map fun i => D.int ((i : Nat) : Int)
theorem rg_at {n x : Nat} (h : x < n) : nAt (.list (rgA n)) x = (x : Nat) := by
 unfold nAt nthD
 show ((((List.range n).map fun i => D.int ((i : Nat) : Int))[x]?).getD .nil).asInt = _
 rw [List.getElem?_map, List.getElem?_range h]; rfl
theorem rg_mtI {n a b i : Nat} (hb : b < a) (hi : i < n) : ∀ j, j ≤ i → mtI (.list (rgA n)) i j a b = if i = a ∧ b < j then 1 else 0
 | 0, _ => by rw [if_neg (by omega)]; rfl
 | j + 1, hj => by
  show mtI _ i j a b + indN _ _ a b = _
  rw [rg_mtI hb hi j (by omega), rg_at (show j < n by omega), rg_at hi]
  unfold indN
  rw [if_neg (show ¬ (((j : Nat) : Int) = (a : Int) ∧ ((i : Nat) : Int) = (b : Int)) by omega)]
  by_cases h1 : i = a ∧ b < j
  ·rw [if_pos h1, if_neg (by omega), if_pos (by omega)]; rfl
  ·by_cases h2 : i = a ∧ b = j
   ·rw [if_neg h1, if_pos (by omega), if_pos (by omega)]; rfl
   ·rw [if_neg h1, if_neg (by omega), if_neg (by omega)]; rfl
theorem rg_mtN {n a b : Nat} (hb : b < a) : ∀ i, i ≤ n → mtN (.list (rgA n)) i a b = if a < i then 1 else 0
 | 0, _ => by rw [if_neg (by omega)]; rfl
 | i + 1, hi => by
  show mtN _ i a b + mtI _ i i a b = _
  rw [rg_mtN hb i (by omega), rg_mtI hb (by omega) i (Nat.le_refl _)]
  by_cases h1 : a < i
  ·rw [if_pos h1, if_neg (by omega), if_pos (by omega)]; rfl
  ·by_cases h2 : i = a
   ·rw [if_neg h1, if_pos (by omega), if_pos (by omega)]; rfl
   ·rw [if_neg h1, if_neg (by omega), if_neg (by omega)]; rfl
theorem dg_row {n : Nat} (h1 : 1 ≤ n) (h64 : n ≤ 64) : dgS (n : Int) n (rowL n) := by
 have hr : rowL n = .list [.list [.list (rgA n)]] := by
  unfold rowL
  rw [Int.toNat_natCast]
  simp only [Int.zero_add]
  rfl
 rw [hr]
 obtain ⟨hs, hd⟩ := szD_nat 1 n h1
 rw [Nat.mul_one] at hs hd
 have hT : (D.list (rgA n)).len = n := by show (rgA n).length = n; unfold rgA; rw [List.length_map, List.length_range]
 have he : ∀ sz : D, (0 < sz.len → sz.len = 1 ∧ nAt sz 0 = n) → errE (n : Int) sz (.list [.list (rgA n)]) = 0 := fun sz hz =>
  errE_zero (v := List.range n) (fun j hj => by
   have hj : j < 1 := hj
   have : j = 0 := by omega
   subst this
   show (D.list (rgA n)).len ≠ 0
   rw [hT]; omega) (fun h0 => ⟨by rw [(hz h0).1]; rfl, fun j hj => by
   have hj : j < 1 := hj
   have : j = 0 := by omega
   subst this
   rw [(hz h0).2]
   show (((D.list (rgA n)).len : Nat) : Int) = n
   rw [hT]⟩) rfl (ins_range n (by omega))
 have h0 : ∀ i, i < (D.list [D.list [D.list (rgA n)]]).len → el (D.list [D.list [D.list (rgA n)]]) i = .list [.list (rgA n)] := fun i hi => by
  have hi : i < 1 := hi
  have : i = 0 := by omega
  subst this; rfl
 refine ⟨⟨by show 1 ≤ 100; decide, fun i hi => ?_⟩, by show 1 ≤ 64; decide, fun i hi => ?_, fun i hi => ?_, fun a b hb _ => ?_, ?_⟩
 ·rw [h0 i hi]
  refine ⟨by show 1 ≤ 100; decide, fun j hj => ?_⟩
  have hj : j < 1 := hj
  have : j = 0 := by omega
  subst this
  show (D.list (rgA n)).len ≤ 1000
  rw [hT]; omega
 ·rw [h0 i hi]; exact he _ fun h0 => absurd h0 (Nat.lt_irrefl 0)
 ·rw [h0 i hi]; exact he _ fun _ => by rw [hs]; exact ⟨rfl, rfl⟩
 ·show (0 : Int) + (0 + mtN (.list (rgA n)) (D.list (rgA n)).len a b) ≤ 1
  rw [hT, rg_mtN hb n (Nat.le_refl _)]
  split <;> decide
 ·rw [hd]
  show (1 : Int) * (1 * triZ n) ≤ _
  rw [Int.one_mul, Int.one_mul]; exact Int.le_refl _
end Go.Ev

end

section
open Go.Proofs
namespace Go.Ev
set_option maxRecDepth 100000
set_option maxHeartbeats 4000000
theorem subLen {s : D} {i : Nat} (h : i ≤ s.len) : (s.sub 0 i).len = i := sub_len h
theorem subEl (l : D) (n i : Nat) (h : i < n) : el (l.sub 0 n) i = el l i := by
 cases l <;> simp [D.sub, el, D.asList, nthD, List.getElem?_take, h]
theorem indN_nn (x y : Int) (a b : Nat) : 0 ≤ indN x y a b := by
 unfold indN
 split <;> split <;> decide
theorem mtI_nn (t : D) (i a b : Nat) : ∀ j, 0 ≤ mtI t i j a b
 | 0 => Int.le_refl _
 | j + 1 => Int.add_nonneg (mtI_nn t i a b j) (indN_nn ..)
theorem mtN_nn (t : D) (a b : Nat) : ∀ i, 0 ≤ mtN t i a b
 | 0 => Int.le_refl _
 | i + 1 => Int.add_nonneg (mtN_nn t a b i) (mtI_nn ..)
theorem mtE_nn (ev : D) (a b : Nat) : ∀ j, 0 ≤ mtE ev j a b
 | 0 => Int.le_refl _
 | j + 1 => Int.add_nonneg (mtE_nn ev a b j) (mtN_nn ..)
theorem mtS_mono (s : D) (a b : Nat) {x : Nat} : ∀ y, x ≤ y → mtS s x a b ≤ mtS s y a b
 | 0, h => by rw [Nat.le_zero.1 h]; exact Int.le_refl _
 | y + 1, h => by
  rcases Nat.lt_or_ge x (y + 1) with h1 | h1
  ·have h2 := mtS_mono s a b y (show x ≤ y by omega)
   have h3 := mtE_nn (el s y) a b (el s y).len
   show _ ≤ mtS s y a b + _
   omega
  ·rw [show x = y + 1 by omega]; exact Int.le_refl _
theorem mtS_sub (s : D) (E a b : Nat) : ∀ x, x ≤ E → mtS (s.sub 0 E) x a b = mtS s x a b
 | 0, _ => rfl
 | x + 1, h => by
  show mtS (s.sub 0 E) x a b + mtE (el (s.sub 0 E) x) (el (s.sub 0 E) x).len a b = mtS s x a b + _
  rw [mtS_sub s E a b x (by omega), subEl s E x (by omega)]
theorem dg_sub {n z : Int} {s : D} (hz : sizZ n z) (h : dgS n z s) {E : Nat} (hE : E ≤ s.len) : dgS n z (s.sub 0 E) := by
 have hl := subLen hE
 have he := fun i hi => subEl s E i hi
 have hlen := h.len
 have hb := h.big.out
 refine ⟨⟨by rw [hl]; omega, fun i hi => by rw [hl] at hi; rw [he i hi]; exact hb.2 i (by omega)⟩, by omega, fun i hi => ?_, fun i hi => ?_, fun a b hb ha => ?_, ?_⟩
 ·rw [hl] at hi; rw [he i hi]; exact h.e0 i (by omega)
 ·rw [hl] at hi; rw [he i hi]; exact h.e1 i (by omega)
 ·rw [hl, mtS_sub s E a b E (Nat.le_refl _)]
  exact Int.le_trans (mtS_mono s a b s.len hE) (h.mt a b hb ha)
 ·rw [hl]
  refine Int.le_trans (Int.mul_le_mul_of_nonneg_right (show (E : Int) ≤ (s.len : Nat) by omega) (Int.mul_nonneg ?_ (triZ_nn hz.z1))) h.me
  have := (size_le hz).2.1
  omega
theorem szD_fit {n z : Int} (h : sizZ n z) : okS n (szD n z) ∧ triS (szD n z) (szD n z).len = n.tdiv z * triZ z := by
 obtain ⟨h1, h2, h3, h4⟩ := size_le h
 have hl : (szD n z).len = (n.tdiv z).toNat := rep_len _ _
 have ha : ∀ i, i < (n.tdiv z).toNat → nAt (szD n z) i = z := fun i hi => rep_at _ hi
 have hq : (((n.tdiv z).toNat : Nat) : Int) = n.tdiv z := by omega
 refine ⟨⟨h.n1.1, h.n1.2, ⟨fun i hi => by rw [hl] at hi; rw [ha i hi]; exact h.z1, ?_⟩⟩, ?_⟩
 ·rw [hl, sumZ_const ha _ (Nat.le_refl _), hq, Int.mul_comm]; exact h4
 ·rw [hl, triS_const (t := triZ z) (fun i hi => by rw [ha i hi]) _ (Nat.le_refl _), hq]
theorem dg_chk {n z : Int} {s : D} (hz : sizZ n z) (h : dgS n z s) : chk n (szD n z) s = (0, 0) ∧ goodS n s := by
 have hn := hz.n1
 obtain ⟨N, rfl⟩ : ∃ N : Nat, n = N := ⟨n.toNat, by omega⟩
 exact ⟨chk_zero (by omega) (by omega) (fun _ => (szD_fit hz).1.fit) h.len h.e1, hn, h.big, chk_zero (by omega) (by omega) (fun h0 => absurd h0 (Nat.lt_irrefl 0)) h.len h.e0⟩
theorem mx_le {l : D} (h : ∀ i, i < l.len → nAt l i ≤ 1) : ∀ x, x ≤ l.len → mxZ l x ≤ 1
 | 0, _ => by show (0 : Int) ≤ 1; decide
 | x + 1, hx => by
  show max (mxZ l x) (nAt l x) ≤ 1
  have h1 := mx_le h x (by omega)
  have h2 := h x (by omega)
  omega
theorem dg_mx {n z : Int} {s : D} (hz : sizZ n z) (h : dgS n z s) : mxZ (mtL n s) (mtL n s).len ≤ 1 :=
 mx_le (fun i hi => by
  have hmem : nthD (mtL n s).asList i ∈ (mtL n s).asList := nthD_mem hi
  obtain ⟨a, b, h1, h2, h3⟩ := (mt_mem (dg_chk hz h).2).1 hmem
  unfold nAt
  rw [h3]
  exact h.mt a b h1 h2) _ (Nat.le_refl _)
theorem me_ge {n z : Int} {L : Nat} (hz : sizZ n z) (hL : L ≤ 64) (h : (L : Int) * (n.tdiv z * triZ z) ≤ triZ n) : (L : Int) ≤ meZ n (szD n z) 1 := by
 obtain ⟨h1, h2⟩ := szD_fit hz
 by_cases h0 : triS (szD n z) (szD n z).len = 0
 ·unfold meZ
  rw [if_neg (fun h' => h'.elim (fun k => k h1) (by decide)), if_pos h0]; omega
 ·have hp : 0 ≤ n.tdiv z * triZ z := Int.mul_nonneg (by have := (size_le hz).2.1; omega) (triZ_nn hz.z1)
  rw [me_some h1 (by decide) h0, h2, show min (1 : Int) 64 = 1 from rfl, Int.one_mul, Int.tdiv_eq_ediv_of_nonneg (triZ_nn hz.n1.1)]
  rw [h2] at h0
  have := (Int.le_ediv_iff_mul_le (show 0 < n.tdiv z * triZ z by omega)).2 h
  omega
theorem stp {P : Prop} {s d : D} {e n z : Int} {i : Decidable (P ∧ hasE s e)} (h1 : P → hasE s e → dgS n z s) (h2 : d = .nil ∨ dgS n z d ∧ e ≤ (d.len : Nat)) : (if P ∧ hasE s e then s else d) = .nil ∨ dgS n z (if P ∧ hasE s e then s else d) ∧ e ≤ ((if P ∧ hasE s e then s else d).len : Nat) := by
 by_cases h : P ∧ hasE s e
 ·rw [if_pos h]; exact .inr ⟨h1 h.1 h.2, h.2.out⟩
 ·rw [if_neg h]; exact h2
theorem no_nil {e : Int} (h1 : 1 ≤ e) (h : hasE .nil e) : False := by
 have : e ≤ ((D.nil.len : Nat) : Int) := h.out
 have h0 : ((D.nil.len : Nat) : Int) = 0 := rfl
 omega
theorem des_ok {n z e : Int} (h : sizZ n z) (he : 1 ≤ e) : desD n z e = .nil ∨ dgS n z (desD n z e) ∧ e ≤ ((desD n z e).len : Nat) := by
 obtain ⟨h1, h2, h3, h4⟩ := size_le h
 have hn := h.n1
 have hz := h.z1
 refine stp (fun k _ => ?_) (stp (fun k _ => ?_) (stp (fun k _ => ?_) (stp (fun k _ => ?_) (stp (fun k q => ?_) ?_))))
 ·have k : z = n := k
  subst k
  obtain ⟨N, rfl⟩ : ∃ N : Nat, z = N := ⟨z.toNat, by omega⟩
  exact dg_row (by omega) (by omega)
 ·have k : z = 1 := k
  subst k
  obtain ⟨N, rfl⟩ : ∃ N : Nat, n = N := ⟨n.toNat, by omega⟩
  exact dg_al (by omega) (by omega)
 ·have k : z = 2 := k
  subst k
  obtain ⟨N, rfl⟩ : ∃ N : Nat, n = N := ⟨n.toNat, by omega⟩
  exact dg_pairs (by omega) (by omega) (by omega)
 ·obtain ⟨k1, k2⟩ : z = 3 ∧ n = 15 := k
  subst k1 k2
  exact dg_kk
 ·have k : z * z = n := k
  subst k
  unfold plR at q ⊢
  by_cases hp : plQ z
  ·rw [if_pos hp]
   obtain ⟨Q, hQ, rfl⟩ := hp.out
   rw [← Int.natCast_mul]
   exact dg_plane hQ
  ·rw [if_neg hp] at q
   exact (no_nil he q).elim
 ·unfold des6
  by_cases q : hasE (netR z (n.tdiv z)) e
  ·rw [if_pos q]
   refine .inr ⟨?_, q.out⟩
   by_cases hp : netQ z (n.tdiv z)
   ·have := dg_net hp
    rwa [h4] at this
   ·unfold netR at q
    rw [if_neg hp] at q
    exact (no_nil he q).elim
  ·rw [if_neg q]; exact .inl rfl
theorem nil_of {P : Prop} {s d : D} {e : Int} {i : Decidable (P ∧ hasE s e)} (hs : s ≠ .nil) (h : (if P ∧ hasE s e then s else d) = .nil) : ¬ (P ∧ hasE s e) ∧ d = .nil := by
 by_cases k : P ∧ hasE s e
 ·rw [if_pos k] at h; exact (hs h).elim
 ·rw [if_neg k] at h; exact ⟨k, h⟩
theorem des_no {n z e : Int} (h : sizZ n z) (he1 : 1 ≤ e) (he : e ≤ 64) (hm : e ≤ meZ n (szD n z) 1) (h0 : desD n z e = .nil) : 2 < z := by
 obtain ⟨_, k1⟩ := nil_of D.noConfusion h0
 obtain ⟨k2, k3⟩ := nil_of D.noConfusion k1
 obtain ⟨k4, _⟩ := nil_of D.noConfusion k3
 have hz := h.z1
 have hn := h.n1
 have z1 : z ≠ 1 := fun e1 => k2 ⟨e1, ⟨by rw [show (D.list (alL n.toNat 64)).len = 64 from alL_len _ _]; exact he⟩⟩
 have z2 : z ≠ 2 := fun e2 => k4 ⟨e2, ⟨?_⟩⟩
 ·omega
 ·subst e2
  obtain ⟨N, rfl⟩ : ∃ N : Nat, n = N := ⟨n.toNat, by omega⟩
  have hN : N % 2 = 0 := by have := (size_le h).2.2.2; omega
  have hl : (prsD (N : Int)).len = N - 1 := by
   show (p2S N (evM N) (evM N - 1)).length = _
   rw [show (p2S N (evM N) (evM N - 1)).length = evM N - 1 from p2S_len _ _ _]; unfold evM; omega
  rw [hl]
  obtain ⟨f1, f2⟩ := szD_fit h
  have hd : ((N : Nat) : Int).tdiv 2 = ((N / 2 : Nat) : Int) := by rw [Int.tdiv_eq_ediv_of_nonneg (by omega)]; rfl
  have ht : triS (szD (N : Int) 2) (szD (N : Int) 2).len = ((N / 2 : Nat) : Int) := by rw [f2, hd, show triZ 2 = 1 from rfl, Int.mul_one]
  have h2 : 2 ≤ N := by omega
  have e2 : N = 2 * (N / 2) := by omega
  have hT : triZ (N : Int) = ((N / 2 * (N - 1) : Nat) : Int) := triZ_nat (by rw [← Nat.mul_assoc, ← e2]) (by omega)
  rw [me_some f1 (by decide) (by rw [ht]; omega), ht, show min (1 : Int) 64 = 1 from rfl, Int.one_mul, hT, Int.natCast_mul, Int.mul_tdiv_cancel_left _ (by omega)] at hm
  omega
end Go.Ev

end

section
open Go.Proofs
namespace Go.Ev
set_option maxRecDepth 100000
set_option maxHeartbeats 4000000
def nA (a : Int) : Int := (1 : Int) + IntKind.i64.wrap (a.tmod (64 : Int))
def eC (c : Int) : Int := IntKind.i64.wrap (c.tmod (65 : Int))
def wN (a x : Int) : Int := IntKind.i64.wrap (Int.ofNat (1 : Nat) * IntKind.u64.wrap ((nA a).tdiv x))
def l0 (a x : Int) : List D := List.take (0 : Nat) (List.replicate (wN a x).toNat (D.int (0 : Int))) ++ List.take (min (1 : Nat) (wN a x).toNat) [D.int x] ++ List.drop ((0 : Nat) + min (1 : Nat) (wN a x).toNat) (List.replicate (wN
a x).toNat (D.int (0 : Int)))
def l1 (a x : Int) (x_1 : Nat) : List D := List.replicate x_1 (D.int x) ++ List.replicate ((l0 a x).length - x_1) (D.int (0 : Int))
def sR1 (a x : Int) (x_1 : Nat) : D := D.list (List.take (wN a x).toNat (l1 a x x_1))
theorem vc15 : ∀ (x y : Int), symFun (ctx cc0 noAnn) 4 (42 : FuncId) [V.int IntKind.u64 x, V.int IntKind.u64 y] (V.tup [V.int IntKind.u64 0, V.int IntKind.u64 (x * y)]) = (0 ≤ x ∧ (0 : Int) ≤ 4294967295 ∧ (0 ≤ x ∧ x <
18446744073709551616) ∧ ((0 : Int) ≤ 4294967295 ∧ (4294967295 : Int) < 18446744073709551616) ∧ (0 : Int) ≤ 32 ∧ 0 ≤ y ∧ (0 : Int) ≤ 4294967295 ∧ (0 ≤ y ∧ y < 18446744073709551616) ∧ ((0 : Int) ≤ 4294967295 ∧ (4294967295
: Int) < 18446744073709551616) ∧ (0 : Int) ≤ 32 ∧ (0 ≤ bitsN x 4294967295 * bitsN y 4294967295 ∧ bitsN x 4294967295 * bitsN y 4294967295 < 18446744073709551616) ∧ (0 ≤ shrZ IntKind.u64 x 32 * bitsN y 4294967295 ∧ shrZ
IntKind.u64 x 32 * bitsN y 4294967295 < 18446744073709551616) ∧ (0 : Int) ≤ 32 ∧ (0 ≤ shrZ IntKind.u64 x 32 * bitsN y 4294967295 + shrZ IntKind.u64 (bitsN x 4294967295 * bitsN y 4294967295) 32 ∧ shrZ IntKind.u64 x 32 *
bitsN y 4294967295 + shrZ IntKind.u64 (bitsN x 4294967295 * bitsN y 4294967295) 32 < 18446744073709551616) ∧ 0 ≤ shrZ IntKind.u64 x 32 * bitsN y 4294967295 + shrZ IntKind.u64 (bitsN x 4294967295 * bitsN y 4294967295) 32
∧ (0 : Int) ≤ 4294967295 ∧ (0 ≤ shrZ IntKind.u64 x 32 * bitsN y 4294967295 + shrZ IntKind.u64 (bitsN x 4294967295 * bitsN y 4294967295) 32 ∧ shrZ IntKind.u64 x 32 * bitsN y 4294967295 + shrZ IntKind.u64 (bitsN x
4294967295 * bitsN y 4294967295) 32 < 18446744073709551616) ∧ ((0 : Int) ≤ 4294967295 ∧ (4294967295 : Int) < 18446744073709551616) ∧ (0 : Int) ≤ 32 ∧ (0 ≤ bitsN x 4294967295 * shrZ IntKind.u64 y 32 ∧ bitsN x 4294967295 *
shrZ IntKind.u64 y 32 < 18446744073709551616) ∧ (0 ≤ bitsN (shrZ IntKind.u64 x 32 * bitsN y 4294967295 + shrZ IntKind.u64 (bitsN x 4294967295 * bitsN y 4294967295) 32) 4294967295 + bitsN x 4294967295 * shrZ IntKind.u64 y
32 ∧ bitsN (shrZ IntKind.u64 x 32 * bitsN y 4294967295 + shrZ IntKind.u64 (bitsN x 4294967295 * bitsN y 4294967295) 32) 4294967295 + bitsN x 4294967295 * shrZ IntKind.u64 y 32 < 18446744073709551616) ∧ (0 ≤ shrZ
IntKind.u64 x 32 * shrZ IntKind.u64 y 32 ∧ shrZ IntKind.u64 x 32 * shrZ IntKind.u64 y 32 < 18446744073709551616) ∧ (0 ≤ shrZ IntKind.u64 x 32 * shrZ IntKind.u64 y 32 + shrZ IntKind.u64 (shrZ IntKind.u64 x 32 * bitsN y
4294967295 + shrZ IntKind.u64 (bitsN x 4294967295 * bitsN y 4294967295) 32) 32 ∧ shrZ IntKind.u64 x 32 * shrZ IntKind.u64 y 32 + shrZ IntKind.u64 (shrZ IntKind.u64 x 32 * bitsN y 4294967295 + shrZ IntKind.u64 (bitsN x
4294967295 * bitsN y 4294967295) 32) 32 < 18446744073709551616) ∧ (0 : Int) ≤ 32 ∧ (0 ≤ shrZ IntKind.u64 x 32 * shrZ IntKind.u64 y 32 + shrZ IntKind.u64 (shrZ IntKind.u64 x 32 * bitsN y 4294967295 + shrZ IntKind.u64
(bitsN x 4294967295 * bitsN y 4294967295) 32) 32 + shrZ IntKind.u64 (bitsN (shrZ IntKind.u64 x 32 * bitsN y 4294967295 + shrZ IntKind.u64 (bitsN x 4294967295 * bitsN y 4294967295) 32) 4294967295 + bitsN x 4294967295 *
shrZ IntKind.u64 y 32) 32 ∧ shrZ IntKind.u64 x 32 * shrZ IntKind.u64 y 32 + shrZ IntKind.u64 (shrZ IntKind.u64 x 32 * bitsN y 4294967295 + shrZ IntKind.u64 (bitsN x 4294967295 * bitsN y 4294967295) 32) 32 + shrZ
IntKind.u64 (bitsN (shrZ IntKind.u64 x 32 * bitsN y 4294967295 + shrZ IntKind.u64 (bitsN x 4294967295 * bitsN y 4294967295) 32) 4294967295 + bitsN x 4294967295 * shrZ IntKind.u64 y 32) 32 < 18446744073709551616) ∧ (0 ≤ x
* y ∧ x * y < 18446744073709551616) ∧ shrZ IntKind.u64 x 32 * shrZ IntKind.u64 y 32 + shrZ IntKind.u64 (shrZ IntKind.u64 x 32 * bitsN y 4294967295 + shrZ IntKind.u64 (bitsN x 4294967295 * bitsN y 4294967295) 32) 32 +
shrZ IntKind.u64 (bitsN (shrZ IntKind.u64 x 32 * bitsN y 4294967295 + shrZ IntKind.u64 (bitsN x 4294967295 * bitsN y 4294967295) 32) 4294967295 + bitsN x 4294967295 * shrZ IntKind.u64 y 32) 32 = 0 ∧ x * y = x * y ∧ True) := by intros; kernel_rfl
theorem bits_lo {x : Int} (h0 : 0 ≤ x) (h1 : x < 4294967296) : bitsN x 4294967295 = x := by
 obtain ⟨n, rfl⟩ : ∃ n : Nat, x = n := ⟨x.toNat, by omega⟩
 unfold bitsN
 show ((n &&& 4294967295 : Nat) : Int) = n
 rw [show 4294967295 = 2 ^ 32 - 1 from rfl, Nat.and_two_pow_sub_one_eq_mod, Nat.mod_eq_of_lt (by omega)]
theorem shr_lo {x : Int} (h0 : 0 ≤ x) (h1 : x < 4294967296) : shrZ .u64 x 32 = 0 := by
 unfold shrZ
 rw [Int.fdiv_eq_ediv_of_nonneg _ (by decide), show (2 : Int) ^ (min (32 : Int).toNat IntKind.u64.bits) = 4294967296 from by decide]
 exact Int.ediv_eq_zero_of_lt h0 h1
theorem s15 (x y : Int) (hx0 : 0 ≤ x) (hx1 : x < 65536) (hy0 : 0 ≤ y) (hy1 : y < 65536) : symFun (ctx cc0 noAnn) 4 42 [.int .u64 x, .int .u64 y] (.tup [.int .u64 0, .int .u64 (x * y)]) := by
 rw [vc15]
 have p0 : 0 ≤ x * y := Int.mul_nonneg hx0 hy0
 have p1 : x * y < 4294967296 := by
  have h1 : x * y ≤ x * 65535 := Int.mul_le_mul_of_nonneg_left (by omega) hx0
  omega
 rw [bits_lo (x := x) hx0 (by omega), bits_lo (x := y) hy0 (by omega), shr_lo (x := x) hx0 (by omega), shr_lo (x := y) hy0 (by omega)]
 generalize x * y = P at p0 p1 ⊢
 simp only [Int.zero_mul, Int.mul_zero, Int.add_zero, Int.zero_add]
 rw [shr_lo p0 p1]
 have b0 : bitsN 0 4294967295 = 0 := bits_lo (by omega) (by omega)
 have z0 : shrZ .u64 0 32 = 0 := shr_lo (by omega) (by omega)
 simp only [Int.zero_mul, Int.mul_zero, Int.add_zero, Int.zero_add, b0, z0]
 repeat' apply And.intro
 all_goals first | omega | trivial
theorem rep_next {Q K x : Nat} (h1 : x < Q) : List.take x (List.replicate x (D.int (K : Int)) ++ List.replicate (Q - x) (D.int 0)) ++ List.take (min x (Q - x)) (List.drop (0 + 0) (List.replicate x (D.int (K : Int)) ++ List.replicate (Q - x) (D.int 0))) ++ List.drop (x + min x (Q - x)) (List.replicate x (D.int (K : Int)) ++ List.replicate (Q - x) (D.int 0)) =
  List.replicate (x + min x (Q - x)) (D.int (K : Int)) ++ List.replicate (Q - (x + min x (Q - x))) (D.int 0) := by
 have e1 : List.take x (List.replicate x (D.int (K : Int)) ++ List.replicate (Q - x) (D.int 0)) = List.replicate x (D.int (K : Int)) := by
  rw [List.take_append_of_le_length (by simp), List.take_of_length_le (by simp)]
 have e2 : List.take (min x (Q - x)) (List.drop (0 + 0) (List.replicate x (D.int (K : Int)) ++ List.replicate (Q - x) (D.int 0))) = List.replicate (min x (Q - x)) (D.int (K : Int)) := by
  show List.take _ (List.replicate x (D.int (K : Int)) ++ List.replicate (Q - x) (D.int 0)) = _
  rw [List.take_append_of_le_length (by simp; omega), List.take_replicate, Nat.min_eq_left (by omega)]
 have e3 : List.drop (x + min x (Q - x)) (List.replicate x (D.int (K : Int)) ++ List.replicate (Q - x) (D.int 0)) = List.replicate (Q - (x + min x (Q - x))) (D.int 0) := by
  rw [List.drop_append, List.length_replicate, List.drop_eq_nil_of_le (by simp), List.nil_append, List.drop_replicate]
  congr 1; omega
 rw [e1, e2, e3, List.replicate_append_replicate]
theorem vc5d : ∀ (a b c : Int), symFun (ctx dl1 dlAnn) 6 (5 : FuncId) [V.int IntKind.u8 a, V.int IntKind.u8 b, V.int IntKind.u8 c] (V.prop True) = (((64 : Int) = 0 → False) ∧ fits64 (nA a) ∧ ((65 : Int) = 0 → False) ∧
(nA a = 0 → False) ∧ fits64 (1 + (IntKind.i64.wrap b).tmod (nA a)) ∧ (∃ (x : Int), (1 ≤ x ∧ x ≤ nA a) ∧ (1 + (IntKind.i64.wrap b).tmod (nA a) = x ∧ True) ∧ True) ∧ ∀ (x : Int), 1 ≤ x ∧ x ≤ nA a → x.toNat < LIM ∧ (x = 0 →
False) ∧ (((nA a).tmod x = 0 → False) → fits64 (x - 1) ∧ ∃ (y : Int), (1 ≤ y ∧ y ≤ nA a) ∧ y.toNat < x.toNat ∧ (x - 1 = y ∧ True) ∧ True) ∧ ((((nA a).tmod x = 0 → False) → False) → (sizZ (nA a) x ∧ 0 ≤ eC c ∧ eC c ≤ 64)
∧ (x = 0 → False) ∧ fits64 ((nA a).tdiv x) ∧ ((nA a).tdiv x < 0 → False) ∧ (((nA a).tdiv x < 0 → False) → ((0 ≤ Int.ofNat 1 ∧ Int.ofNat 1 < 65536) ∧ 0 ≤ IntKind.u64.wrap ((nA a).tdiv x) ∧ IntKind.u64.wrap ((nA a).tdiv x)
< 65536) ∧ (((0 : Int) < 0 → False) → (9223372036854775807 < Int.ofNat 1 * IntKind.u64.wrap ((nA a).tdiv x) → False) ∧ ((9223372036854775807 < Int.ofNat 1 * IntKind.u64.wrap ((nA a).tdiv x) → False) → 0 ≤ wN a x ∧ wN a x
≤ wN a x ∧ wN a x ≤ 16777216 ∧ 8 * (wN a x).toNat ≤ 281474976710656 ∧ 0 + (wN a x).toNat ≤ (List.replicate (wN a x).toNat (D.int 0)).length ∧ 0 + 1 ≤ [D.int x].length ∧ 0 < (wN a x).toNat ∧ (0 : Nat) < 1 ∧ (∃ (x_1 :
Nat), (1 ≤ x_1 ∧ x_1 ≤ (l0 a x).length) ∧ ((↑(min 1 (wN a x).toNat) : Int) = (x_1 : Int) ∧ True) ∧ l0 a x = l1 a x x_1 ∧ True) ∧ ∀ (x_1 : Nat), 1 ≤ x_1 ∧ x_1 ≤ (l0 a x).length → (l0 a x).length - x_1 < LIM ∧ ((x_1 : Int)
< (↑(wN a x).toNat : Int) → 0 ≤ (x_1 : Int) ∧ (x_1 : Int) ≤ (↑(wN a x).toNat : Int) ∧ ((↑(wN a x).toNat : Int) - (↑(wN a x).toNat : Int)).NonNeg ∧ (0 : Int) ≤ 0 ∧ 0 ≤ (x_1 : Int) ∧ ((↑(wN a x).toNat : Int) - (x_1 :
Int)).NonNeg ∧ x_1 + ((wN a x).toNat - x_1) ≤ (l1 a x x_1).length ∧ 0 + 0 + x_1 ≤ (l1 a x x_1).length ∧ 0 < (wN a x).toNat - x_1 ∧ 0 < x_1 ∧ fits64 ((x_1 : Int) + (↑(min x_1 ((wN a x).toNat - x_1)) : Int)) ∧ ∃ (y : Nat),
(1 ≤ y ∧ y ≤ (l0 a x).length) ∧ (l0 a x).length - y < (l0 a x).length - x_1 ∧ ((x_1 : Int) + (↑(min x_1 ((wN a x).toNat - x_1)) : Int) = (y : Int) ∧ True) ∧ List.take x_1 (l1 a x x_1) ++ List.take (min x_1 ((wN a
x).toNat - x_1)) (List.drop (0 + 0) (l1 a x x_1)) ++ List.drop (x_1 + min x_1 ((wN a x).toNat - x_1)) (l1 a x x_1) = List.replicate y (D.int x) ++ List.replicate ((l0 a x).length - y) (D.int 0) ∧ True) ∧ (((x_1 : Int) <
(↑(wN a x).toNat : Int) → False) → 0 + (wN a x).toNat ≤ (l1 a x x_1).length ∧ (List.take (wN a x).toNat (l1 a x x_1)).length ≤ 16777216 ∧ (meZ (nA a) (sR1 a x x_1) 1 < eC c → (desX (nA a) x (eC c) = 91 → ((↑(desR (nA a)
x (eC c)).len : Int) = 0 → (true = true ↔ True)) ∧ (((↑(desR (nA a) x (eC c)).len : Int) = 0 → False) → (false = true ↔ True))) ∧ ((desX (nA a) x (eC c) = 91 → False) → (false = true ↔ True))) ∧ ((meZ (nA a) (sR1 a x
x_1) 1 < eC c → False) → ((desX (nA a) x (eC c) = 0 → False) → (desX (nA a) x (eC c) = 91 → ((↑(desR (nA a) x (eC c)).len : Int) = 0 → (0 < eC c → (1 < x → ((2 < x → False) → ((2 : Int) = 0 → False) ∧ ((nA a).tmod 2 = 1
→ (true = true ↔ True)) ∧ (((nA a).tmod 2 = 1 → False) → (false = true ↔ True))) ∧ (2 < x → (true = true ↔ True))) ∧ ((1 < x → False) → (false = true ↔ True))) ∧ ((0 < eC c → False) → (false = true ↔ True))) ∧ (((↑(desR
(nA a) x (eC c)).len : Int) = 0 → False) → (false = true ↔ True))) ∧ ((desX (nA a) x (eC c) = 91 → False) → (false = true ↔ True))) ∧ (((desX (nA a) x (eC c) = 0 → False) → False) → 0 + (wN a x).toNat ≤ (l1 a x
x_1).length ∧ ((List.take (wN a x).toNat (l1 a x x_1)).length ≤ 1000 ∧ bigP (desR (nA a) x (eC c))) ∧ ((chk (nA a) (sR1 a x x_1) (desR (nA a) x (eC c))).fst = 0 → ((chk (nA a) (sR1 a x x_1) (desR (nA a) x (eC c))).snd =
0 → ((↑(desR (nA a) x (eC c)).len : Int) = eC c → goodS (nA a) (desR (nA a) x (eC c)) ∧ (mxZ (mtL (nA a) (desR (nA a) x (eC c))) (mtL (nA a) (desR (nA a) x (eC c))).len ≤ 1 → (true = true ↔ True)) ∧ ((mxZ (mtL (nA a)
(desR (nA a) x (eC c))) (mtL (nA a) (desR (nA a) x (eC c))).len ≤ 1 → False) → (false = true ↔ True))) ∧ (((↑(desR (nA a) x (eC c)).len : Int) = eC c → False) → (false = true ↔ True))) ∧ (((chk (nA a) (sR1 a x x_1) (desR
(nA a) x (eC c))).snd = 0 → False) → (false = true ↔ True))) ∧ (((chk (nA a) (sR1 a x x_1) (desR (nA a) x (eC c))).fst = 0 → False) → (false = true ↔ True))))))) ∧ ((0 : Int) < 0 → False)))) := by intros; kernel_rfl
theorem des_end {n z e : Int} (h : sizZ n z) (he0 : 0 ≤ e) (he : e ≤ 64) : (desX n z e = 91 ∧ desR n z e = .nil ∧ 1 ≤ e ∧ (e ≤ meZ n (szD n z) 1 → 2 < z)) ∨ (desX n z e = 0 ∧ dgS n z (desR n z e) ∧ ((desR n z e).len : Int) = e) := by
 by_cases h0 : e = 0
 ·right
  unfold desX desR
  rw [if_pos h0, if_pos h0, h0]
  exact ⟨rfl, dg_nil h.n1.1, rfl⟩
 ·have he1 : 1 ≤ e := by omega
  unfold desX desR
  rw [if_neg h0, if_neg h0]
  rcases des_ok h he1 with hd | ⟨hd, hl⟩
  ·rw [if_pos hd, if_pos hd]
   exact .inl ⟨rfl, rfl, he1, fun hm => des_no h he1 he hm hd⟩
  ·have hn : desD n z e ≠ .nil := fun k => by
    rw [k] at hl
    have h1 : ((D.nil.len : Nat) : Int) = 0 := rfl
    omega
   rw [if_neg hn, if_neg hn]
   have hE : e.toNat ≤ (desD n z e).len := by omega
   exact .inr ⟨rfl, dg_sub h hd hE, by rw [subLen hE]; omega⟩
theorem wrapId {z : Int} (h0 : 0 ≤ z) (h1 : z < 1000) : IntKind.i64.wrap z = z := IntWalk.i64_in z ⟨by omega, by omega⟩
theorem s5d (a b c : Int) (ha0 : 0 ≤ a) (ha1 : a < 256) (hb0 : 0 ≤ b) (hb1 : b < 256) (hc0 : 0 ≤ c) (hc1 : c < 256) : symFun (ctx dl1 dlAnn) 6 5 [.int .u8 a, .int .u8 b, .int .u8 c] (.prop True) := by
 rw [vc5d]
 have hA : 1 ≤ nA a ∧ nA a ≤ 64 := by
  unfold nA
  rw [Int.tmod_eq_emod_of_nonneg ha0, wrapId (by omega) (by omega)]; omega
 have hC : 0 ≤ eC c ∧ eC c ≤ 64 := by
  unfold eC
  rw [Int.tmod_eq_emod_of_nonneg hc0, wrapId (by omega) (by omega)]; omega
 have hB : 0 ≤ b.tmod (nA a) ∧ b.tmod (nA a) < nA a := by
  rw [Int.tmod_eq_emod_of_nonneg hb0]
  exact ⟨Int.emod_nonneg _ (by omega), Int.emod_lt_of_pos _ (by omega)⟩
 rw [wrapId hb0 (by omega)]
 refine ⟨by decide, ⟨by omega, by omega⟩, by decide, fun k => by omega, ⟨by omega, by omega⟩, ⟨1 + b.tmod (nA a), ⟨by omega, by omega⟩, ⟨rfl, trivial⟩, trivial⟩, fun x ⟨hx1, hx2⟩ => ⟨limS (by omega), fun k => by omega, fun k => ⟨⟨by omega, by omega⟩, x - 1, ⟨?_, by omega⟩, by omega, ⟨rfl, trivial⟩, trivial⟩, fun k => ?_⟩⟩
 ·have : x ≠ 1 := fun e => k (by rw [e]; exact Int.tmod_one _)
  omega
 ·have hs : sizZ (nA a) x := ⟨hA, hx1, Classical.not_not.1 k⟩
  obtain ⟨z1, z2, z3, z4⟩ := size_le hs
  have hend := des_end hs hC.1 hC.2
  have hmeR := fun h : dgS (nA a) x (desR (nA a) x (eC c)) => me_ge hs h.len h.me
  obtain ⟨Q, hQ⟩ : ∃ Q : Nat, (nA a).tdiv x = Q := ⟨((nA a).tdiv x).toNat, by omega⟩
  obtain ⟨Z, rfl⟩ : ∃ Z : Nat, x = Z := ⟨x.toNat, by omega⟩
  have hQ1 : 1 ≤ Q ∧ Q ≤ 64 := by omega
  have hwu : IntKind.u64.wrap (Q : Int) = (Q : Int) := wrap_inR (k := .u64) ⟨by omega, by omega⟩
  have hone : Int.ofNat 1 * (Q : Int) = (Q : Int) := Int.one_mul _
  have eW : wN a (Z : Int) = (Q : Int) := by
   unfold wN
   rw [hQ, hwu, hone]
   exact wrapId (by omega) (by omega)
  have e0 : l0 a (Z : Int) = List.replicate 1 (D.int (Z : Int)) ++ List.replicate (Q - 1) (D.int 0) := by
   unfold l0
   rw [eW, Int.toNat_natCast, show min 1 Q = 1 by omega, List.drop_replicate]
   rfl
  have eL : (l0 a (Z : Int)).length = Q := by rw [e0]; simp; omega
  have e1 : ∀ y, l1 a (Z : Int) y = List.replicate y (D.int (Z : Int)) ++ List.replicate (Q - y) (D.int 0) := fun y => by unfold l1; rw [eL]
  have el1 : ∀ y, y ≤ Q → (l1 a (Z : Int) y).length = Q := fun y hy => by rw [e1]; simp; omega
  have eT : List.take Q (l1 a (Z : Int) Q) = List.replicate Q (D.int (Z : Int)) := by
   rw [e1, Nat.sub_self, List.replicate_zero, List.append_nil, List.take_of_length_le (by rw [List.length_replicate]; exact Nat.le_refl _)]
  have eS : sR1 a (Z : Int) Q = szD (nA a) (Z : Int) := by
   unfold sR1 szD
   rw [eW, hQ, Int.toNat_natCast, eT]
  rw [hQ, eW, hwu, hone, eL, Int.toNat_natCast]
  refine ⟨⟨hs, hC⟩, fun k => by omega, ⟨by omega, by omega⟩, fun k => by omega, fun _ => ⟨⟨⟨by decide, by decide⟩, by omega, by omega⟩, fun _ => ⟨fun k => by omega, fun _ => ⟨by omega, Int.le_refl _, by omega, by omega, by rw [List.length_replicate]; omega, Nat.le_refl _, by omega, by decide, ⟨1, ⟨Nat.le_refl _, by omega⟩, ⟨by omega, trivial⟩, by rw [e0, e1], trivial⟩, fun y ⟨hy1, hy2⟩ => ⟨limS (by omega), fun hlt => ?_, fun hge => ?_⟩⟩⟩, fun k => absurd k (by decide)⟩⟩
  ·have hyQ : y < Q := by omega
   refine ⟨by omega, by omega, by show (Q : Int) ≤ (Q : Int); omega, Int.le_refl _, by omega, by show (y : Int) ≤ (Q : Int); omega, by rw [el1 y hy2]; omega, by rw [el1 y hy2]; omega, by omega, by omega, ⟨by omega, by omega⟩, y + min y (Q - y), ⟨by omega, by omega⟩, by omega, ⟨by omega, trivial⟩, ?_, trivial⟩
   rw [e1]
   exact rep_next hyQ
  ·have hge := not_of hge
   have ey : y = Q := by omega
   subst ey
   rw [eS, eT]
   refine ⟨by rw [el1 y hy2]; omega, by rw [List.length_replicate]; omega, fun hlt => ?_, fun hge => ⟨fun hx => ?_, fun hx => ?_⟩⟩
   ·rcases hend with ⟨x1, x2, x3, _⟩ | ⟨x1, x2, x3⟩
    ·rw [x1, x2]
     exact ⟨fun _ => ⟨fun _ => tt, fun k => (k rfl).elim⟩, fun k => (k rfl).elim⟩
    ·have := hmeR x2
     omega
   ·rcases hend with ⟨x1, x2, x3, x4⟩ | ⟨x1, x2, x3⟩
    ·have hz := x4 (Int.not_lt.1 (not_of hge))
     rw [x1, x2]
     exact ⟨fun _ => ⟨fun _ => ⟨fun _ => ⟨fun _ => ⟨fun k => (k hz).elim, fun _ => tt⟩, fun k => (k (by omega)).elim⟩, fun k => (k (by omega)).elim⟩, fun k => (k rfl).elim⟩, fun k => (k rfl).elim⟩
    ·exact (hx x1).elim
   ·rcases hend with ⟨x1, x2, x3, x4⟩ | ⟨x1, x2, x3⟩
    ·exact (hx fun k => by rw [x1] at k; exact absurd k (by decide)).elim
    ·obtain ⟨c1, c2⟩ := dg_chk hs x2
     rw [c1]
     exact ⟨by rw [el1 y hy2]; omega, ⟨by rw [List.length_replicate]; omega, x2.big⟩, fun _ => ⟨fun _ => ⟨fun _ => ⟨c2, fun _ => tt, fun k => (k (dg_mx hs x2)).elim⟩, fun k => (k x3).elim⟩, fun k => (k rfl).elim⟩, fun k => (k rfl).elim⟩
end Go.Ev

end
