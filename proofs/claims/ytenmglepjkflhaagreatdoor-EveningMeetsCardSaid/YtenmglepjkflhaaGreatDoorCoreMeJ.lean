/-
  Part of the engine that the claim is proved with: it states nothing of the document by itself.
-/
import Derived.Test.YtenmglepjkflhaaGreatDoorCoreMeJd
open Go.Proofs
namespace Go.Ev
set_option maxRecDepth 100000
set_option maxHeartbeats 4000000
theorem me14 : ∀ (n : Int) (s : D), symFun (ctx vv1 noAnn) (3 : Nat) (14 : FuncId) [V.int IntKind.i64 n, V.dat (22 : TypeId) s] (V.prop ((chk n D.nil s).snd = (0 : Int))) = (((0 : Nat) ≤ (1000 : Nat)
∧ bigP s) ∧ ((chk n D.nil s).snd = (0 : Int) ↔ (chk n D.nil s).snd = (0 : Int))) := by intros; kernel_rfl
theorem me5 : ∀ (n : Int) (s : D) (a b : Int), symFun (ctx ms1 noAnn) (3 : Nat) (5 : FuncId) [V.int IntKind.i64 n, V.dat (22 : TypeId) s, V.int IntKind.i64 a, V.int IntKind.i64 b] (V.prop True) =
(bigP s ∧ bigP (cpS s) ∧ bigP (cpS s) ∧ bigP (cpS s) ∧ bigP (cpS s) ∧ bigP (cpS s) ∧ bigP (cpS s) ∧ bigP s ∧ (((chk n D.nil s).snd = (0 : Int) → False) → ((-9223372036854775808 : Int) ≤ (↑(meA n (cpS
s)).len : Int) + (↑(beA n (cpS s)).len : Int) ∧ (↑(meA n (cpS s)).len : Int) + (↑(beA n (cpS s)).len : Int) < (9223372036854775808 : Int)) ∧ ((-9223372036854775808 : Int) ≤ (↑(meA n (cpS s)).len :
Int) + (↑(beA n (cpS s)).len : Int) + (↑(toA n (cpS s) a b).len : Int) ∧ (↑(meA n (cpS s)).len : Int) + (↑(beA n (cpS s)).len : Int) + (↑(toA n (cpS s) a b).len : Int) < (9223372036854775808 : Int)) ∧
((-9223372036854775808 : Int) ≤ (↑(meA n (cpS s)).len : Int) + (↑(beA n (cpS s)).len : Int) + (↑(toA n (cpS s) a b).len : Int) + mxA n (cpS s) ∧ (↑(meA n (cpS s)).len : Int) + (↑(beA n (cpS s)).len :
Int) + (↑(toA n (cpS s) a b).len : Int) + mxA n (cpS s) < (9223372036854775808 : Int)) ∧ ((-9223372036854775808 : Int) ≤ (↑(meA n (cpS s)).len : Int) + (↑(beA n (cpS s)).len : Int) + (↑(toA n (cpS s)
a b).len : Int) + mxA n (cpS s) + lsA n (cpS s) ∧ (↑(meA n (cpS s)).len : Int) + (↑(beA n (cpS s)).len : Int) + (↑(toA n (cpS s) a b).len : Int) + mxA n (cpS s) + lsA n (cpS s) < (9223372036854775808
: Int)) ∧ ((-9223372036854775808 : Int) ≤ (↑(meA n (cpS s)).len : Int) + (↑(beA n (cpS s)).len : Int) + (↑(toA n (cpS s) a b).len : Int) + mxA n (cpS s) + lsA n (cpS s) + stA n (cpS s) ∧ (↑(meA n (cpS
s)).len : Int) + (↑(beA n (cpS s)).len : Int) + (↑(toA n (cpS s) a b).len : Int) + mxA n (cpS s) + lsA n (cpS s) + stA n (cpS s) < (9223372036854775808 : Int)) ∧ ((↑(meA n (cpS s)).len : Int) + (↑(beA
n (cpS s)).len : Int) + (↑(toA n (cpS s) a b).len : Int) + mxA n (cpS s) + lsA n (cpS s) + stA n (cpS s) = (0 : Int) → bigP (cpS s) ∧ (eqS3 (cpS s) s ↔ True)) ∧ (((↑(meA n (cpS s)).len : Int) + (↑(beA
n (cpS s)).len : Int) + (↑(toA n (cpS s) a b).len : Int) + mxA n (cpS s) + lsA n (cpS s) + stA n (cpS s) = (0 : Int) → False) → (false = true ↔ True))) ∧ ((((chk n D.nil s).snd = (0 : Int) → False) →
False) → (bigP s ∧ (1 : Int) ≤ n ∧ n ≤ (64 : Int)) ∧ ((a = b → False) → bigP s ∧ smE (meA n (cpS s)) ∧ (eqNN (meA n (cpS s)) (D.list (rmL s n.toNat n.toNat)) → (bigP s ∧ (1 : Int) ≤ n ∧ n ≤ (64 :
Int)) ∧ smE (beA n (cpS s)) ∧ (eqNN (beA n (cpS s)) (D.list (rbL s n.toNat n.toNat)) → (toA n (cpS s) a b).len ≤ (16777216 : Nat) ∧ (eqN (toA n (cpS s) a b) (listD (rtS s a b s.len)) → sqM (D.list
(rmL s n.toNat n.toNat)) ∧ (mxA n (cpS s) = moS (D.list (rmL s n.toNat n.toNat)) (rmL s n.toNat n.toNat).length → sqM (D.list (rmL s n.toNat n.toNat)) ∧ (lsA n (cpS s) = leS (D.list (rmL s n.toNat
n.toNat)) (moS (D.list (rmL s n.toNat n.toNat)) (rmL s n.toNat n.toNat).length) (rmL s n.toNat n.toNat).length → sqM (D.list (rmL s n.toNat n.toNat)) ∧ (stA n (cpS s) = stS (D.list (rmL s n.toNat
n.toNat)) (rmL s n.toNat n.toNat).length → bigP (cpS s) ∧ (eqS3 (cpS s) s ↔ True)) ∧ ((stA n (cpS s) = stS (D.list (rmL s n.toNat n.toNat)) (rmL s n.toNat n.toNat).length → False) → (false = true ↔
True))) ∧ ((lsA n (cpS s) = leS (D.list (rmL s n.toNat n.toNat)) (moS (D.list (rmL s n.toNat n.toNat)) (rmL s n.toNat n.toNat).length) (rmL s n.toNat n.toNat).length → False) → (false = true ↔ True)))
∧ ((mxA n (cpS s) = moS (D.list (rmL s n.toNat n.toNat)) (rmL s n.toNat n.toNat).length → False) → (false = true ↔ True))) ∧ ((eqN (toA n (cpS s) a b) (listD (rtS s a b s.len)) → False) → (false =
true ↔ True))) ∧ ((eqNN (beA n (cpS s)) (D.list (rbL s n.toNat n.toNat)) → False) → (false = true ↔ True))) ∧ ((eqNN (meA n (cpS s)) (D.list (rmL s n.toNat n.toNat)) → False) → (false = true ↔ True)))
∧ (((a = b → False) → False) → smE (meA n (cpS s)) ∧ (eqNN (meA n (cpS s)) (D.list (rmL s n.toNat n.toNat)) → (bigP s ∧ (1 : Int) ≤ n ∧ n ≤ (64 : Int)) ∧ smE (beA n (cpS s)) ∧ (eqNN (beA n (cpS s))
(D.list (rbL s n.toNat n.toNat)) → (toA n (cpS s) a b).len ≤ (16777216 : Nat) ∧ (eqN (toA n (cpS s) a b) D.nil → sqM (D.list (rmL s n.toNat n.toNat)) ∧ (mxA n (cpS s) = moS (D.list (rmL s n.toNat
n.toNat)) (rmL s n.toNat n.toNat).length → sqM (D.list (rmL s n.toNat n.toNat)) ∧ (lsA n (cpS s) = leS (D.list (rmL s n.toNat n.toNat)) (moS (D.list (rmL s n.toNat n.toNat)) (rmL s n.toNat
n.toNat).length) (rmL s n.toNat n.toNat).length → sqM (D.list (rmL s n.toNat n.toNat)) ∧ (stA n (cpS s) = stS (D.list (rmL s n.toNat n.toNat)) (rmL s n.toNat n.toNat).length → bigP (cpS s) ∧ (eqS3
(cpS s) s ↔ True)) ∧ ((stA n (cpS s) = stS (D.list (rmL s n.toNat n.toNat)) (rmL s n.toNat n.toNat).length → False) → (false = true ↔ True))) ∧ ((lsA n (cpS s) = leS (D.list (rmL s n.toNat n.toNat))
(moS (D.list (rmL s n.toNat n.toNat)) (rmL s n.toNat n.toNat).length) (rmL s n.toNat n.toNat).length → False) → (false = true ↔ True))) ∧ ((mxA n (cpS s) = moS (D.list (rmL s n.toNat n.toNat)) (rmL s
n.toNat n.toNat).length → False) → (false = true ↔ True))) ∧ ((eqN (toA n (cpS s) a b) D.nil → False) → (false = true ↔ True))) ∧ ((eqNN (beA n (cpS s)) (D.list (rbL s n.toNat n.toNat)) → False) →
(false = true ↔ True))) ∧ ((eqNN (meA n (cpS s)) (D.list (rmL s n.toNat n.toNat)) → False) → (false = true ↔ True))))) := by intros; kernel_rfl
theorem me3 : ∀ (n : Int) (s : D) (a b : Int), symFun (ctx ms2 noAnn) (3 : Nat) (3 : FuncId) [V.int IntKind.i64 n, V.dat (22 : TypeId) s, V.int IntKind.i64 a, V.int IntKind.i64 b] (V.prop True) =
((((0 : Int) ≤ (100 : Int) ∧ (100 : Int) ≤ (100000 : Int)) ∧ lensP s) ∧ (((fewP s (100 : Int) → False) → False) → bigP s ∧ (True → (true = true ↔ True)) ∧ ((True → False) → (false = true ↔ True))) ∧
((fewP s (100 : Int) → False) → (true = true ↔ True))) := by intros; kernel_rfl
theorem eqN_rfl (a : D) : eqN a a := ⟨⟨rfl, fun _ _ => rfl⟩⟩
theorem eqNN_rfl (a : D) : eqNN a a := ⟨⟨rfl, fun _ _ => eqN_rfl _⟩⟩
theorem s14v (n : Int) (s : D) (hb : bigP s) : symFun (ctx vv1 noAnn) 3 14 [.int .i64 n, .dat 22 s] (.prop ((chk n .nil s).2 = 0)) := by
 rw [me14]; exact ⟨⟨by decide, hb⟩, Iff.rfl⟩
theorem s5e (n : Int) (s : D) (a b : Int) (hb : bigP s) : symFun (ctx ms1 noAnn) 3 5 [.int .i64 n, .dat 22 s, .int .i64 a, .int .i64 b] (.prop True) := by
 rw [me5]
 have hc := cpS_big hb
 have fin : eqS3 (cpS s) s ↔ True := ⟨fun _ => trivial, fun _ => cpS_same s⟩
 refine ⟨hb, hc, hc, hc, hc, hc, hc, hb, fun hv => ?_, fun hv => ?_⟩
 ·have hn : ¬ goodS n (cpS s) := fun h => hv (by rw [((good_cp hb).1 h).chk])
  rw [show meA n (cpS s) = .nil from if_neg hn, show beA n (cpS s) = .nil from if_neg hn, show toA n (cpS s) a b = .nil from if_neg hn, show mxA n (cpS s) = 0 from if_neg hn, show lsA n (cpS s) = 0 from if_neg hn, show stA n (cpS s) = 0 from if_neg hn]
  have z : ((D.nil.len : Nat) : Int) = 0 := rfl
  rw [z]
  exact ⟨⟨by decide, by decide⟩, ⟨by decide, by decide⟩, ⟨by decide, by decide⟩, ⟨by decide, by decide⟩, ⟨by decide, by decide⟩, fun _ => ⟨hc, fin⟩, fun k => (k rfl).elim⟩
 ·have hg := good_of hb (Classical.not_not.1 hv)
  have hgc := (good_cp hb).2 hg
  have hn := hg.n1
  have hlim := good_lim hg
  have e1 : meA n (cpS s) = .list (rmL s n.toNat n.toNat) := by unfold meA; rw [if_pos hgc, pq_cp hg, rm_pq hg]
  have e2 : beA n (cpS s) = .list (rbL s n.toNat n.toNat) := by unfold beA; rw [if_pos hgc, ad_cp hg]
  have e3 : toA n (cpS s) a b = if a = b then .nil else listD (rtS s a b s.len) := by unfold toA; rw [if_pos hgc, tog_cp hg]
  have e4 : mxA n (cpS s) = moS (.list (rmL s n.toNat n.toNat)) n.toNat := by unfold mxA; rw [if_pos hgc, mtL_cp hg, rm_mo hg]
  have e5 : lsA n (cpS s) = leS (.list (rmL s n.toNat n.toNat)) (moS (.list (rmL s n.toNat n.toNat)) n.toNat) n.toNat := by unfold lsA; rw [if_pos hgc, mtL_cp hg, rm_le hg]
  have e6 : stA n (cpS s) = stS (.list (rmL s n.toNat n.toNat)) n.toNat := by unfold stA; rw [if_pos hgc, mtL_cp hg, rm_st hg]
  have hq := rm_sqM hg
  have hl : (D.list (rmL s n.toNat n.toNat)).len = n.toNat := rmL_len s _ _
  have sm1 : smE (.list (rmL s n.toNat n.toNat)) := ⟨by have := hq.len; omega, fun i hi => by rw [hq.row i hi]; have := hq.len; omega⟩
  have hl2 : (D.list (rbL s n.toNat n.toNat)).len = n.toNat := rbL_len s _ _
  have sm2 : smE (.list (rbL s n.toNat n.toNat)) := ⟨by omega, fun i hi => by
   rw [hl2] at hi
   rw [rb_sq hg, show el (.list (sqD n.toNat (nbS s s.len))) i = .list (rowF n.toNat (nbS s s.len) i) from sqD_at _ hi]
   show (rowF n.toNat (nbS s s.len) i).length ≤ 1000
   rw [rowF_len]; omega⟩
  rw [e1, e2, e4, e5, e6, rmL_len]
  refine ⟨⟨hb, hn⟩, fun hab => ⟨hb, sm1, fun _ => ⟨⟨hb, hn⟩, sm2, fun _ => ⟨?_, fun _ => ⟨hq, fun _ => ⟨hq, fun _ => ⟨hq, fun _ => ⟨hc, fin⟩, fun k => (k rfl).elim⟩, fun k => (k rfl).elim⟩, fun k => (k rfl).elim⟩, fun k => (k ?_).elim⟩, fun k => (k (eqNN_rfl _)).elim⟩, fun k => (k (eqNN_rfl _)).elim⟩, fun hab => ⟨sm1, fun _ => ⟨⟨hb, hn⟩, sm2, fun _ => ⟨?_, fun _ => ⟨hq, fun _ => ⟨hq, fun _ => ⟨hq, fun _ => ⟨hc, fin⟩, fun k => (k rfl).elim⟩, fun k => (k rfl).elim⟩, fun k => (k rfl).elim⟩, fun k => (k ?_).elim⟩, fun k => (k (eqNN_rfl _)).elim⟩, fun k => (k (eqNN_rfl _)).elim⟩⟩
  ·rw [e3, if_neg hab, listD_len]
   have := rtS_len hb a b s.len (Nat.le_refl _)
   omega
  ·rw [e3, if_neg hab]; exact eqN_rfl _
  ·rw [e3, if_pos (Classical.not_not.1 hab)]; exact Nat.zero_le _
  ·rw [e3, if_pos (Classical.not_not.1 hab)]; exact eqN_rfl _
theorem s3e (n : Int) (s : D) (a b : Int) (hs : lensP s) : symFun (ctx ms2 noAnn) 3 3 [.int .i64 n, .dat 22 s, .int .i64 a, .int .i64 b] (.prop True) := by
 rw [me3]
 exact ⟨⟨⟨by decide, by decide⟩, hs⟩, fun k => ⟨few_big (m := 100) (by decide) (Classical.not_not.1 k), fun _ => ⟨fun _ => trivial, fun _ => rfl⟩, fun k => (k trivial).elim⟩, fun _ => ⟨fun _ => trivial, fun _ => rfl⟩⟩
end Go.Ev
