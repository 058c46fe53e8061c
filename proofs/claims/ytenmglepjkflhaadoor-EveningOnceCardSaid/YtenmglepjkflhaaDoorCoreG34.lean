/-
  Part of the engine that the claim is proved with: it states nothing of the document by itself.
-/
import Derived.Test.YtenmglepjkflhaaDoorCoreOnN
import Derived.Test.YtenmglepjkflhaaDoorCoreG31
import Derived.Test.YtenmglepjkflhaaDoorCoreG32
import Derived.Test.YtenmglepjkflhaaDoorCoreG33

section
namespace Go.Ev
theorem cnt_map : ∀ (l : List Nat) (x : Nat), cntF (l.map fun v => D.int (v : Nat)) (x : Int) = (l.count x : Nat)
 | [], _ => rfl
 | a :: l, x => by
  have ih := cnt_map l x
  show cntF (l.map fun v => D.int (v : Nat)) (x : Int) + (if (a : Int) = (x : Int) then 1 else 0) = _
  rw [ih, List.count_cons]
  by_cases e : a = x
  ·subst e; simp
  ·rw [if_neg (by omega), if_neg (by simpa using e)]; rfl
def pvF (n m e j : Nat) : List Nat := (if n < m then [e] else [m - 1, e]) ++ (List.range j).flatMap fun k => [p2A m e (k + 1), p2B m e (k + 1)]
theorem rob_flat (n m e : Nat) : ∀ j, j ≤ m / 2 - 1 → flatL (.list (p2E n m e)) (j + 1) = (pvF n m e j).map fun v => D.int (v : Nat)
 | 0, _ => by
  show [] ++ (p2F n m e).asList = _
  unfold pvF p2F
  by_cases h : n < m
  ·rw [if_pos h, if_pos h]; rfl
  ·rw [if_neg h, if_neg h]; rfl
 | j + 1, hj => by
  show flatL _ (j + 1) ++ (el (.list (p2E n m e)) (j + 1)).asList = _
  rw [rob_flat n m e j (by omega), p2E_at (show j < m / 2 - 1 by omega)]
  unfold pvF
  rw [List.range_succ, List.flatMap_append, ← List.append_assoc]
  simp only [List.map_append]
  rfl
theorem rob_cnt {n m e v : Nat} (h : robP m) (hnm : n = m ∨ n + 1 = m) (he : e < m - 1) (hv : v < n) : (pvF n m e (m / 2 - 1)).count v = 1 := by
 have h1 : (pvE m e).count v = 1 := by rw [List.Nodup.count (h.evN e he), if_pos ((h.evM e v he).2 (by omega))]
 unfold pvF
 rcases hnm with rfl | hnm
 ·rw [if_neg (by omega)]; exact h1
 ·rw [if_pos (by omega)]
  unfold pvE at h1
  rw [List.count_cons_of_ne (by omega)] at h1
  exact h1
theorem rob_rng {n m e v : Nat} (h : robP m) (hnm : n = m ∨ n + 1 = m) (he : e < m - 1) (hv : v ∈ pvF n m e (m / 2 - 1)) : v < n := by
 unfold pvF at hv
 rcases hnm with rfl | hnm
 ·rw [if_neg (by omega)] at hv; exact (h.evM e v he).1 hv
 ·rw [if_pos (by omega)] at hv
  have hm : v ∈ pvE m e := by unfold pvE; exact List.mem_cons_of_mem _ hv
  have hlt := (h.evM e v he).1 hm
  have hne : v ≠ m - 1 := fun e1 => by
   have hn := (List.nodup_cons.1 (show ((m - 1) :: (e :: (List.range (m / 2 - 1)).flatMap fun k => [p2A m e (k + 1), p2B m e (k + 1)])).Nodup from h.evN e he)).1
   rw [e1] at hv
   exact hn hv
  omega
theorem rob_errG {n m e : Nat} (h : robP m) (hnm : n = m ∨ n + 1 = m) (he : e < m - 1) : errG (n : Int) ((pvF n m e (m / 2 - 1)).map fun v => D.int (v : Nat)) = 0 := by
 have hno : ¬ outP (n : Int) ((pvF n m e (m / 2 - 1)).map fun v => D.int (v : Nat)) := fun ⟨d, hd, hb⟩ => by
  obtain ⟨v, hv, rfl⟩ := List.mem_map.1 hd
  have := rob_rng h hnm he hv
  apply hb
  show 0 ≤ ((v : Nat) : Int) ∧ ((v : Nat) : Int) < _
  omega
 have hone : ∀ x : Int, (0 ≤ x ∧ x < (n : Int)) → cntF ((pvF n m e (m / 2 - 1)).map fun v => D.int (v : Nat)) x = 1 := fun x hx => by
  obtain ⟨v, rfl⟩ : ∃ v : Nat, x = (v : Int) := ⟨x.toNat, by omega⟩
  rw [cnt_map, rob_cnt h hnm he (by omega)]
  rfl
 unfold errG
 rw [if_neg hno, if_neg (fun ⟨x, hx, h1⟩ => by rw [hone x hx] at h1; omega), if_neg (fun ⟨x, hx, h1⟩ => by rw [hone x hx] at h1; omega)]
structure szR (n m : Nat) (sz : D) : Prop where
 out : 0 < sz.len → sz.len = m / 2 ∧ ∀ i, i < m / 2 → nAt sz i = if i = 0 ∧ n < m then 1 else 2
theorem rob_errE {n m e : Nat} {sz : D} (h : robP m) (h2 : 2 ≤ m) (hnm : n = m ∨ n + 1 = m) (he : e < m - 1) (hm0 : m % 2 = 0) (hs : szR n m sz) : errE (n : Int) sz (.list (p2E n m e)) = 0 := by
 have hl : (D.list (p2E n m e)).len = m / 2 - 1 + 1 := by rw [p2E_len, Nat.add_comm]
 have htl : ∀ j, j < m / 2 → (el (.list (p2E n m e)) j).len = if j = 0 ∧ n < m then 1 else 2 := fun j hj => by
  cases j with
  | zero =>
   rw [p2E_zero]
   unfold p2F
   by_cases hn : n < m
   ·rw [if_pos hn, if_pos ⟨rfl, hn⟩]; rfl
   ·rw [if_neg hn, if_neg (fun q => hn q.2)]; rfl
  | succ k => rw [p2E_at (show k < m / 2 - 1 by omega), if_neg (by omega)]; rfl
 unfold errE
 rw [if_neg ?_, hl, rob_flat n m e _ (Nat.le_refl _)]
 ·exact rob_errG h hnm he
 ·rintro (⟨j, hj, he0⟩ | ⟨h0, hn⟩)
  ·rw [hl] at hj; rw [htl j (by omega)] at he0; split at he0 <;> omega
  ·obtain ⟨h1, h3⟩ := hs.out h0
   refine hn ⟨by rw [hl, h1]; omega, fun j hj => ?_⟩
   rw [hl] at hj
   rw [htl j (by omega), h3 j (by omega)]
   split <;> rfl
theorem scan_zero {n : Int} {sz s : D} : ∀ f i, (∀ k, i ≤ k → k < i + f → errE n sz (el s k) = 0) → scanK n sz s f i = (0, 0)
 | 0, i, _ => rfl
 | f + 1, i, h => by
  unfold scanK
  rw [if_neg (fun hne => hne (h i (Nat.le_refl _) (by omega)))]
  exact scan_zero f (i + 1) fun k h1 h2 => h k (by omega) (by omega)
theorem rob_sum {n m : Nat} {sz : D} (hnm : n = m ∨ n + 1 = m) (h : ∀ i, i < m / 2 → nAt sz i = if i = 0 ∧ n < m then 1 else 2) : ∀ j, j + 1 ≤ m / 2 → sumZ sz (j + 1) = 2 * (j : Int) + (if n < m then 1 else 2)
 | 0, hj => by
  show 0 + nAt sz 0 = _
  rw [h 0 (by omega)]
  by_cases hn : n < m
  ·rw [if_pos ⟨rfl, hn⟩, if_pos hn]; rfl
  ·rw [if_neg (fun q => hn q.2), if_neg hn]; rfl
 | j + 1, hj => by
  show sumZ sz (j + 1) + nAt sz (j + 1) = _
  rw [rob_sum hnm h j (by omega), h (j + 1) (by omega), if_neg (show ¬ (j + 1 = 0 ∧ n < m) by omega)]
  split <;> omega
theorem rob_chk {n : Nat} {sz : D} (h2 : 2 ≤ n) (h64 : n ≤ 64) (hs : szR n (evM n) sz) : chk (n : Int) sz (.list (p2S n (evM n) (evM n - 1))) = (0, 0) := by
 have hm : evM n % 2 = 0 ∧ 2 ≤ evM n ∧ evM n ≤ 64 ∧ (n = evM n ∨ n + 1 = evM n) := by unfold evM; omega
 have h := rob_ok hm.2.1 hm.2.2.1 hm.1
 have hl : (D.list (p2S n (evM n) (evM n - 1))).len = evM n - 1 := by
  show (p2S n (evM n) (evM n - 1)).length = _
  unfold p2S; rw [List.length_map, List.length_range]
 unfold chk
 rw [if_neg ?_, if_neg (by omega), hl]
 ·refine scan_zero _ 0 fun e _ he => ?_
  rw [p2S_at (show e < evM n - 1 by omega)]
  exact rob_errE h hm.2.1 hm.2.2.2 (by omega) hm.1 hs
 ·rintro (h1 | ⟨h1, h3⟩)
  ·exact h1 ⟨by omega, by omega⟩
  ·obtain ⟨q1, q2⟩ := hs.out h1
   refine h3 ⟨fun i hi => by rw [q2 i (by omega)]; split <;> omega, ?_⟩
   obtain ⟨j, hj⟩ : ∃ j, evM n / 2 = j + 1 := ⟨evM n / 2 - 1, by omega⟩
   rw [q1, hj, rob_sum hm.2.2.2 q2 j (by omega)]
   split <;> omega
end Go.Ev

end

section
open Go.Proofs
namespace Go.Ev
def szL (s : D) (x : Nat) : List D := (List.range x).map fun i => .int ((el (el s 0) i).len : Nat)
structure onceP (n : Int) (s : D) : Prop where
 out : (∃ N : Nat, 2 ≤ N ∧ N ≤ 64 ∧ n = N ∧ s = .list (p2S N (evM N) (evM N - 1))) ∨ (∃ q : Nat, q ∈ plL ∧ n = (q * q : Nat) ∧ s = .list (plS q)) ∨ (n = 15 ∧ s = .list (kkS 7))
noncomputable def con4o : Con := fun | [.int .u8 a, .int .u8 b] => some ((0 ≤ a ∧ a < 256) ∧ 0 ≤ b ∧ b < 256, .prop True) | _ => none
noncomputable def onAnn : FuncId → Nat → Option Ann
 | 4, 17 => some { hs := 2, τ := Nat, slots := fun S i x => match i with | 0 => [(54, .int .i64 x), (9, .val (.slice none 0 0))] | _ => [(54, .int .i64 x), (9, .slc (Nat.add S.nx 300) (.lit 0) (.sym x) none)],
                   blks := fun S i x => match i with | 0 => [] | _ => [(Nat.add S.nx 300, .arr 3 (szL (slD S 7) x))], inv := fun S i x => match i with | 0 => x = 0 | _ => 0 < x ∧ x ≤ (slD S 52).len, meas := fun S _ x => (slD S 52).len - x }
 | _, _ => none
noncomputable def onJoin : FuncId → Nat → Option Ann
 | 4, 13 => some { τ := Int × D, slots := fun _ _ x => [(5, .int .i64 x.1), (6, .int .i64 0), (7, .dat 24 x.2)], blks := fun _ _ _ => [], inv := fun _ _ x => onceP x.1 x.2, meas := fun _ _ _ => 0 }
 | _, _ => none
noncomputable def on1 : FuncId → Option Con
 | 16 => some con19
 | 17 => some con17p
 | 18 => some con18k
 | 7 => some con5
 | 8 => some con8m
 | 12 => some con12m
 | 14 => some con14m
 | 9 => some con15b
 | 10 => some (extP con17b)
 | _ => none
end Go.Ev

end

section
open Go.Proofs
namespace Go.Ev
set_option maxRecDepth 100000
set_option maxHeartbeats 4000000
theorem flat_net (q k a : Nat) : ∀ n, n ≤ q → flatL (.list (netE q k a q)) n = (evV q k a n).map fun v => D.int (v : Nat)
 | 0, _ => rfl
 | n + 1, h => by
  show flatL _ n ++ (el (.list (netE q k a q)) n).asList = _
  rw [flat_net q k a n (by omega), netE_at q k a (show n < q by omega)]
  unfold evV
  rw [List.range_succ, List.flatMap_append, List.map_append]
  congr 1
  simp only [List.flatMap_cons, List.flatMap_nil, List.append_nil, List.map_map]
  rfl
theorem net_errG {q k a : Nat} (h : netP q k) (ha : a < q) : errG ((k * q : Nat) : Int) (flatL (.list (netE q k a q)) q) = 0 := by
 rw [flat_net q k a q (Nat.le_refl _)]
 have hno : ¬ outP ((k * q : Nat) : Int) ((evV q k a q).map fun v => D.int (v : Nat)) := fun ⟨d, hd, hb⟩ => by
  obtain ⟨v, hv, rfl⟩ := List.mem_map.1 hd
  have := (h.evM a v ha).1 hv
  apply hb
  show 0 ≤ ((v : Nat) : Int) ∧ ((v : Nat) : Int) < _
  omega
 have hone : ∀ x : Int, (0 ≤ x ∧ x < ((k * q : Nat) : Int)) → cntF ((evV q k a q).map fun v => D.int (v : Nat)) x = 1 := fun x hx => by
  obtain ⟨v, rfl⟩ : ∃ v : Nat, x = (v : Int) := ⟨x.toNat, by omega⟩
  rw [cnt_map, List.Nodup.count (h.evN a ha), if_pos ((h.evM a v ha).2 (by omega))]
  rfl
 unfold errG
 rw [if_neg hno, if_neg (fun ⟨x, hx, h1⟩ => by rw [hone x hx] at h1; omega), if_neg (fun ⟨x, hx, h1⟩ => by rw [hone x hx] at h1; omega)]
structure szP (q k : Nat) (sz : D) : Prop where
 out : 0 < sz.len → sz.len = q ∧ ∀ i, i < q → nAt sz i = (k : Int)
theorem net_errE {q k a : Nat} {sz : D} (h : netP q k) (ha : a < q) (hs : szP q k sz) : errE ((k * q : Nat) : Int) sz (.list (netE q k a q)) = 0 := by
 have hl : (D.list (netE q k a q)).len = q := netE_len _ _ _ _
 have htl : ∀ j, j < q → (el (.list (netE q k a q)) j).len = k := fun j hj => by rw [netE_at q k a hj]; exact netT_len _ _ _ _
 unfold errE
 rw [if_neg ?_, hl]
 ·exact net_errG h ha
 ·rintro (⟨j, hj, he⟩ | ⟨h0, hn⟩)
  ·rw [hl] at hj; rw [htl j hj] at he; have := h.pos; omega
  ·obtain ⟨h1, h2⟩ := hs.out h0
   exact hn ⟨by rw [hl, h1], fun j hj => by rw [hl] at hj; rw [htl j hj, h2 j hj]⟩
theorem errE_zero {n : Nat} {sz ev : D} {v : List Nat} (he : ∀ j, j < ev.len → (el ev j).len ≠ 0) (hs : 0 < sz.len → sameSz ev sz) (hf : flatL ev ev.len = v.map fun x => D.int (x : Nat)) (hv : insB v 0 = some (2 ^ n - 1)) : errE (n : Int) sz ev = 0 := by
 obtain ⟨r1, r2, _⟩ := insB_ok hv
 have hmem : ∀ x, x ∈ v ↔ x < n := fun x => by
  have r3 := r1 x
  rw [Nat.testBit_two_pow_sub_one] at r3
  simp only [decide_eq_true_eq, Nat.zero_testBit, Bool.false_eq_true, false_or] at r3
  exact r3.symm
 have hno : ¬ outP (n : Int) (v.map fun x => D.int (x : Nat)) := fun ⟨d, hd, hb⟩ => by
  obtain ⟨x, hx, rfl⟩ := List.mem_map.1 hd
  have := (hmem x).1 hx
  apply hb
  show 0 ≤ ((x : Nat) : Int) ∧ ((x : Nat) : Int) < _
  omega
 have hone : ∀ x : Int, (0 ≤ x ∧ x < (n : Int)) → cntF (v.map fun x => D.int (x : Nat)) x = 1 := fun x hx => by
  obtain ⟨y, rfl⟩ : ∃ y : Nat, x = (y : Int) := ⟨x.toNat, by omega⟩
  rw [cnt_map, List.Nodup.count r2, if_pos ((hmem y).2 (by omega))]
  rfl
 unfold errE
 rw [if_neg ?_, hf]
 ·unfold errG
  rw [if_neg hno, if_neg (fun ⟨x, hx, h1⟩ => by rw [hone x hx] at h1; omega), if_neg (fun ⟨x, hx, h1⟩ => by rw [hone x hx] at h1; omega)]
 ·rintro (⟨j, hj, h0⟩ | ⟨h0, hn⟩)
  ·exact he j hj h0
  ·exact hn (hs h0)
theorem chk_zero {n : Nat} {sz s : D} (h1 : 1 ≤ n) (h64 : n ≤ 64) (hz : 0 < sz.len → fitP n sz) (hl : s.len ≤ 64) (h : ∀ i, i < s.len → errE (n : Int) sz (el s i) = 0) : chk (n : Int) sz s = (0, 0) := by
 unfold chk
 rw [if_neg ?_, if_neg (by omega)]
 ·exact scan_zero s.len 0 fun k _ hk => h k (by omega)
 ·rintro (h2 | ⟨h2, h3⟩)
  ·exact h2 ⟨by omega, by omega⟩
  ·exact h3 (hz h2)
theorem szL_at (s : D) {x i : Nat} (h : i < x) : nAt (.list (szL s x)) i = ((el (el s 0) i).len : Nat) := by
 unfold szL nAt nthD
 show ((((List.range x).map fun i => D.int ((el (el s 0) i).len : Nat))[i]?).getD .nil).asInt = _
 rw [List.getElem?_map, List.getElem?_range h]; rfl
theorem szL_len (s : D) (x : Nat) : (D.list (szL s x)).len = x := by
 show (szL s x).length = x
 unfold szL; rw [List.length_map, List.length_range]
structure oneS (n : Nat) (s : D) : Prop where
 n2 : 2 ≤ n ∧ n ≤ 64
 big : bigP s
 len : 1 ≤ s.len ∧ s.len ≤ 63
 el0 : 1 ≤ (el s 0).len ∧ (el s 0).len ≤ 64
 chk0 : chk (n : Int) .nil s = (0, 0)
 chk1 : chk (n : Int) (.list (szL s (el s 0).len)) s = (0, 0)
 one : ∀ a b, b < a → a < n → mtS s s.len a b = 1
 ok : okS (n : Int) (.list (szL s (el s 0).len))
 tri : (s.len : Int) * triS (.list (szL s (el s 0).len)) (el s 0).len = triZ n ∧ 1 ≤ triS (.list (szL s (el s 0).len)) (el s 0).len
theorem triZ_nat {n k : Nat} (h : n * (n - 1) = 2 * k) (h1 : 1 ≤ n) : triZ (n : Int) = (k : Int) := by
 unfold triZ
 rw [show (n : Int) * ((n : Int) - 1) = ((n * (n - 1) : Nat) : Int) by rw [Int.natCast_mul, Int.natCast_sub h1]; rfl, h, Int.natCast_mul]
 exact Int.mul_tdiv_cancel_left _ (by decide)
theorem triS_const {sz : D} {q : Nat} {t : Int} (h : ∀ i, i < q → triZ (nAt sz i) = t) : ∀ j, j ≤ q → triS sz j = (j : Int) * t
 | 0, _ => by simp [triS]
 | j + 1, hj => by
  show triS sz j + triZ (nAt sz j) = _
  rw [triS_const h j (by omega), h j (by omega), Int.natCast_add, Int.add_mul]; simp
theorem sumZ_const {sz : D} {q : Nat} {t : Int} (h : ∀ i, i < q → nAt sz i = t) : ∀ j, j ≤ q → sumZ sz j = (j : Int) * t
 | 0, _ => by simp [sumZ]
 | j + 1, hj => by
  show sumZ sz j + nAt sz j = _
  rw [sumZ_const h j (by omega), h j (by omega), Int.natCast_add, Int.add_mul]; simp
theorem rob_one {n : Nat} (h2 : 2 ≤ n) (h64 : n ≤ 64) : oneS n (.list (p2S n (evM n) (evM n - 1))) := by
 have hm : evM n % 2 = 0 ∧ 2 ≤ evM n ∧ evM n ≤ 64 ∧ (n = evM n ∨ n + 1 = evM n) := by unfold evM; omega
 have hL : (D.list (p2S n (evM n) (evM n - 1))).len = evM n - 1 := p2S_len _ _ _
 have hE : ∀ i, i < evM n - 1 → el (.list (p2S n (evM n) (evM n - 1))) i = .list (p2E n (evM n) i) := fun i hi => p2S_at hi
 have hEl : ∀ i, (D.list (p2E n (evM n) i)).len = evM n / 2 := fun i => by rw [p2E_len]; omega
 have hT : ∀ i j, j < evM n / 2 → (el (.list (p2E n (evM n) i)) j).len = if j = 0 ∧ n < evM n then 1 else 2 := fun i j hj => by
  cases j with
  | zero =>
   rw [p2E_zero]
   unfold p2F
   by_cases hn : n < evM n
   ·rw [if_pos hn, if_pos ⟨rfl, hn⟩]; rfl
   ·rw [if_neg hn, if_neg (fun q => hn q.2)]; rfl
  | succ k => rw [p2E_at (show k < evM n / 2 - 1 by omega), if_neg (by omega)]; rfl
 have h0 : el (.list (p2S n (evM n) (evM n - 1))) 0 = .list (p2E n (evM n) 0) := hE 0 (by omega)
 have hsz : ∀ i, i < evM n / 2 → nAt (.list (szL (.list (p2S n (evM n) (evM n - 1))) (evM n / 2))) i = if i = 0 ∧ n < evM n then 1 else 2 := fun i hi => by
  rw [szL_at _ hi, h0, hT 0 i hi]; split <;> rfl
 have hszR : szR n (evM n) (.list (szL (.list (p2S n (evM n) (evM n - 1))) (evM n / 2))) := ⟨fun _ => ⟨szL_len _ _, hsz⟩⟩
 have hsum := rob_sum hm.2.2.2 hsz
 have htri : ∀ j, j + 1 ≤ evM n / 2 → triS (.list (szL (.list (p2S n (evM n) (evM n - 1))) (evM n / 2))) (j + 1) = (j : Int) + (if n < evM n then 0 else 1) := by
  intro j
  induction j with
  | zero =>
   intro hj
   show 0 + triZ (nAt _ 0) = _
   rw [hsz 0 (by omega)]
   by_cases hn : n < evM n
   ·rw [if_pos ⟨rfl, hn⟩, if_pos hn]; rfl
   ·rw [if_neg (fun q => hn q.2), if_neg hn]; rfl
  | succ j ih =>
   intro hj
   show triS _ (j + 1) + triZ (nAt _ (j + 1)) = _
   rw [ih (by omega), hsz (j + 1) (by omega), if_neg (show ¬ (j + 1 = 0 ∧ n < evM n) by omega), show triZ 2 = 1 from rfl]
   split <;> omega
 obtain ⟨k, hk⟩ : ∃ k, evM n / 2 = k + 1 := ⟨evM n / 2 - 1, by omega⟩
 refine ⟨⟨h2, h64⟩, ⟨by rw [hL]; omega, fun i hi => ?_⟩, by rw [hL]; omega, by rw [h0, hEl]; omega, rob_chk h2 h64 ⟨fun h => absurd h (Nat.lt_irrefl 0)⟩, ?_, fun a b hb ha => ?_, ?_, ?_⟩
 ·rw [hL] at hi
  rw [hE i hi]
  refine ⟨by rw [hEl]; omega, fun j hj => ?_⟩
  rw [hEl] at hj
  rw [hT i j hj]
  split <;> omega
 ·rw [h0, hEl]; exact rob_chk h2 h64 hszR
 ·rw [hL, rob_meet h2 h64 (by omega) (by omega), if_neg (by omega)]
 ·rw [h0, hEl]
  refine ⟨by omega, by omega, ⟨fun i hi => ?_, ?_⟩⟩
  ·rw [szL_len] at hi; rw [hsz i hi]; split <;> omega
  ·rw [szL_len]
   have := hsum k (by omega)
   rw [← hk] at this
   rw [this]
   split <;> omega
 ·rw [h0, hEl, hL]
  have ht := htri k (by omega)
  rw [← hk] at ht
  rw [ht]
  rcases hm.2.2.2 with he | he
  ·rw [if_neg (by omega)]
   refine ⟨?_, by omega⟩
   rw [triZ_nat (k := (evM n - 1) * (k + 1)) (by
    rw [← Nat.mul_assoc, Nat.mul_comm 2, Nat.mul_assoc, ← hk, show 2 * (evM n / 2) = n by omega, ← he, Nat.mul_comm]) (by omega), Int.natCast_mul]
   rfl
  ·rw [if_pos (by omega)]
   have hn3 : n ≠ 2 := by omega
   refine ⟨?_, by omega⟩
   rw [triZ_nat (k := (evM n - 1) * k) (by
    rw [← Nat.mul_assoc, Nat.mul_comm 2, Nat.mul_assoc, show 2 * k = n - 1 by omega, show evM n - 1 = n by omega]) (by omega), Int.natCast_mul, Int.add_zero]
theorem plane_last (q : Nat) : el (.list (plS q)) q = .list (rwE q q) := by
 unfold el nthD plS
 show (((netS q q q ++ [D.list (rwE q q)])[q]?).getD .nil) = _
 rw [List.getElem?_append_right (by rw [netS_len]; exact Nat.le_refl _), netS_len, Nat.sub_self]; rfl
theorem plane_at (q : Nat) {i : Nat} (h : i < q) : el (.list (plS q)) i = .list (netE q q i q) := by
 unfold plS
 rw [el_app (by rw [netS_len]; exact h), netS_at q q h]
theorem row_flat {q : Nat} (h : q ∈ plL) : flatL (.list (rwE q q)) q = (List.range (q * q)).map fun x => D.int (x : Nat) := by
 unfold plL at h
 simp only [List.mem_cons, List.not_mem_nil, or_false] at h
 rcases h with rfl | rfl | rfl | rfl | rfl | rfl <;> rfl
theorem row_ins {q : Nat} (h : q ∈ plL) : insB (List.range (q * q)) 0 = some (2 ^ (q * q) - 1) := by
 unfold plL at h
 simp only [List.mem_cons, List.not_mem_nil, or_false] at h
 rcases h with rfl | rfl | rfl | rfl | rfl | rfl <;> decide +kernel
theorem plane_num {q : Nat} (h : q ∈ plL) : ((q + 1 : Nat) : Int) * ((q : Int) * triZ q) = triZ ((q * q : Nat) : Int) ∧ 1 ≤ (q : Int) * triZ q := by
 unfold plL at h
 simp only [List.mem_cons, List.not_mem_nil, or_false] at h
 rcases h with rfl | rfl | rfl | rfl | rfl | rfl <;> decide
theorem plane_one {q : Nat} (h : q ∈ plL) : oneS (q * q) (.list (plS q)) := by
 obtain ⟨hQ, h2, h8, h64, hM⟩ := pl_rng h
 have hn := net_ok hQ (show 0 < q by omega) hM
 have h4 : 4 ≤ q * q := Nat.mul_le_mul h2 h2
 have hL : (D.list (plS q)).len = q + 1 := by
  show (netS q q q ++ [D.list (rwE q q)]).length = _
  rw [List.length_append, netS_len]; rfl
 have hNl : ∀ i, (D.list (netE q q i q)).len = q := fun i => netE_len _ _ _ _
 have hRl : (D.list (rwE q q)).len = q := rwE_len _ _
 have hT : ∀ i j, j < q → (el (.list (netE q q i q)) j).len = q := fun i j hj => by rw [netE_at q q i hj]; exact netT_len _ _ _ _
 have hR : ∀ j, j < q → (el (.list (rwE q q)) j).len = q := fun j hj => by rw [rwE_at q hj]; exact rwT_len _ _ _
 have h0 := plane_at q (show 0 < q by omega)
 have hsz : ∀ i, i < q → nAt (.list (szL (.list (plS q)) q)) i = (q : Int) := fun i hi => by rw [szL_at _ hi, h0, hT 0 i hi]
 have hchk : ∀ sz, szP q q sz → chk ((q * q : Nat) : Int) sz (.list (plS q)) = (0, 0) := fun sz hs => by
  refine chk_zero (by omega) h64 (fun hz => ?_) (by rw [hL]; omega) fun i hi => ?_
  ·obtain ⟨z1, z2⟩ := hs.out hz
   refine ⟨fun i hi => by rw [z2 i (by omega)]; omega, ?_⟩
   rw [z1, sumZ_const z2 q (Nat.le_refl _), Int.natCast_mul]
  ·rw [hL] at hi
   by_cases hiq : i < q
   ·rw [plane_at q hiq]; exact net_errE hn hiq hs
   ·have : i = q := by omega
    subst this
    rw [plane_last]
    refine errE_zero (v := List.range (i * i)) (fun j hj => ?_) (fun hz => ?_) ?_ (row_ins h)
    ·rw [hRl] at hj; rw [hR j hj]; omega
    ·obtain ⟨z1, z2⟩ := hs.out hz
     exact ⟨by rw [hRl, z1], fun j hj => by rw [hRl] at hj; rw [hR j hj, z2 j hj]⟩
    ·rw [hRl]; exact row_flat h
 refine ⟨⟨by omega, h64⟩, ⟨by rw [hL]; omega, fun i hi => ?_⟩, by rw [hL]; omega, by rw [h0, hNl]; omega, hchk _ ⟨fun hz => absurd hz (Nat.lt_irrefl 0)⟩, ?_, fun a b hb ha => ?_, ?_, ?_⟩
 ·rw [hL] at hi
  by_cases hiq : i < q
  ·rw [plane_at q hiq]
   exact ⟨by rw [hNl]; omega, fun j hj => by rw [hNl] at hj; rw [hT i j hj]; omega⟩
  ·have : i = q := by omega
   subst this
   rw [plane_last]
   exact ⟨by rw [hRl]; omega, fun j hj => by rw [hRl] at hj; rw [hR j hj]; omega⟩
 ·rw [h0, hNl]
  exact hchk _ ⟨fun _ => ⟨szL_len _ _, hsz⟩⟩
 ·rw [hL, plane_meet h (by omega) (by omega), if_neg (by omega)]
 ·rw [h0, hNl]
  refine ⟨by omega, by omega, ⟨fun i hi => ?_, ?_⟩⟩
  ·rw [szL_len] at hi; rw [hsz i hi]; omega
  ·rw [szL_len, sumZ_const hsz q (Nat.le_refl _), Int.natCast_mul]
 ·rw [h0, hNl, hL, triS_const (t := triZ q) (fun i hi => by rw [hsz i hi]) q (Nat.le_refl _)]
  exact plane_num h
def kvE (j : Nat) : List Nat := kkF.flatten.map fun g => kkG g j
theorem kk_ins : ∀ j, j < 7 → insB (kvE j) 0 = some (2 ^ 15 - 1) := by decide +kernel
theorem kk_flat (j : Nat) : flatL (.list (kkE j 5)) 5 = (kvE j).map fun x => D.int (x : Nat) := rfl
theorem kk_meet : ∀ a, a < 15 → ∀ b, b < a → mtS (.list (kkS 7)) 7 a b = 1 := by decide +kernel
theorem kk_len3 (j : Nat) : ∀ i, i < 5 → (el (.list (kkE j 5)) i).len = 3
 | 0, _ => rfl
 | 1, _ => rfl
 | 2, _ => rfl
 | 3, _ => rfl
 | 4, _ => rfl
 | i + 5, h => absurd h (by omega)
theorem kkS_at {i : Nat} (h : i < 7) : el (.list (kkS 7)) i = .list (kkE i 5) := by
 unfold kkS el nthD
 show (((List.range 7).map fun j => D.list (kkE j 5))[i]?).getD .nil = _
 rw [List.getElem?_map, List.getElem?_range h]; rfl
theorem kk_one : oneS 15 (.list (kkS 7)) := by
 have hL : (D.list (kkS 7)).len = 7 := kkS_len 7
 have hEl : ∀ j, (D.list (kkE j 5)).len = 5 := fun j => kkE_len j 5 (Nat.le_refl _)
 have h0 := kkS_at (i := 0) (by decide)
 have hsz : ∀ i, i < 5 → nAt (.list (szL (.list (kkS 7)) 5)) i = 3 := fun i hi => by rw [szL_at _ hi, h0, kk_len3 0 i hi]; rfl
 have hchk : ∀ sz : D, (0 < sz.len → sz.len = 5 ∧ ∀ i, i < 5 → nAt sz i = 3) → chk ((15 : Nat) : Int) sz (.list (kkS 7)) = (0, 0) := fun sz hs => by
  refine chk_zero (by decide) (by decide) (fun hz => ?_) (by rw [hL]; decide) fun i hi => ?_
  ·obtain ⟨z1, z2⟩ := hs hz
   refine ⟨fun i hi => by rw [z2 i (by omega)]; decide, ?_⟩
   rw [z1, sumZ_const z2 5 (Nat.le_refl _)]; rfl
  ·rw [hL] at hi
   rw [kkS_at hi]
   refine errE_zero (v := kvE i) (fun j hj => ?_) (fun hz => ?_) (by rw [hEl]; exact kk_flat i) (kk_ins i hi)
   ·rw [hEl] at hj; rw [kk_len3 i j hj]; decide
   ·obtain ⟨z1, z2⟩ := hs hz
    exact ⟨by rw [hEl, z1], fun j hj => by rw [hEl] at hj; rw [kk_len3 i j hj, z2 j hj]; rfl⟩
 refine ⟨⟨by decide, by decide⟩, ⟨by rw [hL]; decide, fun i hi => ?_⟩, by rw [hL]; decide, by rw [h0, hEl]; decide, hchk _ (fun hz => absurd hz (Nat.lt_irrefl 0)), ?_, fun a b hb ha => ?_, ?_, ?_⟩
 ·rw [hL] at hi
  rw [kkS_at hi]
  exact ⟨by rw [hEl]; decide, fun j hj => by rw [hEl] at hj; rw [kk_len3 i j hj]; decide⟩
 ·rw [h0, hEl]; exact hchk _ (fun _ => ⟨szL_len _ _, hsz⟩)
 ·rw [hL]; exact kk_meet a ha b hb
 ·rw [h0, hEl]
  refine ⟨by decide, by decide, ⟨fun i hi => ?_, ?_⟩⟩
  ·rw [szL_len] at hi; rw [hsz i hi]; decide
  ·rw [szL_len, sumZ_const hsz 5 (Nat.le_refl _)]; rfl
 ·rw [h0, hEl, hL, triS_const (t := 3) (fun i hi => by rw [hsz i hi]; rfl) 5 (Nat.le_refl _)]
  decide
theorem once_one {n : Int} {s : D} (h : onceP n s) : ∃ N : Nat, n = N ∧ oneS N s := by
 rcases h.out with ⟨N, h2, h64, rfl, rfl⟩ | ⟨q, hq, rfl, rfl⟩ | ⟨rfl, rfl⟩
 ·exact ⟨N, rfl, rob_one h2 h64⟩
 ·exact ⟨q * q, rfl, plane_one hq⟩
 ·exact ⟨15, rfl, kk_one⟩
theorem one_good {n : Nat} {s : D} (h : oneS n s) : goodS (n : Int) s := ⟨by have := h.n2; omega, h.big, h.chk0⟩
theorem one_all {n : Nat} {s : D} (h : oneS n s) : ∀ i, i < (mtL n s).len → nAt (mtL n s) i = 1 := fun i hi => by
 have hmem : nthD (mtL n s).asList i ∈ (mtL n s).asList := nthD_mem hi
 obtain ⟨a, b, h1, h2, h3⟩ := (mt_mem (one_good h)).1 hmem
 unfold nAt
 rw [h3, h.one a b h1 h2]; rfl
theorem one_len {n : Nat} {s : D} (h : oneS n s) : triZ (n : Int) = ((mtL n s).len : Nat) ∧ 1 ≤ (mtL n s).len := by
 have hl := mt_len n s
 rw [Int.toNat_natCast] at hl
 have hn := h.n2
 have : 2 * 1 ≤ n * (n - 1) := Nat.mul_le_mul hn.1 (by omega)
 exact ⟨triZ_nat hl.symm (by omega), by omega⟩
theorem mx_one {l : D} (h : ∀ i, i < l.len → nAt l i = 1) : ∀ x, 1 ≤ x → x ≤ l.len → mxZ l x = 1
 | 1, _, hx => by show max 0 (nAt l 0) = 1; rw [h 0 (by omega)]; rfl
 | x + 2, _, hx => by show max (mxZ l (x + 1)) (nAt l (x + 1)) = 1; rw [mx_one h (x + 1) (by omega) (by omega), h (x + 1) (by omega)]; rfl
theorem mn_one {l : D} (h : ∀ i, i < l.len → nAt l i = 1) : ∀ x, x < l.len → mnZ l x = 1
 | 0, hx => h 0 hx
 | x + 1, hx => by show min (mnZ l x) (nAt l (x + 1)) = 1; rw [mn_one h x (by omega), h (x + 1) hx]; rfl
theorem sq_one {l : D} (h : ∀ i, i < l.len → nAt l i = 1) : ∀ x, x ≤ l.len → sqSum l x = (x : Nat)
 | 0, _ => rfl
 | x + 1, hx => by show sqSum l x + nAt l x * nAt l x = _; rw [sq_one h x (by omega), h x (by omega)]; rfl
theorem one_mx {n : Nat} {s : D} (h : oneS n s) : mxZ (mtL n s) (mtL n s).len = 1 := mx_one (one_all h) _ (one_len h).2 (Nat.le_refl _)
theorem one_mn {n : Nat} {s : D} (h : oneS n s) : leastZ (mtL n s) = 1 := by
 have := (one_len h).2
 unfold leastZ
 rw [if_neg (by omega)]
 exact mn_one (one_all h) _ (by omega)
theorem one_sq {n : Nat} {s : D} (h : oneS n s) : sqSum (mtL n s) (mtL n s).len = triZ n := by rw [sq_one (one_all h) _ (Nat.le_refl _), (one_len h).1]
theorem one_me {n : Nat} {s : D} (h : oneS n s) : meZ n (.list (szL s (el s 0).len)) 1 = (s.len : Nat) := by
 obtain ⟨t1, t2⟩ := h.tri
 have hl := h.len
 rw [me_some h.ok (by decide) (by rw [szL_len]; omega), szL_len, show min (1 : Int) 64 = 1 from rfl, Int.one_mul, ← t1, Int.mul_tdiv_cancel _ (by omega)]
 omega
theorem one_lm {n : Nat} {s : D} (h : oneS n s) : lmZ n (.list (szL s (el s 0).len)) (s.len : Nat) = 1 := by
 obtain ⟨t1, t2⟩ := h.tri
 have hl := h.len
 rw [lm_some h.ok (by omega) (by rw [szL_len]; omega), szL_len, show min ((s.len : Nat) : Int) 64 = (s.len : Nat) by omega, t1]
 have hA : 1 ≤ triZ (n : Int) := by rw [← t1]; have := Int.mul_le_mul (show (1 : Int) ≤ (s.len : Nat) by omega) t2 (by omega) (by omega); omega
 exact (ceil_eq (by omega) (by omega) (by omega) (.inr (by omega))).symm
theorem one_lm2 {n : Nat} {s : D} (h : oneS n s) : lmZ n (.list (szL s (el s 0).len)) ((s.len : Nat) + 1) = 2 := by
 obtain ⟨t1, t2⟩ := h.tri
 have hl := h.len
 rw [lm_some h.ok (by omega) (by rw [szL_len]; omega), szL_len, show min (((s.len : Nat) : Int) + 1) 64 = (s.len : Nat) + 1 by omega, Int.add_mul, t1, Int.one_mul]
 have hA : triS (.list (szL s (el s 0).len)) (el s 0).len ≤ triZ (n : Int) := by
  rw [← t1]
  have := Int.mul_le_mul (show (1 : Int) ≤ (s.len : Nat) by omega) (Int.le_refl (triS (.list (szL s (el s 0).len)) (el s 0).len)) (by omega) (by omega)
  omega
 exact (ceil_eq (by omega) (by omega) (by omega) (.inr (by omega))).symm
end Go.Ev

end

section
open Go.Proofs
namespace Go.Ev
set_option maxRecDepth 100000
set_option maxHeartbeats 4000000
theorem vc4o : ∀ (a b : Int), symFun (ctxj on1 onAnn onJoin) 5 (4 : FuncId) [V.int IntKind.u8 a, V.int IntKind.u8 b] (V.prop True) = ((((3 : Int) = 0 → False) ∧ (a.tmod 3 = 0 → ((63 : Int) = 0 → False) ∧ fits64 (2 +
IntKind.i64.wrap (b.tmod 63)) ∧ (2 ≤ 2 + IntKind.i64.wrap (b.tmod 63) ∧ 2 + IntKind.i64.wrap (b.tmod 63) ≤ 64) ∧ ∃ (x : Int × D), onceP x.fst x.snd ∧ (2 + IntKind.i64.wrap (b.tmod 63) = x.fst ∧ (0 : Int) = 0 ∧ D.list
(p2S (2 + IntKind.i64.wrap (b.tmod 63)).toNat (evM (2 + IntKind.i64.wrap (b.tmod 63)).toNat) (evM (2 + IntKind.i64.wrap (b.tmod 63)).toNat - 1)) = x.snd ∧ True) ∧ True) ∧ ((a.tmod 3 = 0 → False) → (a.tmod 3 = 1 → ((6 :
Int) = 0 → False) ∧ 0 ≤ b.tmod 6 ∧ b.tmod 6 < (↑(6 : Nat) : Int) ∧ (b.tmod 6).toNat < [D.int 2, D.int 3, D.int 4, D.int 5, D.int 7, D.int 8].length ∧ fits64 ((nthD [D.int 2, D.int 3, D.int 4, D.int 5, D.int 7, D.int 8]
(b.tmod 6).toNat).asInt * (nthD [D.int 2, D.int 3, D.int 4, D.int 5, D.int 7, D.int 8] (b.tmod 6).toNat).asInt) ∧ plQ (nthD [D.int 2, D.int 3, D.int 4, D.int 5, D.int 7, D.int 8] (b.tmod 6).toNat).asInt ∧ ∃ (x : Int ×
D), onceP x.fst x.snd ∧ ((nthD [D.int 2, D.int 3, D.int 4, D.int 5, D.int 7, D.int 8] (b.tmod 6).toNat).asInt * (nthD [D.int 2, D.int 3, D.int 4, D.int 5, D.int 7, D.int 8] (b.tmod 6).toNat).asInt = x.fst ∧ (0 : Int) = 0
∧ D.list (plS (nthD [D.int 2, D.int 3, D.int 4, D.int 5, D.int 7, D.int 8] (b.tmod 6).toNat).asInt.toNat) = x.snd ∧ True) ∧ True) ∧ ((a.tmod 3 = 1 → False) → True ∧ ∃ (x : Int × D), onceP x.fst x.snd ∧ (15 = x.fst ∧ (0 :
Int) = 0 ∧ D.list (kkS 7) = x.snd ∧ True) ∧ True))) ∧ ∀ (x : Int × D), onceP x.fst x.snd → ((((0 : Int) = 0 → False) → False) → ((x.snd.len : Int) = 0 → (false = true ↔ True)) ∧ (((x.snd.len : Int) = 0 → False) → (0 :
Int) ≤ 0 ∧ 0 < (x.snd.len : Int) ∧ ((∃ (x : Nat), x = 0 ∧ (0 = (x : Int) ∧ True ∧ True) ∧ True) ∨ ∃ (x_1 : Nat), (0 < x_1 ∧ x_1 ≤ (el x.snd 0).len) ∧ (0 = (x_1 : Int) ∧ False ∧ True) ∧ False ∧ True) ∧ (∀ (x_1 : Nat), x_1
= 0 → (el x.snd 0).len - x_1 < LIM ∧ ((x_1 : Int) < (↑(el x.snd 0).len : Int) → 0 ≤ (x_1 : Int) ∧ (x_1 : Int) < (↑(el x.snd 0).len : Int) ∧ 0 + 1 ≤ [D.int (↑(el (el x.snd 0) x_1).len : Int)].length ∧ (1 : Nat) ≤ 16777216
∧ fits64 ((x_1 : Int) + 1) ∧ ((∃ (y : Nat), y = 0 ∧ (el x.snd 0).len - y < (el x.snd 0).len - x_1 ∧ ((x_1 : Int) + 1 = (y : Int) ∧ False ∧ True) ∧ True) ∨ ∃ (y : Nat), (0 < y ∧ y ≤ (el x.snd 0).len) ∧ (el x.snd 0).len -
y < (el x.snd 0).len - x_1 ∧ ((x_1 : Int) + 1 = (y : Int) ∧ ((0 : Nat) = 0 ∧ 1 = y ∧ True) ∧ True) ∧ List.take 1 [D.int (↑(el (el x.snd 0) x_1).len : Int)] = szL x.snd y ∧ True)) ∧ (((x_1 : Int) < (↑(el x.snd 0).len :
Int) → False) → ((0 : Nat) ≤ 1000 ∧ bigP x.snd) ∧ ((((chk x.fst D.nil x.snd).fst = 0 → False) → False) → ((((chk x.fst D.nil x.snd).snd = 0 → False) → False) → goodS x.fst x.snd ∧ (((mxZ (mtL x.fst x.snd) (mtL x.fst
x.snd).len = 1 → False) → False) → goodS x.fst x.snd ∧ (((leastZ (mtL x.fst x.snd) = 1 → False) → False) → goodS x.fst x.snd ∧ fits64 (x.fst - 1) ∧ fits64 (x.fst * (x.fst - 1)) ∧ ((2 : Int) = 0 → False) ∧ fits64 (triZ
x.fst) ∧ ((sqSum (mtL x.fst x.snd) (mtL x.fst x.snd).len = triZ x.fst → False) → (false = true ↔ True)) ∧ (((sqSum (mtL x.fst x.snd) (mtL x.fst x.snd).len = triZ x.fst → False) → False) → (0 : Nat) ≤ 16777216 ∧ (meZ
x.fst D.nil 1 = (x.snd.len : Int) → (0 : Nat) ≤ 16777216 ∧ (lmZ x.fst D.nil (x.snd.len : Int) = 1 → fits64 ((x.snd.len : Int) + 1) ∧ (0 : Nat) ≤ 16777216 ∧ (lmZ x.fst D.nil ((x.snd.len : Int) + 1) = 2 → (true = true ↔
True)) ∧ ((lmZ x.fst D.nil ((x.snd.len : Int) + 1) = 2 → False) → (false = true ↔ True))) ∧ ((lmZ x.fst D.nil (x.snd.len : Int) = 1 → False) → (false = true ↔ True))) ∧ ((meZ x.fst D.nil 1 = (x.snd.len : Int) → False) →
(false = true ↔ True)))) ∧ ((leastZ (mtL x.fst x.snd) = 1 → False) → (false = true ↔ True))) ∧ ((mxZ (mtL x.fst x.snd) (mtL x.fst x.snd).len = 1 → False) → (false = true ↔ True))) ∧ (((chk x.fst D.nil x.snd).snd = 0 →
False) → (false = true ↔ True))) ∧ (((chk x.fst D.nil x.snd).fst = 0 → False) → (false = true ↔ True)))) ∧ ∀ (x_1 : Nat), 0 < x_1 ∧ x_1 ≤ (el x.snd 0).len → (el x.snd 0).len - x_1 < LIM ∧ ((x_1 : Int) < (↑(el x.snd
0).len : Int) → 0 ≤ (x_1 : Int) ∧ (x_1 : Int) < (↑(el x.snd 0).len : Int) ∧ 0 + 1 ≤ [D.int (↑(el (el x.snd 0) x_1).len : Int)].length ∧ 0 + x_1 ≤ (szL x.snd x_1).length ∧ x_1 + 1 ≤ 16777216 ∧ fits64 ((x_1 : Int) + 1) ∧
((∃ (y : Nat), y = 0 ∧ (el x.snd 0).len - y < (el x.snd 0).len - x_1 ∧ ((x_1 : Int) + 1 = (y : Int) ∧ False ∧ True) ∧ True) ∨ ∃ (y : Nat), (0 < y ∧ y ≤ (el x.snd 0).len) ∧ (el x.snd 0).len - y < (el x.snd 0).len - x_1 ∧
((x_1 : Int) + 1 = (y : Int) ∧ ((0 : Nat) = 0 ∧ x_1 + 1 = y ∧ True) ∧ True) ∧ List.take x_1 (szL x.snd x_1) ++ List.take 1 [D.int (↑(el (el x.snd 0) x_1).len : Int)] = szL x.snd y ∧ True)) ∧ (((x_1 : Int) < (↑(el x.snd
0).len : Int) → False) → 0 + x_1 ≤ (szL x.snd x_1).length ∧ ((List.take x_1 (szL x.snd x_1)).length ≤ 1000 ∧ bigP x.snd) ∧ ((((chk x.fst (D.list (List.take x_1 (szL x.snd x_1))) x.snd).fst = 0 → False) → False) → ((((chk
x.fst (D.list (List.take x_1 (szL x.snd x_1))) x.snd).snd = 0 → False) → False) → goodS x.fst x.snd ∧ (((mxZ (mtL x.fst x.snd) (mtL x.fst x.snd).len = 1 → False) → False) → goodS x.fst x.snd ∧ (((leastZ (mtL x.fst x.snd)
= 1 → False) → False) → goodS x.fst x.snd ∧ fits64 (x.fst - 1) ∧ fits64 (x.fst * (x.fst - 1)) ∧ ((2 : Int) = 0 → False) ∧ fits64 (triZ x.fst) ∧ ((sqSum (mtL x.fst x.snd) (mtL x.fst x.snd).len = triZ x.fst → False) →
(false = true ↔ True)) ∧ (((sqSum (mtL x.fst x.snd) (mtL x.fst x.snd).len = triZ x.fst → False) → False) → 0 + x_1 ≤ (szL x.snd x_1).length ∧ (List.take x_1 (szL x.snd x_1)).length ≤ 16777216 ∧ (meZ x.fst (D.list
(List.take x_1 (szL x.snd x_1))) 1 = (x.snd.len : Int) → 0 + x_1 ≤ (szL x.snd x_1).length ∧ (List.take x_1 (szL x.snd x_1)).length ≤ 16777216 ∧ (lmZ x.fst (D.list (List.take x_1 (szL x.snd x_1))) (x.snd.len : Int) = 1 →
fits64 ((x.snd.len : Int) + 1) ∧ 0 + x_1 ≤ (szL x.snd x_1).length ∧ (List.take x_1 (szL x.snd x_1)).length ≤ 16777216 ∧ (lmZ x.fst (D.list (List.take x_1 (szL x.snd x_1))) ((x.snd.len : Int) + 1) = 2 → (true = true ↔
True)) ∧ ((lmZ x.fst (D.list (List.take x_1 (szL x.snd x_1))) ((x.snd.len : Int) + 1) = 2 → False) → (false = true ↔ True))) ∧ ((lmZ x.fst (D.list (List.take x_1 (szL x.snd x_1))) (x.snd.len : Int) = 1 → False) → (false
= true ↔ True))) ∧ ((meZ x.fst (D.list (List.take x_1 (szL x.snd x_1))) 1 = (x.snd.len : Int) → False) → (false = true ↔ True)))) ∧ ((leastZ (mtL x.fst x.snd) = 1 → False) → (false = true ↔ True))) ∧ ((mxZ (mtL x.fst
x.snd) (mtL x.fst x.snd).len = 1 → False) → (false = true ↔ True))) ∧ (((chk x.fst (D.list (List.take x_1 (szL x.snd x_1))) x.snd).snd = 0 → False) → (false = true ↔ True))) ∧ (((chk x.fst (D.list (List.take x_1 (szL
x.snd x_1))) x.snd).fst = 0 → False) → (false = true ↔ True))))) ∧ (((0 : Int) = 0 → False) → (false = true ↔ True))) := by intros; kernel_rfl
theorem qB_ok {b : Int} (h0 : 0 ≤ b) : ∃ Q : Nat, Q ∈ plL ∧ (nthD [D.int (2 : Int), D.int (3 : Int), D.int (4 : Int), D.int (5 : Int), D.int (7 : Int), D.int (8 : Int)] (b.tmod (6 : Int)).toNat).asInt = (Q : Int) := by
 have h6 : ∀ t : Nat, t < 6 → ∃ Q, Q ∈ plL ∧ (nthD [D.int (2 : Int), D.int (3 : Int), D.int (4 : Int), D.int (5 : Int), D.int (7 : Int), D.int (8 : Int)] t).asInt = (Q : Int) := fun t ht =>
  match t, ht with
  | 0, _ => ⟨2, by decide, rfl⟩
  | 1, _ => ⟨3, by decide, rfl⟩
  | 2, _ => ⟨4, by decide, rfl⟩
  | 3, _ => ⟨5, by decide, rfl⟩
  | 4, _ => ⟨7, by decide, rfl⟩
  | 5, _ => ⟨8, by decide, rfl⟩
  | t + 6, h => absurd h (by omega)
 rw [Int.tmod_eq_emod_of_nonneg h0]
 exact h6 _ (by omega)
theorem wrap_id {z : Int} (h0 : 0 ≤ z) (h1 : z < 1000) : IntKind.i64.wrap z = z := IntWalk.i64_in z ⟨by omega, by omega⟩
theorem sl4o (a b : Int) (ha0 : 0 ≤ a) (ha1 : a < 256) (hb0 : 0 ≤ b) (hb1 : b < 256) : symFun (ctxj on1 onAnn onJoin) 5 4 [.int .u8 a, .int .u8 b] (.prop True) := by
 rw [vc4o]
 refine ⟨⟨fun h => by omega, fun _ => ?_, fun _ => ⟨fun _ => ?_, fun _ => ⟨trivial, (15, .list (kkS 7)), ⟨.inr (.inr ⟨rfl, rfl⟩)⟩, ⟨rfl, rfl, rfl, trivial⟩, trivial⟩⟩⟩, fun x hx => ?_⟩
 ·have hm : 0 ≤ b.tmod 63 ∧ b.tmod 63 < 63 := by rw [Int.tmod_eq_emod_of_nonneg hb0]; omega
  rw [wrap_id hm.1 (by omega)]
  generalize b.tmod 63 = z at hm ⊢
  refine ⟨fun h => by omega, ⟨by omega, by omega⟩, ⟨by omega, by omega⟩, (2 + z, .list (p2S (2 + z).toNat (evM (2 + z).toNat) (evM (2 + z).toNat - 1))), ⟨.inl ⟨(2 + z).toNat, by omega, by omega, by show 2 + z = _; omega, rfl⟩⟩, ⟨rfl, rfl, rfl, trivial⟩, trivial⟩
 ·obtain ⟨Q, hQ, hq⟩ := qB_ok hb0
  rw [hq]
  obtain ⟨_, h2, h8, h64, _⟩ := pl_rng hQ
  have hP : (Q : Int) * (Q : Int) = ((Q * Q : Nat) : Int) := (Int.natCast_mul Q Q).symm
  have hm : 0 ≤ b.tmod 6 ∧ b.tmod 6 < 6 := by rw [Int.tmod_eq_emod_of_nonneg hb0]; omega
  rw [hP]
  exact ⟨fun h => by omega, hm.1, hm.2, by show (b.tmod 6).toNat < 6; omega, ⟨by omega, by omega⟩, ⟨Q, hQ, rfl⟩, (((Q * Q : Nat) : Int), .list (plS Q)), ⟨.inr (.inl ⟨Q, hQ, rfl, rfl⟩)⟩, ⟨rfl, rfl, rfl, trivial⟩, trivial⟩
 ·obtain ⟨n, s⟩ := x
  dsimp only at hx ⊢
  obtain ⟨N, rfl, h⟩ := once_one hx
  have hg := one_good h
  have hn := h.n2
  have hl := h.len
  have he := h.el0
  refine ⟨fun _ => ⟨fun h0 => absurd h0 (by show ¬ ((s.len : Nat) : Int) = 0; omega), fun _ => ⟨Int.le_refl _, by show (0 : Int) < ((s.len : Nat) : Int); omega, .inl ⟨0, rfl, ⟨rfl, trivial, trivial⟩, trivial⟩, fun y hy => ?_, fun y ⟨hy1, hy2⟩ => ?_⟩⟩, fun h0 => (h0 rfl).elim⟩
  ·subst hy
   refine ⟨limS (by show (el s 0).len - 0 ≤ _; omega), fun hlt => ⟨Int.le_refl _, hlt, Nat.le_refl _, by decide, ⟨by decide, by decide⟩, .inr ⟨1, ⟨by omega, he.1⟩, by show (el s 0).len - 1 < (el s 0).len - 0; omega, ⟨rfl, ⟨rfl, rfl, trivial⟩, trivial⟩, rfl, trivial⟩⟩, fun hge => absurd (by show ((0 : Nat) : Int) < ((el s 0).len : Nat); omega) (not_of hge)⟩
  ·have hy2 : y ≤ (el s 0).len := hy2
   have hsl : (szL s y).length = y := szL_len s y
   refine ⟨limS (by show (el s 0).len - y ≤ _; omega), fun hlt => ?_, fun hge => ?_⟩
   ·have hlt' : (y : Int) < ((el s 0).len : Nat) := hlt
    refine ⟨by omega, hlt, Nat.le_refl _, by show 0 + y ≤ (szL s y).length; omega, by omega, ⟨by omega, by omega⟩, .inr ⟨y + 1, ⟨by omega, by show y + 1 ≤ (el s 0).len; omega⟩, by show (el s 0).len - (y + 1) < (el s 0).len - y; omega, ⟨by show (y : Int) + 1 = ((y + 1 : Nat) : Int); omega, ⟨rfl, rfl, trivial⟩, trivial⟩, ?_, trivial⟩⟩
    show List.take y (szL s y) ++ _ = szL s (y + 1)
    rw [List.take_of_length_le (by omega)]
    unfold szL
    rw [List.range_succ, List.map_append]; rfl
   ·have ey : y = (el s 0).len := by
     have : ¬ (y : Int) < ((el s 0).len : Nat) := not_of hge
     omega
    subst ey
    have hT : List.take (el s 0).len (szL s (el s 0).len) = szL s (el s 0).len := List.take_of_length_le (by omega)
    simp only [hT]
    have h1 := one_mx h
    have h2 := one_mn h
    have h3 := one_sq h
    have h4 := one_me h
    have h5 := one_lm h
    have h6 := one_lm2 h
    have hp := Int.mul_le_mul (show (N : Int) ≤ 64 by omega) (show (N : Int) - 1 ≤ 63 by omega) (by omega) (by omega)
    have hp0 : 0 ≤ (N : Int) * ((N : Int) - 1) := Int.mul_nonneg (by omega) (by omega)
    have hz := tri_rng (k := (N : Int)) (by omega) (by omega)
    have hc := h.chk1
    refine ⟨by omega, ⟨by rw [hsl]; omega, h.big⟩, fun _ => ⟨fun _ => ⟨hg, fun _ => ⟨hg, fun _ => ⟨hg, ⟨by omega, by omega⟩, ⟨by omega, by omega⟩, fun h => by omega, ⟨by omega, by omega⟩, fun k => (k h3).elim, fun _ => ⟨by omega, by rw [hsl]; omega, fun _ => ⟨by omega, by rw [hsl]; omega, fun _ => ⟨⟨by omega, by omega⟩, by omega, by rw [hsl]; omega, fun _ => by first | trivial | exact ⟨fun _ => trivial, fun _ => rfl⟩, fun k => (k h6).elim⟩, fun k => (k h5).elim⟩, fun k => (k h4).elim⟩⟩, fun k => (k h2).elim⟩, fun k => (k h1).elim⟩, fun k => (k (by rw [hc])).elim⟩, fun k => (k (by rw [hc])).elim⟩
end Go.Ev

end
