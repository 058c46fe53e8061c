/-
  Part of the engine that the claim is proved with: it states nothing of the document by itself.
-/
import Derived.Test.YtpopdemanadllaaGreatDoorCoreQpM
import Derived.Test.YtpopdemanadllaaGreatDoorCoreOqA
import Derived.Test.YtpopdemanadllaaGreatDoorCoreQpDefs
import Derived.Test.YtpopdemanadllaaGreatDoorCoreQpS
open Go.Proofs
namespace Go.Ev
set_option maxRecDepth 100000
set_option maxHeartbeats 4000000
theorem cnt_perm {l l' : List D} (p : l.Perm l') (x : Int) : cntF l x = cntF l' x := by
 induction p with
 | nil => rfl
 | cons a _ ih => rw [cntF_cons, cntF_cons, ih]
 | swap a b l => rw [cntF_cons, cntF_cons, cntF_cons, cntF_cons]; omega
 | trans _ _ h1 h2 => exact h1.trans h2
theorem cnt_id (x : Int) : ∀ m : Nat, cntF (idL m) x = if 0 ≤ x ∧ x < m then 1 else 0
 | 0 => by rw [if_neg (by omega)]; rfl
 | m + 1 => by
  rw [← id_succ, cntF_app, cnt_id x m]
  show _ + (0 + if (m : Int) = x then 1 else 0) = _
  by_cases h1 : (m : Int) = x
  ·rw [if_pos h1, if_neg (by omega), if_pos (by omega)]; rfl
  ·rw [if_neg h1]
   by_cases h2 : 0 ≤ x ∧ x < m
   ·rw [if_pos h2, if_pos (by omega)]; rfl
   ·rw [if_neg h2, if_neg (by omega)]; rfl
theorem flat_map (ev : D) : ∀ n, n ≤ ev.len → flatL ev n = ((ev.asList.take n).map D.asList).flatten
 | 0, _ => rfl
 | n + 1, h => by
  show flatL ev n ++ (el ev n).asList = _
  rw [flat_map ev n (by omega), take_succ_nth (show n < ev.asList.length from h), List.map_append, List.flatten_append]
  show _ = _ ++ ([(nthD ev.asList n).asList].flatten)
  simp [el]
theorem scan_zero {n : Int} {sz s : D} : ∀ f i, (∀ k, i ≤ k → k < i + f → errE n sz (el s k) = 0) → scanK n sz s f i = (0, 0)
 | 0, _, _ => rfl
 | f + 1, i, h => by
  unfold scanK
  rw [if_neg (fun hne => hne (h i (Nat.le_refl _) (by omega)))]
  exact scan_zero f (i + 1) fun k h1 h2 => h k (by omega) (by omega)
theorem off_sum (sz : D) : ∀ x, offZ sz x = sumZ sz x
 | 0 => rfl
 | x + 1 => by show offZ sz x + nAt sz x = sumZ sz x + nAt sz x; rw [off_sum sz x]
structure pigF (n : Int) (sz s : D) : Prop where
 good : goodS n s
 ok : okS n sz
 chk1 : chk n sz s = (0, 0)
 tab : ∀ i, i < s.len → (el s i).len = sz.len ∧ ∀ j, j < sz.len → ((el (el s i) j).len : Int) = nAt sz j
theorem made_pig {c w : D} (hc : u8L c) (hw : u8W w) : pigF (nD c) (szD c) (madeD c w) := by
 have hz := sz_p hc
 have hn := hz.n1
 have hml := made_len c w
 have h10 := sub10_len w
 have hevl : ∀ i, i < (madeD c w).len → (el (madeD c w) i).len = (szD c).len := fun i hi => by
  rw [made_el hi]; exact tab_len _ _ _
 have hl1 := hz.l1
 have hfit : fitP (nD c) (szD c) := ⟨fun i hi => (hz.at1 i hi).1, by rw [← off_sum, hz.all]⟩
 have hev : ∀ sz, (0 < sz.len → sz = szD c) → ∀ i, i < (madeD c w).len → errE (nD c) sz (el (madeD c w) i) = 0 := fun sz hsz i hi => by
  have h1 : ¬ emptyP (el (madeD c w) i) := fun ⟨j, hj, h0⟩ => by
   have h2 := made_tab (w := w) hc hi (j := j) (by rw [hevl i hi] at hj; exact hj)
   have h3 := hz.at1 j (by rw [hevl i hi] at hj; exact hj)
   omega
  rw [errE_g (n := nD c) (sz := sz) h1 (fun h => by
   rw [hsz h]
   exact ⟨hevl i hi, fun j hj => made_tab (w := w) hc hi (by rw [hevl i hi] at hj; exact hj)⟩)]
  have hp := made_flat hc hw hi
  have hf := flat_map (el (madeD c w) i) _ (Nat.le_refl _)
  rw [show (el (madeD c w) i).asList.take (el (madeD c w) i).len = (el (madeD c w) i).asList from List.take_length] at hf
  rw [← hf] at hp
  refine errG_0 (fun ⟨a, ha, hna⟩ => hna ?_) (fun v hv => ?_) (fun v hv => ?_)
  ·obtain ⟨k, hk, rfl⟩ := List.mem_map.1 (hp.mem_iff.1 ha)
   have hk := List.mem_range.1 hk
   show 0 ≤ (k : Int) ∧ (k : Int) < nD c
   omega
  ·rw [cnt_perm hp, cnt_id]; split <;> omega
  ·rw [cnt_perm hp, cnt_id, if_pos (by omega)]; decide
 have hbig : bigP (madeD c w) := ⟨by omega, fun i hi => ⟨by rw [hevl i hi]; omega, fun j hj => by
  have h2 := made_tab (w := w) hc hi (j := j) (by rw [hevl i hi] at hj; exact hj)
  have h3 := hz.at1 j (by rw [hevl i hi] at hj; exact hj)
  omega⟩⟩
 refine ⟨⟨⟨by omega, by omega⟩, hbig, ?_⟩, ⟨by omega, by omega, hfit⟩, ?_, fun i hi => ⟨hevl i hi, fun j hj => made_tab (w := w) hc hi hj⟩⟩
 ·unfold chk
  rw [if_neg (fun h => by rcases h with h | h; exact h ⟨by omega, by omega⟩; exact absurd h.1 (Nat.lt_irrefl 0)), if_neg (by omega)]
  exact scan_zero _ _ fun k _ hk => hev .nil (fun h => absurd h (Nat.lt_irrefl 0)) k (by omega)
 ·unfold chk
  rw [if_neg (fun h => by rcases h with h | h; exact h ⟨by omega, by omega⟩; exact h.2 hfit), if_neg (by omega)]
  exact scan_zero _ _ fun k _ hk => hev _ (fun _ => rfl) k (by omega)
section
variable {n : Int} {sz s : D}
end
theorem tt : (true = true ↔ True) := ⟨fun _ => trivial, fun _ => rfl⟩
end Go.Ev
