/-
  Part of the engine that the claim is proved with: it states nothing of the document by itself.
-/
import Derived.Test.YtdcamlgidccamaaGreatDoorCoreMetDefs
import Derived.Test.YtdcamlgidccamaaGreatDoorCoreLvl
open Go.Proofs
namespace Go.Ev
/-! ### The distance is a metric -/
theorem beside_symm {sh a b k m : Int} (h : besideP sh a b k m) : besideP sh a b m k := by
  have h := h.out
  unfold hi lo at h
  rw [show max k m = max m k by omega, show min k m = min m k by omega] at h
  exact ⟨⟨fun e => h.1 e.symm, by unfold hi lo; exact h.2⟩⟩
theorem across_symm {sh a b k m : Int} (h : acrossP sh a b k m) : acrossP sh a b m k := by
  have h := h.out
  unfold hi lo at h
  rw [show max k m = max m k by omega, show min k m = min m k by omega] at h
  exact ⟨⟨fun e => h.1 e.symm, by unfold hi lo; exact h.2⟩⟩
theorem near_symm {sh a b k m : Int} (h : nearP sh a b k m) : nearP sh a b m k := ⟨h.out.imp beside_symm across_symm⟩
theorem near_irr {sh a b k : Int} : ¬ nearP sh a b k k := fun h => h.out.elim (fun g => g.out.1 rfl) (fun g => g.out.1 rfl)
section
variable {sh a b : Int} {n : Nat}
theorem nN_symm {x y : Nat} (h : nearN sh a b x y) : nearN sh a b y x := near_symm (show nearP sh a b x y from h)
theorem dz_walk {x y : Nat} (h : 0 ≤ distZ n (nearN sh a b) x y) : walk n (nearN sh a b) x (distZ n (nearN sh a b) x y).toNat y := by
  have := distZ_is (n := n) (near := nearN sh a b) (s := x) (m := y) (d := (distZ n (nearN sh a b) x y).toNat) (by omega)
  exact this.1
theorem dz_le {x y d : Nat} (h : walk n (nearN sh a b) x d y) : 0 ≤ distZ n (nearN sh a b) x y ∧ distZ n (nearN sh a b) x y ≤ d := by
  obtain ⟨e, he, h2⟩ := least_dist _ _ h
  rw [distZ_of h2]; omega
theorem dz_back {x y : Nat} (hx : x < n) (hy : y < n) (h : 0 ≤ distZ n (nearN sh a b) x y) : 0 ≤ distZ n (nearN sh a b) y x ∧ distZ n (nearN sh a b) y x ≤ distZ n (nearN sh a b) x y := by
  have := dz_le (walk_back (fun a' b' _ _ h => nN_symm h) hx hy (dz_walk h))
  omega
theorem dz_symm {x y : Nat} (hx : x < n) (hy : y < n) : distZ n (nearN sh a b) x y = distZ n (nearN sh a b) y x := by
  have g1 := distZ_ge (n := n) (near := nearN sh a b) (s := x) y
  have g2 := distZ_ge (n := n) (near := nearN sh a b) (s := y) x
  by_cases h1 : 0 ≤ distZ n (nearN sh a b) x y
  · have h2 := dz_back hx hy h1
    have h3 := dz_back hy hx h2.1
    omega
  · by_cases h2 : 0 ≤ distZ n (nearN sh a b) y x
    · have h3 := dz_back hy hx h2; omega
    · omega
theorem dz_tri {x y z : Nat} (hy : y < n) (h1 : 0 ≤ distZ n (nearN sh a b) x y) (h2 : 0 ≤ distZ n (nearN sh a b) y z) : 0 ≤ distZ n (nearN sh a b) x z ∧ distZ n (nearN sh a b) x z ≤ distZ n (nearN sh a b) x y + distZ n (nearN sh a b) y z := by
  have := dz_le (walk_app hy (dz_walk h1) (dz_walk h2))
  omega
theorem dz_one {x y : Nat} (hx : x < n) : distZ n (nearN sh a b) x y = 1 ↔ nearN sh a b x y := by
  constructor
  · intro h
    obtain ⟨k, _, hk, hn⟩ := (distZ_is (d := 1) h).1
    have : k = x := hk
    subst this; exact hn
  · intro h
    have h1 := dz_le (walk_one hx h)
    have h0 : distZ n (nearN sh a b) x y ≠ 0 := fun e => by
      have e' := distZ_zero e
      rw [e'] at h
      exact near_irr (show nearP sh a b x x from h)
    omega
theorem dz_nil {x y : Nat} : distZ n (nearN sh a b) x y = 0 ↔ x = y := ⟨fun h => (distZ_zero h).symm, fun h => by subst h; exact distZ_self⟩
/-! ### Who reaches whom -/
theorem reach_self (x : Nat) : reachP sh a b n x x := ⟨by rw [distZ_self]; omega⟩
theorem reach_symm {x y : Nat} (hx : x < n) (hy : y < n) (h : reachP sh a b n x y) : reachP sh a b n y x := ⟨by rw [← dz_symm hx hy]; exact h.out⟩
theorem reach_trans {x y z : Nat} (hy : y < n) (h1 : reachP sh a b n x y) (h2 : reachP sh a b n y z) : reachP sh a b n x z := ⟨(dz_tri hy h1.out h2.out).1⟩
/-! ### Each seat is in one block -/
theorem count_one {p : Nat → Bool} : ∀ {n k : Nat}, k < n → p k = true → (∀ j, j < n → p j = true → j = k) → (List.range n).countP p = 1
  | 0, k, h, _, _ => by omega
  | n + 1, k, h, hp, hu => by
    rw [List.range_succ, List.countP_append]
    by_cases hk : k = n
    · subst hk
      have h0 : (List.range k).countP p = 0 := by
        rw [List.countP_eq_zero]
        intro j hj hpj
        have := List.mem_range.1 hj
        have := hu j (by omega) hpj
        omega
      rw [h0]; simp [hp]
    · have h1 := count_one (n := n) (k := k) (by omega) hp fun j hj hpj => hu j (by omega) hpj
      have h2 : p n = false := by
        cases hb : p n with
        | false => rfl
        | true => exact absurd (hu n (by omega) hb) (fun e => hk e.symm)
      rw [h1]; simp [h2]
open Classical in
noncomputable def lead (sh a b : Int) (n k : Nat) : Bool := decide (¬ placedP sh a b n k k)
open Classical in
noncomputable def hits (sh a b : Int) (n k m : Nat) : Bool := decide (reachP sh a b n k m)
theorem least_of {p : Nat → Prop} : ∀ m, p m → ∃ k, k ≤ m ∧ p k ∧ ∀ j, j < k → ¬ p j := by
  intro m
  induction m using Nat.strongRecOn with
  | ind m ih =>
    intro hp
    by_cases h : ∃ j, j < m ∧ p j
    · obtain ⟨j, hj, hpj⟩ := h
      obtain ⟨k, h1, h2⟩ := ih j hj hpj
      exact ⟨k, by omega, h2⟩
    · exact ⟨m, Nat.le_refl _, hp, fun j hj hpj => h ⟨j, hj, hpj⟩⟩
theorem one_lead {m : Nat} (hm : m < n) : (List.range n).countP (fun k => lead sh a b n k && hits sh a b n k m) = 1 := by
  obtain ⟨k, hk, hr, hl⟩ := least_of (p := fun k => reachP sh a b n k m) m (reach_self m)
  refine count_one (k := k) (by omega) ?_ ?_
  · simp only [lead, hits, Bool.and_eq_true, decide_eq_true_eq]
    refine ⟨fun h => ?_, hr⟩
    obtain ⟨k', hk', hr'⟩ := h.out
    exact hl k' hk' (reach_trans (by omega) hr' hr)
  · intro j hj hp
    simp only [lead, hits, Bool.and_eq_true, decide_eq_true_eq] at hp
    rcases Nat.lt_trichotomy j k with h | h | h
    · exact absurd hp.2 (hl j h)
    · exact h
    · exact absurd ⟨k, h, reach_trans hm hr (reach_symm hj hm hp.2)⟩ hp.1
theorem sum_leads : ∀ (ms : List Nat), (∀ m ∈ ms, m < n) → ((List.range n).map fun k => if lead sh a b n k then ms.countP (hits sh a b n k) else 0).sum = ms.length
  | [], _ => by
    have : ((List.range n).map fun k => if lead sh a b n k then ([] : List Nat).countP (hits sh a b n k) else 0) = (List.range n).map fun _ => 0 := by
      apply List.map_congr_left
      intro k _
      split <;> rfl
    rw [this]
    have hz : ∀ l : List Nat, (l.map fun _ => 0).sum = 0 := fun l => by induction l with | nil => rfl | cons a l ih => simp [ih]
    rw [hz]; rfl
  | m :: ms, h => by
    have ih := sum_leads ms fun x hx => h x (List.mem_cons_of_mem _ hx)
    have h1 := one_lead (sh := sh) (a := a) (b := b) (n := n) (h m List.mem_cons_self)
    have step : ∀ l : List Nat, (l.map fun k => if lead sh a b n k then (m :: ms).countP (hits sh a b n k) else 0).sum = (l.map fun k => if lead sh a b n k then ms.countP (hits sh a b n k) else 0).sum + l.countP (fun k => lead sh a b n k && hits sh a b n k m) := by
      intro l
      induction l with
      | nil => rfl
      | cons k l ih =>
        rw [List.map_cons, List.map_cons, List.sum_cons, List.sum_cons, ih]
        cases hl : lead sh a b n k
        · simp [List.countP_cons, hl]
        · cases hh : hits sh a b n k m
          · simp [List.countP_cons, hl, hh]; omega
          · simp [List.countP_cons, hl, hh]; omega
    rw [step, ih, h1]; rfl
end
end Go.Ev
