/-
  Part of the engine that the claim is proved with: it states nothing of the document by itself.
-/
import Derived.Test.YtenmglepjkflhaaDoorCoreNtN
import Derived.Test.YtenmglepjkflhaaDoorCoreOnD
namespace Go.Ev
def pcE (m e : Nat) : List Nat := prC (m - 1) e :: (List.range (m / 2 - 1)).map fun k => prC (p2A m e (k + 1)) (p2B m e (k + 1))
def pcS (m x : Nat) : List Nat := (List.range x).flatMap (pcE m)
def pvE (m e : Nat) : List Nat := (m - 1) :: e :: (List.range (m / 2 - 1)).flatMap fun k => [p2A m e (k + 1), p2B m e (k + 1)]
def ckPE (m e : Nat) : Bool := match insB (pvE m e) 0 with | some X => Nat.beq X (2 ^ m - 1) | none => false
def ckP (m : Nat) : Bool := (List.range (m - 1)).all (ckPE m) && (match insB (pcS m (m - 1)) 0 with | some X => (List.range m).all fun a => (List.range m).all fun b => Nat.beq a b || Nat.testBit X (prC a b) | none => false)
theorem ckP_all : ((List.range 32).all fun t => ckP (2 * (t + 1))) = true := by decide +kernel
structure robP (m : Nat) : Prop where
 evN : ∀ e, e < m - 1 → (pvE m e).Nodup
 evM : ∀ e x, e < m - 1 → (x ∈ pvE m e ↔ x < m)
 one : ∀ a b, a < m → b < m → a ≠ b → (pcS m (m - 1)).count (prC a b) = 1
theorem rob_ok {m : Nat} (h2 : 2 ≤ m) (h64 : m ≤ 64) (he : m % 2 = 0) : robP m := by
 have hc : ckP m = true := by
  have := List.all_eq_true.1 ckP_all (m / 2 - 1) (List.mem_range.2 (by omega))
  rwa [show 2 * (m / 2 - 1 + 1) = m by omega] at this
 unfold ckP at hc
 rw [Bool.and_eq_true] at hc
 obtain ⟨hv, hf⟩ := hc
 have hev : ∀ e, e < m - 1 → (pvE m e).Nodup ∧ ∀ x, x ∈ pvE m e ↔ x < m := fun e he => by
  have h3 := List.all_eq_true.1 hv e (List.mem_range.2 he)
  unfold ckPE at h3
  cases hin : insB (pvE m e) 0 with
  | none => rw [hin] at h3; cases h3
  | some X =>
   rw [hin] at h3
   obtain ⟨r1, r2, _⟩ := insB_ok hin
   refine ⟨r2, fun x => ?_⟩
   have e1 := Nat.eq_of_beq_eq_true h3
   have r3 := r1 x
   rw [e1, Nat.testBit_two_pow_sub_one] at r3
   simp only [decide_eq_true_eq, Nat.zero_testBit, Bool.false_eq_true, false_or] at r3
   exact r3.symm
 refine ⟨fun e he => (hev e he).1, fun e x he => (hev e he).2 x, fun a b ha hb hab => ?_⟩
 cases hin : insB (pcS m (m - 1)) 0 with
 | none => rw [hin] at hf; cases hf
 | some X =>
  rw [hin] at hf
  refine count_one hin ?_
  have := List.all_eq_true.1 (List.all_eq_true.1 hf a (List.mem_range.2 ha)) b (List.mem_range.2 hb)
  rw [Bool.or_eq_true] at this
  rcases this with h | h
  ·exact absurd (Nat.eq_of_beq_eq_true h) hab
  ·exact h
theorem mtN_two (x y : Int) (a b : Nat) : mtN (.list [.int x, .int y]) 2 a b = indN x y a b := by
 show 0 + mtI _ 0 0 a b + mtI _ 1 1 a b = _
 show 0 + 0 + (0 + indN (nAt (.list [.int x, .int y]) 0) (nAt (.list [.int x, .int y]) 1) a b) = _
 rw [Int.zero_add, Int.zero_add, Int.zero_add]; rfl
end Go.Ev
