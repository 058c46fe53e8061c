/-
  Part of the engine that the claim is proved with: it states nothing of the document by itself.
-/
import Derived.Test.YtpopdemanadllaaGreatDoorProg
import Derived.Test.YtpopdemanadllaaGreatDoorCoreEv
import Derived.Test.YtpopdemanadllaaGreatDoorCoreG3
open Go.Proofs
namespace Go.Ev
def GB : Nat := 170141183460469231731687303715884105727
theorem okGB : okMask Tryz.prog { bits := GB, fast := true, ora := fun _ => none } = true := by kernel_rfl
theorem mixedT : Tryz.prog.follows .mixedOrders = true := by kernel_rfl
theorem ev_awake : evCall Tryz.prog { bits := GB, fast := true, ora := fun _ => none } 100 6 [] = some (.bool true) := by kernel_rfl
theorem awake_did : flatR (.bool true) = true ∧ ∀ n w, LaidG w → (∀ w, (callFunc 6 #[]).run Tryz.prog w = .ok (.enter 6 #[]) w) ∧ CallsIn (FNC none) n Tryz.prog 6 #[] w (fun e w' => e = .returned (.bool true) ∧ (∀ b, b < w.heap.size → w'.heap[b]? = w.heap[b]?) ∧ w.heap.size ≤ w'.heap.size ∧ w'.os = w.os ∧ w'.tape = w.tape ∧ Out w w') := ora_of_ev (P := Tryz.prog) (GOK.of okGB) mixedT ev_awake
theorem okGS : GOK Tryz.prog { bits := GB, fast := false, ora := fun g => cond (Nat.beq g 6) (some (.bool true)) none } := by
 refine ⟨fun g fn body hg hf hb => (GOK.of okGB).1 g fn body hg hf hb, fun g v h => ?_, fun g xs v h => ?_, fun g f h => ?_, fun g h => absurd h Bool.false_ne_true⟩
 ·cases hq : Nat.beq g 6 with
  | false => simp only [hq, cond_false] at h; cases h
  | true =>
   simp only [hq, cond_true, Option.some.injEq] at h
   subst h
   rw [Nat.eq_of_beq_eq_true hq]
   exact awake_did
 ·cases h
 ·cases h
end Go.Ev
