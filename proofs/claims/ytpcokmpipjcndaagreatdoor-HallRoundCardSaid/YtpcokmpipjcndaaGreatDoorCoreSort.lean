/-
  Part of the engine that the claim is proved with: it states nothing of the document by itself.
-/
import Derived.Test.YtpcokmpipjcndaaGreatDoorCoreDig
import Derived.Test.YtpcokmpipjcndaaGreatDoorCoreShelf
open Go.Proofs
namespace Go.Ev
theorem compact_le (zs : List Int) : (Lib.compact zs).length ≤ zs.length := by
 unfold Lib.compact Lib.compactUpTo
 rw [List.length_map]
 exact Nat.le_trans (List.length_filter_le _ _) (by simp)
theorem ev_sort0 : evCall Tryz.prog { bits := GB, fast := true, ora := fun _ => none } 100 63 [.slice none 0 0] = some (.tuple #[]) := by kernel_rfl
theorem ev_compact0 : evCall Tryz.prog { bits := GB, fast := true, ora := fun _ => none } 100 64 [.slice none 0 0] = some (.slice none 0 0) := by kernel_rfl
theorem sort63 : SortFact Tryz.prog 63 sortF := by
 refine ⟨fun args w => ?_, fun zs => ⟨List.length_mergeSort _, fun k h => by cases h⟩, fun n w hG => ((tab_of_ev (P := Tryz.prog) (GOK.of okGB) mixedT ev_sort0).2 n w hG).2, fun n w blk off cap zs hH hb hl _ => ?_⟩
 ·obtain ⟨body, hbody⟩ : ∃ body, Tryz.f63.body = some body := ⟨_, rfl⟩
  exact run_callFunc_in (GOK.of okGB) (by kernel_rfl) Tryz.func63 hbody args w
 ·have h : Calls Tryz.prog 63 #[.slice (some ⟨blk, off, none⟩) zs.length cap] w (fun e w' => e = .returned (.tuple #[]) ∧ ∃ n os, w' = Sort.grow (Sort.putRow (Value.int .i64) (Sort.ahead w n) blk off (zs.mergeSort fun x y => decide (x ≤ y)).toArray) os) :=
   calls_of_every_depth fun D => AnyS.slices_Sort_int_in Tryz.lays189 D blk off cap zs w hH hb hl
  exact callsIn_wide.2 h
theorem compact64 : SortFact Tryz.prog 64 compactF := by
 refine ⟨fun args w => ?_, fun zs => ⟨?_, fun k h => ?_⟩, fun n w hG => ((tab_of_ev (P := Tryz.prog) (GOK.of okGB) mixedT ev_compact0).2 n w hG).2, fun n w blk off cap zs hH hb hl hc => ?_⟩
 ·obtain ⟨body, hbody⟩ : ∃ body, Tryz.f64.body = some body := ⟨_, rfl⟩
  exact run_callFunc_in (GOK.of okGB) (by kernel_rfl) Tryz.func64 hbody args w
 ·show (Lib.compact zs ++ List.replicate (zs.length - (Lib.compact zs).length) 0).length = zs.length
  have := compact_le zs
  rw [List.length_append, List.length_replicate]; omega
 ·cases h; exact compact_le zs
 ·have h : Calls Tryz.prog 64 #[.slice (some ⟨blk, off, none⟩) zs.length cap] w (fun e w' => e = .returned (.slice (some ⟨blk, off, none⟩) (Lib.compact zs).length cap) ∧ ∃ q, w' = Sort.putRow (Value.int .i64) (Sort.ahead w q) blk off (Lib.compact zs ++ List.replicate (zs.length - (Lib.compact zs).length) 0).toArray) :=
   Any.slices_Compact_int Tryz.lays2_20 blk off cap zs w hH (by omega) hc
  refine callsIn_wide.2 (h.mono ?_)
  rintro e w' ⟨rfl, q, rfl⟩
  exact ⟨rfl, q, #[], by rw [Sort.grow_empty]; rfl⟩
theorem okGT : GOK Tryz.prog { bits := GB, fast := false, ora := fun g => cond (Nat.beq g 6) (some (.bool true)) none, tab := tabM, srt := rowsF } := by
 refine ⟨okGS.1, okGS.2.1, fun g xs v h => ?_, fun g f h => ?_, fun g h => absurd h Bool.false_ne_true⟩
 ·exact tab_of_ev (GOK.of okGB) mixedT (tabM_ev h)
 ·have h : rowsF g = some f := h
  unfold rowsF at h
  cases h1 : Nat.beq g 63 with
  | true => rw [h1] at h; cases h; rw [Nat.eq_of_beq_eq_true h1]; exact sort63
  | false =>
   rw [h1] at h
   cases h2 : Nat.beq g 64 with
   | true => rw [h2] at h; cases h; rw [Nat.eq_of_beq_eq_true h2]; exact compact64
   | false => rw [h2] at h; cases h
end Go.Ev
