/-
  Part of the engine that the claim is proved with: it states nothing of the document by itself.
-/
import Derived.Test.YtfplgbngodmbiaaGreatDoorCoreAwake
import Derived.Test.YtfplgbngodmbiaaGreatDoorCoreShelf
import Derived.Test.YtfplgbngodmbiaaGreatDoorCoreSortC
open Go.Proofs
namespace Go.Ev
noncomputable def sortF : RowF := ⟨fun zs => zs.mergeSort fun x y => decide (x ≤ y), fun _ => none⟩
noncomputable def compactF : RowF := ⟨fun zs => Lib.compact zs ++ List.replicate (zs.length - (Lib.compact zs).length) 0, fun zs => some (Lib.compact zs).length⟩
theorem compact_le (zs : List Int) : (Lib.compact zs).length ≤ zs.length := by
 unfold Lib.compact Lib.compactUpTo
 rw [List.length_map]
 exact Nat.le_trans (List.length_filter_le _ _) (by simp)
theorem ev_sort0 : evCall Tryz.prog { bits := GB, fast := true, ora := fun _ => none } 100 147 [.slice none 0 0] = some (.tuple #[]) := by kernel_rfl
theorem ev_compact0 : evCall Tryz.prog { bits := GB, fast := true, ora := fun _ => none } 100 148 [.slice none 0 0] = some (.slice none 0 0) := by kernel_rfl
theorem sort147 : SortFact Tryz.prog 147 sortF := by
 refine ⟨fun args w => ?_, fun zs => ⟨List.length_mergeSort _, fun k h => by cases h⟩, fun n w => (tab_of_ev (P := Tryz.prog) (GOK.of okGB) mixedT ev_sort0).2 n w |>.2, fun n w blk off cap zs hH hb hl _ => ?_⟩
 ·obtain ⟨body, hbody⟩ : ∃ body, Tryz.f147.body = some body := ⟨_, rfl⟩
  exact run_callFunc_in (GOK.of okGB) (by kernel_rfl) Tryz.func147 hbody args w
 ·have h : Calls Tryz.prog 147 #[.slice (some ⟨blk, off, none⟩) zs.length cap] w (fun e w' => e = .returned (.tuple #[]) ∧ ∃ n os, w' = Sort.grow (Sort.putRow (Value.int .i64) (Sort.ahead w n) blk off (zs.mergeSort fun x y => decide (x ≤ y)).toArray) os) :=
   calls_of_every_depth fun D => AnyS.slices_Sort_int_in Tryz.lays189 D blk off cap zs w hH hb hl
  exact callsIn_wide.2 h
theorem compact148 : SortFact Tryz.prog 148 compactF := by
 refine ⟨fun args w => ?_, fun zs => ⟨?_, fun k h => ?_⟩, fun n w => (tab_of_ev (P := Tryz.prog) (GOK.of okGB) mixedT ev_compact0).2 n w |>.2, fun n w blk off cap zs hH hb hl hc => ?_⟩
 ·obtain ⟨body, hbody⟩ : ∃ body, Tryz.f148.body = some body := ⟨_, rfl⟩
  exact run_callFunc_in (GOK.of okGB) (by kernel_rfl) Tryz.func148 hbody args w
 ·show (Lib.compact zs ++ List.replicate (zs.length - (Lib.compact zs).length) 0).length = zs.length
  have := compact_le zs
  rw [List.length_append, List.length_replicate]; omega
 ·cases h; exact compact_le zs
 ·have h : Calls Tryz.prog 148 #[.slice (some ⟨blk, off, none⟩) zs.length cap] w (fun e w' => e = .returned (.slice (some ⟨blk, off, none⟩) (Lib.compact zs).length cap) ∧ ∃ q, w' = Sort.putRow (Value.int .i64) (Sort.ahead w q) blk off (Lib.compact zs ++ List.replicate (zs.length - (Lib.compact zs).length) 0).toArray) :=
   Any.slices_Compact_int Tryz.lays2_20 blk off cap zs w hH (by omega) hc
  refine callsIn_wide.2 (h.mono ?_)
  rintro e w' ⟨rfl, q, rfl⟩
  exact ⟨rfl, q, #[], by rw [Sort.grow_empty]; rfl⟩
noncomputable def rowsF : FuncId → Option RowF := fun g => cond (Nat.beq g 147) (some sortF) (cond (Nat.beq g 148) (some compactF) none)
theorem okGT : GOK Tryz.prog { bits := GB, fast := false, ora := fun g => cond (Nat.beq g 21) (some (.bool true)) none, srt := rowsF, srtC := fun g => Nat.beq g 110 } := by
 refine ⟨okGS.1, okGS.2.1, fun g xs v h => ?_, fun g f h => ?_, fun g h => ?_⟩
 ·cases h
 ·have h : rowsF g = some f := h
  unfold rowsF at h
  cases h1 : Nat.beq g 147 with
  | true => rw [h1] at h; cases h; rw [Nat.eq_of_beq_eq_true h1]; exact sort147
  | false =>
   rw [h1] at h
   cases h2 : Nat.beq g 148 with
   | true => rw [h2] at h; cases h; rw [Nat.eq_of_beq_eq_true h2]; exact compact148
   | false => rw [h2] at h; cases h
 ·rw [Nat.eq_of_beq_eq_true h]; exact sortC110
end Go.Ev
