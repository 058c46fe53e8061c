/-
  Part of the engine that the claim is proved with: it states nothing of the document by itself.
-/
import Derived.Test.YtigckjhbmeameaaGreatDoorCoreEvE

namespace Go.Ev
open Go.RowKit

/-- Names below N only. -/
def cut (μ : Nat → Option Loc) (N : Nat) : Nat → Option Loc := fun i => if i < N then μ i else none
theorem cut_some {μ : Nat → Option Loc} {N i : Nat} {p : Loc} : cut μ N i = some p ↔ i < N ∧ μ i = some p := by
  unfold cut; split
  · simp_all
  · constructor
    · intro h; cases h
    · intro h; omega
theorem cut_ext (μ : Nat → Option Loc) (N : Nat) : Ext (cut μ N) μ := fun _ _ h => (cut_some.1 h).2
theorem cut_mono (μ : Nat → Option Loc) {N M : Nat} (h : N ≤ M) : Ext (cut μ N) (cut μ M) := fun _ _ hi => by
  obtain ⟨a, b⟩ := cut_some.1 hi; exact cut_some.2 ⟨by omega, b⟩

theorem CellsAt.mono {μ μ' : Nat → Option Loc} {w : World} {p : Loc} {cs : List Value} {e : TypeId} {esz : Nat} {ro : Bool} (h : CellsAt μ w p cs e esz ro) (hx : Ext μ μ') : CellsAt μ' w p cs e esz ro := by
  obtain ⟨arr, fz, a, b, c, d, hv, f⟩ := h
  exact ⟨arr, fz, a, b, c, d, fun j v hj => let ⟨u, hu, hr⟩ := hv j v hj; ⟨u, hu, hr.mono hx⟩, f⟩

/-- Two heaps laid side by side: what a piece has made, among what was there. -/
theorem Rel.glue {α β : Nat → Option Loc} {Hk H1 : AHeap} {w w' : World} {lo : Nat} (hA : Rel α Hk w) (hB : Rel β H1 w') (hx : ∀ i, i < lo → β i = α i) (hα : ∀ i, lo ≤ i → i < H1.next → α i = none)
    (hw : ∀ b, b < w.heap.size → w'.heap[b]? = w.heap[b]?) (hβ : ∀ i p, lo ≤ i → β i = some p → w.heap.size ≤ p.b) (hg : ∀ i, i < H1.next → Hk.get i = H1.get i) (hle : H1.next ≤ Hk.next) :
    Rel (fun i => if lo ≤ i ∧ i < H1.next then β i else α i) Hk w' := by
  have ea : Ext α (fun i => if lo ≤ i ∧ i < H1.next then β i else α i) := fun i p hi => by
    show (if lo ≤ i ∧ i < H1.next then β i else α i) = some p
    by_cases h : lo ≤ i ∧ i < H1.next
    · rw [hα i h.1 h.2] at hi; cases hi
    · rw [if_neg h]; exact hi
  have eb : Ext β (fun i => if lo ≤ i ∧ i < H1.next then β i else α i) := fun i p hi => by
    show (if lo ≤ i ∧ i < H1.next then β i else α i) = some p
    by_cases h : lo ≤ i ∧ i < H1.next
    · rw [if_pos h]; exact hi
    · rw [if_neg h]
      by_cases h2 : i < lo
      · rw [← hx i h2]; exact hi
      · have : H1.next ≤ i := by omega
        rw [hB.fresh i this] at hi; cases hi
  have hA' := hA.world hw
  refine ⟨fun i hi => ?_, hA.below, hA.top, hA.mlt, fun i cs e esz m ro p hgi hp => ?_, fun i st pend F ps as_ bd p hgi hp => ?_, fun i p hgi hp => ?_, fun i j p q hij hgi hgj hp hq e => ?_⟩
  · show (if lo ≤ i ∧ i < H1.next then β i else α i) = none
    rw [if_neg (by omega)]; exact hA.fresh i hi
  · by_cases h : lo ≤ i ∧ i < H1.next
    · simp only [if_pos h] at hp
      exact (hB.cells i cs e esz m ro p ((hg i h.2).symm.trans hgi) hp).mono eb
    · simp only [if_neg h] at hp
      exact (hA'.cells i cs e esz m ro p hgi hp).mono ea
  · by_cases h : lo ≤ i ∧ i < H1.next
    · simp only [if_pos h] at hp
      obtain ⟨fn, tmps, D, a, b, c⟩ := hB.loops i st pend F ps as_ bd p ((hg i h.2).symm.trans hgi) hp
      exact ⟨fn, tmps, D, a, b.mono eb, c⟩
    · simp only [if_neg h] at hp
      obtain ⟨fn, tmps, D, a, b, c⟩ := hA'.loops i st pend F ps as_ bd p hgi hp
      exact ⟨fn, tmps, D, a, b.mono ea, c⟩
  · by_cases h : lo ≤ i ∧ i < H1.next
    · simp only [if_pos h] at hp
      exact hB.defs i p ((hg i h.2).symm.trans hgi) hp
    · simp only [if_neg h] at hp
      exact hA'.defs i p hgi hp
  · by_cases h : lo ≤ i ∧ i < H1.next
    · simp only [if_pos h] at hp
      by_cases k : lo ≤ j ∧ j < H1.next
      · simp only [if_pos k] at hq
        have e1 := hg i h.2
        have e2 := hg j k.2
        have := hB.excl i j p q hij (by rw [← e1]; exact hgi) (by rw [← e2]; exact hgj) hp hq e
        rwa [← AHeap.ro_congr e1, ← AHeap.ro_congr e2, ← AHeap.mate_congr e1, ← AHeap.mate_congr e2] at this
      · simp only [if_neg k] at hq
        have h1 := hβ i p h.1 hp
        have h2 := hA.live hgj hq
        omega
    · simp only [if_neg h] at hp
      by_cases k : lo ≤ j ∧ j < H1.next
      · simp only [if_pos k] at hq
        have h1 := hβ j q k.1 hq
        have h2 := hA.live hgi hp
        omega
      · simp only [if_neg k] at hq
        exact hA.excl i j p q hij hgi hgj hp hq e

/-- The state with the operations of L done, of those before T. -/
structure Inv (ops : Array Oper) (hs : Nat → AHeap) (vs : Nat → Value) (T : Nat) (μ0 : Nat → Option Loc) (w0 : World) (a0 : Act) (L : Array Bool) (a : Act) (w : World) (μ : Nat → Option Loc) : Prop where
  rel : ∀ k, k ≤ T → Rel (cut μ (hs k).next) (hs k) w
  only : ∀ i, i < (hs 0).next → μ i = μ0 i
  un : ∀ i, i < T → L.getD i false = false → ∀ d, (hs i).next ≤ d → d < (hs (i + 1)).next → μ d = none
  put : ∀ i d, i < T → L.getD i false = true → dstOf ops i = some d → VR (cut μ (hs (i + 1)).next) (vs i) (a.tmps.getD d undef)
  unput : ∀ d, (∀ i, i < T → L.getD i false = true → dstOf ops i ≠ some d) → a.tmps.getD d undef = a0.tmps.getD d undef
  size : a.tmps.size = a0.tmps.size
  defers : a.defers = a0.defers
  os : w.os = w0.os
  tape : w.tape = w0.tape
  output : w.output = w0.output
  grown : w0.heap.size ≤ w.heap.size
  still : ∀ b, b < w0.heap.size → w.heap[b]? = w0.heap[b]?
  news : ∀ i p, (hs 0).next ≤ i → μ i = some p → w0.heap.size ≤ p.b

section
variable {P : Program} {call : Call → TypeId → AFrame → AHeap → Option (Value × AHeap)} {ops : Array Oper}

theorem getD_set {L : Array Bool} {i k : Nat} (hi : i < L.size) : (L.setIfInBounds i true).getD k false = if k = i then true else L.getD k false := by
  simp only [Array.getD_eq_getD_getElem?]
  by_cases e : k = i
  · subst e; simp [hi]
  · rw [if_neg e, Array.getElem?_setIfInBounds_ne (Ne.symm e)]

theorem put_getD {a : Act} {d : Option Tmp} {v : Value} {t : Nat} : (a.put d v).tmps.getD t undef = if d = some t ∧ t < a.tmps.size then v else a.tmps.getD t undef := by
  cases d with
  | none => simp [Act.put]
  | some d =>
    simp only [Act.put, Array.getD_eq_getD_getElem?]
    by_cases e : d = t
    · subst e
      by_cases h : d < a.tmps.size
      · simp [h]
      · simp [h]
    · rw [Array.getElem?_setIfInBounds_ne e, if_neg (by simp [e])]

theorem put_defers {a : Act} {d : Option Tmp} {v : Value} : (a.put d v).defers = a.defers ∧ (a.put d v).tmps.size = a.tmps.size := by
  cases d <;> simp [Act.put]
end
end Go.Ev
