/-
  Part of the engine that the claim is proved with: it states nothing of the document by itself.
-/
import Derived.Test.YtgdbbaimkjmkgaaGreatDoorCoreSeC
import Derived.Test.YtgdbbaimkjmkgaaGreatDoorCoreEvI
import Derived.ChangeSlices
import Derived.WideShapes
import Derived.ProofKit
namespace Go.Ev
open Go.ChangeShapes Go.WideShapes Go.ChangeAt Go.RowKit

section
variable {P : Program} {W : World} {μ : Nat → Option Loc} {H : AHeap} {σ : Sig}

/-- The evaluator's heap stands for what the call reads of the world. -/
structure Link (W : World) (μ : Nat → Option Loc) (H : AHeap) (σ : Sig) : Prop where
  rel : Rel μ H W
  stab : Stab σ H
  low : H.next ≤ H.wlow
  ros : ∀ i, H.get i ≠ none → H.ro i = true
  sig : ∀ i, H.next ≤ i → σ i = none

theorem Link.empty (W : World) : Link W (fun _ => none) { t := .leaf, next := 0, wlow := UNK } (fun _ => none) where
  rel := Rel.empty W
  stab i c h := by cases h
  low := Nat.zero_le _
  ros i hi := absurd (by simp [AHeap.get, T.get_leaf]) hi
  sig i _ := rfl

/-- One more block. -/
theorem Link.push (L : Link W μ H σ) (cs : List Value) (e : TypeId) (z : Nat) (loc : Option Loc) (hc : ∀ p, loc = some p → CellsAt μ W p cs e z true) :
    ∃ μ' H' σ', Link W μ' H' σ' ∧ Ext μ μ' ∧ XS σ σ' ∧ μ' H.next = loc ∧ σ' H.next = some (cs, z) := by
  have hx : Ext μ (fun j => if j = H.next then loc else μ j) := fun i p hi => by
    have : i ≠ H.next := fun e => by rw [e, L.rel.fresh _ (Nat.le_refl _)] at hi; cases hi
    simp [this, hi]
  refine ⟨fun j => if j = H.next then loc else μ j, { (H.alloc (.cells cs e z none true)) with wlow := H.next + 1 }, fun j => if j = H.next then some (cs, z) else σ j, ?_, hx, ?_, by simp, by simp⟩
  · have hget : ∀ i, AHeap.get { (H.alloc (.cells cs e z none true)) with wlow := H.next + 1 } i = if i = H.next then some (.cells cs e z none true) else H.get i := fun i => AHeap.get_alloc (h := H)
    have hro : ∀ i, AHeap.get { (H.alloc (.cells cs e z none true)) with wlow := H.next + 1 } i ≠ none → AHeap.ro { (H.alloc (.cells cs e z none true)) with wlow := H.next + 1 } i = true := fun i hi => by
      by_cases h : i = H.next
      · unfold AHeap.ro; rw [hget, if_pos h]
      · have hg := hget i
        rw [if_neg h] at hg
        rw [AHeap.ro_congr hg]
        exact L.ros i (by rw [← hg]; exact hi)
    refine ⟨⟨?_, ?_, trivial, trivial, ?_, ?_, ?_, ?_⟩, ?_, Nat.le_refl _, hro, ?_⟩
    · intro i hi
      have hi' : H.next + 1 ≤ i := hi
      have h1 : i ≠ H.next := by omega
      simp only [h1, if_false]
      exact L.rel.fresh i (by omega)
    · intro i hi
      show i < H.next + 1
      by_cases h : i = H.next
      · omega
      · rw [hget, if_neg h] at hi
        have := L.rel.below i hi
        omega
    · intro i cs' e' esz m ro p hg hp
      rw [hget] at hg
      by_cases h : i = H.next
      · rw [if_pos h] at hg
        cases hg
        simp only [h, if_true] at hp
        obtain ⟨arr, fz, a1, a2, a3, a4, a5, a6⟩ := hc p hp
        exact ⟨arr, fz, a1, a2, a3, a4, fun j v hj => by obtain ⟨u, hu, hv⟩ := a5 j v hj; exact ⟨u, hu, hv.mono hx⟩, a6⟩
      · rw [if_neg h] at hg
        simp only [h, if_false] at hp
        obtain ⟨arr, fz, a1, a2, a3, a4, a5, a6⟩ := L.rel.cells i cs' e' esz m ro p hg hp
        exact ⟨arr, fz, a1, a2, a3, a4, fun j v hj => by obtain ⟨u, hu, hv⟩ := a5 j v hj; exact ⟨u, hu, hv.mono hx⟩, a6⟩
    · intro i st pend F ps as_ bd p hg hp
      rw [hget] at hg
      by_cases h : i = H.next
      · rw [if_pos h] at hg; cases hg
      · rw [if_neg h] at hg
        have := L.ros i (by rw [hg]; simp)
        unfold AHeap.ro at this
        rw [hg] at this
        cases this
    · intro i p hg hp
      rw [hget] at hg
      by_cases h : i = H.next
      · rw [if_pos h] at hg; cases hg
      · rw [if_neg h] at hg
        have := L.ros i (by rw [hg]; simp)
        unfold AHeap.ro at this
        rw [hg] at this
        cases this
    · intro i j p q _ hi hj _ _ _
      exact Or.inl ⟨hro i hi, hro j hj⟩
    · intro i c hi
      by_cases h : i = H.next
      · simp only [h, if_true, Option.some.injEq] at hi
        subst hi
        refine ⟨?_, e, none, true, ?_⟩
        · show i < H.next + 1; omega
        · rw [hget, if_pos h]
      · simp only [h, if_false] at hi
        obtain ⟨h1, e', m, ro, h2⟩ := L.stab i c hi
        refine ⟨?_, e', m, ro, ?_⟩
        · show i < H.next + 1; omega
        · rw [hget, if_neg h, h2]
    · intro i hi
      have hi' : H.next + 1 ≤ i := hi
      have h1 : i ≠ H.next := by omega
      simp only [h1, if_false]
      exact L.sig i (by omega)
  · intro i c hi
    have : i ≠ H.next := fun e => by rw [e, L.sig _ (Nat.le_refl _)] at hi; cases hi
    simp [this, hi]

/-- What one argument reads as: the evaluator's value for it. -/
def Reads (P : Program) (μ : Nat → Option Loc) (σ : Sig) (t : TypeId) (v : Value) : Prop := ∃ v0 d, VR μ v0 v ∧ ReadsA P σ t d [v0] ∧ (d = .nil ∨ ∃ l, d = .list l)

variable {Hh : Type} {enc : TypeId × Value → Hh} {base : Nat} {held : Bool}

theorem ints_arg {r : Reach} {b0 : Nat} {t e : TypeId} {k : IntKind} {v : Value} {d : DataW Hh} {ps : List MemPlace} (ht : P.underlying t = some (.slice e)) (he : P.underlying e = some (.int k)) (hc1 : P.cellsOf e = 1) (hs1 : sizeT P t = some 1) (hz : sizeT P e = some 1)
    (L : Link W μ H σ) (hval : Value.okWide P W r b0 t v) (hd : DataW.Trod enc P W base (fun _ => true) held t v d ps) :
    ∃ μ' H' σ' v0 D, Link W μ' H' σ' ∧ Ext μ μ' ∧ XS σ σ' ∧ VR μ' v0 v ∧ ReadsA P σ' t D [v0] ∧ (D = .nil ∨ ∃ l, D = .list l) := by
  obtain ⟨a0, len0, cap0, rfl⟩ := okWide_slice ht hval
  obtain ⟨fuel, hf⟩ := hd
  rcases open_ints ht he hc1 hf with ⟨h0, _⟩ | ⟨a, len, cap, zs, h0, _, hl, _, hlen, _, hcell, _⟩
  · simp only [Value.cells, List.cons.injEq, and_true] at h0
    rw [h0]
    exact ⟨μ, H, σ, .slice none 0 0, .nil, L, Ext.refl _, XS.refl _, .flat rfl, .nil ht hs1, Or.inl rfl⟩
  · simp only [Value.cells, List.cons.injEq, and_true] at h0
    simp only [if_true] at hlen
    rw [h0] at hval ⊢
    have hspot : a.spot = none := by
      simp only [Value.okWide, ht, Cell.okWide, Cell.ok, World.has] at hval
      exact hval.2.2.2.1
    obtain ⟨ab, ao, as_⟩ := a
    simp only at hspot
    subst hspot
    have hread : ∀ σ' : Sig, σ' H.next = some (zs.map (.int k), 1) → ReadsA P σ' t (.list ((zs.take len).map .int)) [.slice (some ⟨H.next, 0, none⟩) len UNK] := fun σ' hσ => by
      have e1 : ((zs.take len).map D.int).length = len := by simp; omega
      have := ReadsA.list (P := P) (σ := σ') (l := (zs.take len).map D.int) (i := H.next) (o := 0) (c := UNK) ht hs1 hz hσ (by rw [e1]; simp; omega) (Or.inl rfl) (fun j d hj => by
        simp only [List.getElem?_map, Option.map_eq_some_iff] at hj
        obtain ⟨n, hn, rfl⟩ := hj
        have hn' : zs[j]? = some n := by
          rw [List.getElem?_take] at hn
          split at hn
          · exact hn
          · cases hn
        have : ((zs.map (Value.int k)).drop (0 + j * 1)).take 1 = [.int k n] := by
          obtain ⟨hj1, hj2⟩ := List.getElem?_eq_some_iff.1 hn'
          rw [Nat.zero_add, Nat.mul_one, List.drop_eq_getElem_cons (by simpa using hj1)]
          simp [hj2]
        rw [this]
        exact .int he hz)
      rw [e1] at this
      exact this
    by_cases hcap : cap = 0
    · have hl0 : len = 0 := by omega
      obtain ⟨μ', H', σ', L', hx, hxs, _, hσ⟩ := L.push (zs.map (.int k)) 0 1 none (fun p h => by cases h)
      subst hl0; subst hcap
      exact ⟨μ', H', σ', _, _, L', hx, hxs, .slice0, hread σ' hσ, Or.inr ⟨_, rfl⟩⟩
    · have hat : ∀ i, i < cap → W.cell? ⟨ab, ao + i, none⟩ = some (.int k (zs.getD i 0)) := fun i hi => by
        have := hcell i (by omega)
        by_cases hi0 : i = 0
        · subst hi0; simpa [Addr.add] using this
        · simpa [Addr.add, hi0] using this
      have hblk : ∃ arr e' fz, W.heap[ab]? = some (.cells arr e' fz) := by
        have := hat 0 (by omega)
        unfold World.cell? at this
        split at this
        · rename_i c e' fz hh; exact ⟨c, e', fz, hh⟩
        · cases this
      obtain ⟨arr, e', fz, hb⟩ := hblk
      have hat' : ∀ i, i < cap → arr[ao + i]? = some (.int k (zs.getD i 0)) := fun i hi => by
        have := hat i hi
        unfold World.cell? at this
        simpa [hb] using this
      obtain ⟨μ', H', σ', L', hx, hxs, hμ, hσ⟩ := L.push (zs.map (.int k)) e' 1 (some ⟨ab, ao, cap, 1⟩) (fun p hp => by
        cases hp
        refine ⟨arr, fz, hb, ?_, by simp; omega, ⟨rfl, fun h => by cases h⟩, fun j v hj => ?_, fun h => by cases h⟩
        · have h1 := (Array.getElem?_eq_some_iff.1 (hat' (cap - 1) (by omega))).1
          show ao + cap ≤ arr.size
          omega
        · simp only [List.getElem?_map, Option.map_eq_some_iff] at hj
          obtain ⟨n, hn, rfl⟩ := hj
          have hj1 := (List.getElem?_eq_some_iff.1 hn).1
          refine ⟨_, hat' j (by omega), ?_⟩
          rw [List.getD_eq_getElem?_getD, hn]
          exact .flat rfl)
      refine ⟨μ', H', σ', _, _, L', hx, hxs, ?_, hread σ' hσ, Or.inr ⟨_, rfl⟩⟩
      have := VR.sliceU (i := H.next) (o := 0) (l := len) (c := cap) hμ hl (by simp)
      simpa using this

end
end Go.Ev
