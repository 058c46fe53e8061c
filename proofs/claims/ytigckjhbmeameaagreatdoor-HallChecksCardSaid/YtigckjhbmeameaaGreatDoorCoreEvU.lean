/-
  Part of the engine that the claim is proved with: it states nothing of the document by itself.
-/
import Derived.Test.YtigckjhbmeameaaGreatDoorCoreEvT
import Derived.Deep.AppendSrc
import Derived.Laws.IdiomCopy

namespace Go.Ev
open Go.RowKit
section
variable {P : Program} {μ : Nat → Option Loc} {H H' : AHeap} {w : World} {v : Value}

/-! ### append, copy -/
theorem LR.nil : LR μ [] [] := ⟨rfl, fun j v v' hv => by simp at hv⟩
theorem srcA_ok {size n : Nat} {x x' : Value} {new : List Value} {tx : TypeId} (hr : Rel μ H w) (h : srcA H size x = some (n, new)) (hx : VR μ x x')
    (hk : (∃ e', P.underlying tx = some (.slice e')) ∨ P.underlying tx = some .string) :
    ∃ us : List Value, LR μ new us ∧ us.length = n * size ∧ ((∀ u ∈ us, u.oneCell' = true) → Src P size tx x' n us w) := by
  unfold srcA at h
  split at h
  · rename_i n' c
    obtain ⟨rfl, rfl⟩ := nil_of_none hx
    simp at h
    obtain ⟨rfl, rfl⟩ := h
    exact ⟨[], .nil, by simp, fun h1 => ⟨hk, fun _ => rfl, run_firstCells_none w size 0 0 c, run_firstCells_none w.drew size 0 0 c, by simp, h1⟩⟩
  · rename_i j o n' c
    cases hn : Nat.beq n' 0 with
    | true =>
      simp only [hn, cond_true, Option.some.injEq, Prod.mk.injEq] at h
      obtain ⟨rfl, rfl⟩ := h
      have := Nat.eq_of_beq_eq_true hn; subst this
      obtain ⟨ad, c', rfl⟩ : ∃ ad c', x' = .slice (some ad) 0 c' := by
        rcases hx.slice_inv with ⟨p, c', _, rfl, _⟩ | ⟨_, _, a, rfl⟩ <;> exact ⟨_, _, rfl⟩
      exact ⟨[], .nil, by simp, fun h1 => ⟨hk, fun _ => rfl, run_firstCells_some w size 0 ad 0 c' [] (by simp) (by simp), run_firstCells_some w.drew size 0 ad 0 c' [] (by simp) (by simp), by simp, h1⟩⟩
    | false =>
      simp only [hn, cond_false] at h
      split at h
      · rename_i cs hc
        cases hle : Nat.ble (o + n' * size) cs.length with
        | false => simp [hle] at h
        | true =>
          simp only [hle, cond_true, Option.some.injEq, Prod.mk.injEq] at h
          obtain ⟨rfl, rfl⟩ := h
          have hn0 : n' ≠ 0 := fun e => by subst e; simp at hn
          rcases hx.slice_inv with ⟨p, c', hp, rfl, _⟩ | ⟨rfl, _⟩
          · obtain ⟨us, hus, hl, hcell⟩ := cells_part hr hc hp (Nat.le_of_ble_eq_true hle)
            exact ⟨us, hl, hus, fun h1 => ⟨hk, fun _ => rfl, run_firstCells_some w size n' _ n' c' us hus hcell, run_firstCells_some w.drew size n' _ n' c' us hus (fun j u hu => hcell j u hu), hus, h1⟩⟩
          · exact absurd rfl hn0
      · cases h
  · rename_i b
    cases hs : Nat.beq size 1 with
    | false => simp [hs] at h
    | true =>
      have := Nat.eq_of_beq_eq_true hs; subst this
      simp only [hs, cond_true, Option.some.injEq, Prod.mk.injEq] at h
      obtain ⟨rfl, rfl⟩ := h
      have := hx.eq1 rfl; subst this
      refine ⟨byteCells b, LR.flat ?_, by rw [byteCells_length, Nat.mul_one], fun h1 => ⟨hk, fun _ => rfl, firstCells_string b w, firstCells_string b w.drew, by rw [byteCells_length, Nat.mul_one], h1⟩⟩
      rw [List.all_eq_true]
      intro u hu
      obtain ⟨_, _, rfl⟩ := List.mem_map.1 hu
      rfl
  · cases h

theorem grow_le (need cap : Nat) (h : need ≤ 16777216) (hc : cap < need) : Builtin.nextslicecap need cap ≤ 33554432 := by
  have := nextslicecap_le hc; omega
theorem bytes_le {a b : Nat} (ha : a ≤ 33554432) (hb : b ≤ 4096) : a * b ≤ 281474976710656 := by
  have := Nat.mul_le_mul ha hb
  omega

/-- The cells of a slice, in a world whose heap is the same. -/
theorem olds_ok {i o l c esz : Nat} {cs : List Value} {e : TypeId} {m : Option Nat} {ro : Bool} {s' : Value} (hr : Rel μ H w) (hg : H.get i = some (.cells cs e esz m ro)) (hs : VR μ (.slice (some ⟨i, o, none⟩) l c) s') (hle : o + l * esz ≤ cs.length) :
    ∃ olds : List Value, LR μ ((cs.drop o).take (l * esz)) olds ∧ olds.length = l * esz ∧ (Builtin.firstCells esz l s').run P w.drew = .ok olds.toArray w.drew := by
  rcases hs.slice_inv with ⟨p, c', hp, rfl, _⟩ | ⟨rfl, _, a, rfl⟩
  · have hc : H.cells i = some cs := by unfold AHeap.cells; rw [hg]
    obtain ⟨us, hus, hl, hcell⟩ := cells_part hr hc hp hle
    exact ⟨us, hl, hus, run_firstCells_some w.drew esz l _ l c' us hus (fun j u hu => hcell j u hu)⟩
  · exact ⟨[], by simpa using LR.nil, by simp, run_firstCells_some w.drew esz 0 a 0 0 [] (by simp) (by simp)⟩

theorem appNew_ok {elem t tx ty : TypeId} {inf : TypeInfo} {z x' : Value} {l n c : Nat} {base : Option Addr} {oldsA new olds us : List Value} (hr : Rel μ H w) (ht : P.underlying t = some (.slice elem)) (hi : P.info? elem = some inf) (hz : inf.zero = some z)
    (hzs : z.cells.size = inf.size) (hby : inf.bytes ≤ 4096)
    (h : appNew H elem inf.size (oldsA ++ new) (l + n) = some (v, H')) (hold : (Builtin.firstCells inf.size l (.slice base l c)).run P w.drew = .ok olds.toArray w.drew) (ho : LR μ oldsA olds) (hol : olds.length = l * inf.size)
    (hn : LR μ new us) (hul : us.length = n * inf.size) (hsrc : (∀ u ∈ us, u.oneCell' = true) → Src P inf.size tx x' n us w) (hgt : c < l + n) (hbig : l + n ≤ 16777216) :
    OpOK P (Builtin.append_ #[t, tx] ty #[.slice base l c, x']) v μ H w H' := by
  unfold appNew at h
  split at h
  · rename_i i h2 hrow
    simp only [Option.some.injEq, Prod.mk.injEq] at h
    obtain ⟨rfl, rfl⟩ := h
    obtain ⟨rfl, hp, hone⟩ := newRow_post (w := w.drew) (hr.drew _) hrow (ho.append hn) (Builtin.zeroCells z.cells (grownCap w (l + n) c elem - (l + n)))
    have hone2 : new.all oneCellB = true := by
      rw [List.all_append, Bool.and_eq_true] at hone; exact hone.2
    have hs := hsrc (hn.oneCell hone2)
    have hrun := run_append_grow_src (P := P) w t tx ty elem inf z ht hi hz base l c olds hold x' n us hs hgt (by omega) (bytes_le (grow_le _ _ hbig hgt) hby)
    have hge := grownCap_ge w (l + n) c elem
    refine ⟨_, _, _, hrun, ?_, Post.drew _ hp⟩
    refine VR.sliceU (p := ⟨w.heap.size, 0, (olds ++ us).length + (Builtin.zeroCells z.cells (grownCap w (l + n) c elem - (l + n))).size, inf.size⟩) (if_pos rfl) hge ?_
    show 0 + grownCap w (l + n) c elem * inf.size ≤ (olds ++ us).length + (Builtin.zeroCells z.cells (grownCap w (l + n) c elem - (l + n))).size
    rw [size_zeroCells, hzs, List.length_append, hol, hul, Nat.sub_mul, Nat.add_mul]
    have := Nat.mul_le_mul_right inf.size hge
    rw [Nat.add_mul] at this
    omega
  · cases h
end
end Go.Ev
