/-
  Part of the engine that the claim is proved with: it states nothing of the document by itself.
-/
import Derived.Test.YtigckjhbmeameaaGreatDoorCoreEvS
import Derived.ChangeKeysEq
import Derived.Laws.Tables

namespace Go.Ev
open Go.RowKit

theorem val?_run (P : Program) {α : Type} {a : α} : ∀ (s : Sem α), s.val? P = some a → ∀ w, s.run P w = .ok a w := by
  intro s
  induction s with
  | pure b => intro h w; simp [Sem.val?] at h; subst h; rfl
  | program k ih => intro h w; exact ih P (by simpa [Sem.val?] using h) w
  | mark m k ih => intro h w; exact ih (by simpa [Sem.val?] using h) w
  | _ => intro h w; simp [Sem.val?] at h

section
variable {P : Program} {w : World}
theorem run_isAggT {t : TypeId} {b : Bool} (h : isAggT P t = some b) (w : World) : (isAgg t).run P w = .ok b w := by
  unfold isAggT at h
  cases hu : P.underlying t with
  | none => rw [hu] at h; cases h
  | some d =>
    rw [hu] at h
    simp only [isAgg, Sem.run_bind, run_underlying hu, Result.andThen_ok]
    cases d <;> simp_all
theorem run_sizeT {t : TypeId} {s : Nat} (h : sizeT P t = some s) (w : World) : (sizeOf t).run P w = .ok s w := by
  unfold sizeT at h
  cases hi : P.info? t with
  | none => rw [hi] at h; cases h
  | some i => rw [hi] at h; simp at h; simp [sizeOf, run_typeInfo _ hi, h]
theorem run_infoSize {t : TypeId} {i : TypeInfo} (h : P.info? t = some i) (w : World) : (sizeOf t).run P w = .ok i.size w :=
  run_sizeT (by simp [sizeT, h]) w
theorem run_zeroT {t : TypeId} {z : Value} (h : zeroT P t = some z) (w : World) : (zeroValue t).run P w = .ok z w := by
  unfold zeroT at h
  cases hi : P.info? t with
  | none => rw [hi] at h; cases h
  | some i => rw [hi] at h; simp at h; simp [zeroValue, run_typeInfo _ hi, h]
end

/-- An operation's value, in the world. -/
def OpOK (P : Program) (s : Sem Value) (v : Value) (μ : Nat → Option Loc) (H : AHeap) (w : World) (H' : AHeap) : Prop :=
  ∃ μ' v' w', s.run P w = .ok v' w' ∧ VR μ' v v' ∧ Post μ H w μ' H' w'

section
variable {P : Program} {μ : Nat → Option Loc} {H H' : AHeap} {w : World} {v : Value}

theorem OpOK.still {s : Sem Value} {v' : Value} (hr : Rel μ H w) (hs : s.run P w = .ok v' w) (hv : VR μ v v') : OpOK P s v μ H w H := ⟨μ, v', w, hs, hv, .refl hr⟩
theorem OpOK.of_flatVal {s : Sem Value} (hr : Rel μ H w) (h : flatVal P s H = some (v, H')) : OpOK P s v μ H w H' := by
  unfold flatVal at h
  cases hs : s.val? P with
  | none => rw [hs] at h; cases h
  | some u =>
    rw [hs] at h
    cases hf : Ev.flat u with
    | false => simp [hf] at h
    | true =>
      simp only [hf, cond_true, Option.some.injEq, Prod.mk.injEq] at h
      obtain ⟨rfl, rfl⟩ := h
      exact .still hr (val?_run P s hs w) (.of_flat hf)

/-- Lists, cell by cell. -/
def LR (μ : Nat → Option Loc) (cs cs' : List Value) : Prop := cs.length = cs'.length ∧ ∀ (j : Nat) (v v' : Value), cs[j]? = some v → cs'[j]? = some v' → VR μ v v'
theorem LR.mono {μ μ' : Nat → Option Loc} {cs cs' : List Value} (h : LR μ cs cs') (hx : Ext μ μ') : LR μ' cs cs' := ⟨h.1, fun j v v' a b => (h.2 j v v' a b).mono hx⟩
theorem LR.append {a a' b b' : List Value} (h : LR μ a a') (k : LR μ b b') : LR μ (a ++ b) (a' ++ b') := by
  refine ⟨by simp [h.1, k.1], fun j v v' hv hv' => ?_⟩
  by_cases hj : j < a.length
  · rw [List.getElem?_append_left hj] at hv
    rw [List.getElem?_append_left (h.1 ▸ hj)] at hv'
    exact h.2 j v v' hv hv'
  · rw [List.getElem?_append_right (by omega)] at hv
    rw [List.getElem?_append_right (by have := h.1; omega), ← h.1] at hv'
    exact k.2 _ v v' hv hv'
theorem LR.take {a a' : List Value} (h : LR μ a a') (n : Nat) : LR μ (a.take n) (a'.take n) := by
  refine ⟨by simp [h.1], fun j v v' hv hv' => ?_⟩
  simp only [List.getElem?_take] at hv hv'
  split at hv
  · rename_i hj
    rw [if_pos hj] at hv'
    exact h.2 j v v' hv hv'
  · cases hv
theorem LR.drop {a a' : List Value} (h : LR μ a a') (n : Nat) : LR μ (a.drop n) (a'.drop n) := by
  refine ⟨by simp [h.1], fun j v v' hv hv' => ?_⟩
  simp only [List.getElem?_drop] at hv hv'
  exact h.2 _ v v' hv hv'
theorem VR.one {v v' : Value} (h : VR μ v v') (h1 : oneCellB v = true) : v'.oneCell' = true := by
  cases h with
  | flat _ => cases v <;> simp_all [oneCellB, Value.oneCell']
  | agg _ _ => simp [oneCellB] at h1
  | tuple _ _ => simp [oneCellB] at h1
  | _ => rfl
theorem LR.oneCell {a a' : List Value} (h : LR μ a a') (h1 : a.all oneCellB = true) : ∀ v ∈ a', v.oneCell' = true := by
  intro v' hv'
  obtain ⟨j, hj, e⟩ := List.getElem_of_mem hv'
  have hv := List.getElem?_eq_getElem (l := a) (i := j) (by rw [h.1]; exact hj)
  have := h.2 j _ v' hv (by rw [← e]; exact List.getElem?_eq_getElem hj)
  exact this.one (List.all_eq_true.1 h1 _ (List.mem_of_getElem? hv))
theorem LR.flat {cs : List Value} (h : cs.all flat1 = true) : LR μ cs cs := ⟨rfl, fun j v v' hv hv' => by
  rw [hv] at hv'; cases hv'
  exact .flat (List.all_eq_true.1 h _ (List.mem_of_getElem? hv))⟩
/-- A value's cells. -/
theorem VR.cellsR {v v' : Value} (h : VR μ v v') : LR μ v.cells.toList v'.cells.toList := by
  have one : ∀ {v v' : Value}, VR μ v v' → LR μ [v] [v'] := fun h => ⟨rfl, fun j u u' hu hu' => by
    match j with
    | 0 => simp at hu hu'; subst hu; subst hu'; exact h
    | j + 1 => simp at hu⟩
  cases h with
  | agg h1 h2 => exact ⟨by simpa [Value.cells] using h1, fun j u u' hu hu' => h2 j u u' (by simpa [Value.cells] using hu) (by simpa [Value.cells] using hu')⟩
  | flat hf =>
    cases v with
    | agg cs => simp [flat1] at hf
    | _ => exact one (.flat hf)
  | ptr a => exact one (.ptr a)
  | slice a b c d => exact one (.slice a b c d)
  | sliceU a b c => exact one (.sliceU a b c)
  | slice0 => exact one .slice0
  | func a b c d => exact one (.func a b c d)
  | yield a => exact one (.yield a)
  | iface a => exact one (.iface a)
  | tuple a b => exact one (.tuple a b)
theorem flat_cells {z : Value} (h : Ev.flat z = true) : z.cells.toList.all flat1 = true := by
  cases z with
  | agg cs => simpa [Ev.flat, Value.cells] using h
  | _ => simpa [Ev.flat, Value.cells] using h

/-- A new row, with room or not. -/
theorem newRow_post {cs : List Value} {e : TypeId} {esz i : Nat} {h' : AHeap} (hr : Rel μ H w) (h : newRowA H cs e esz = some (i, h')) {cs' : List Value} (hcs : LR μ cs cs') (more : Array Value) :
    i = H.next ∧ Post μ H w (fun j => if j = H.next then some ⟨w.heap.size, 0, cs'.length + more.size, esz⟩ else μ j) h' (w.alloc (.cells (cs'.toArray ++ more) e)) ∧ cs.all oneCellB = true := by
  unfold newRowA at h
  cases h1 : cs.all oneCellB with
  | false => simp [h1] at h
  | true =>
      simp only [h1, cond_true, forceNat_eq, Option.some.injEq, Prod.mk.injEq] at h
      obtain ⟨rfl, rfl⟩ := h
      refine ⟨rfl, Post.new hr (.cells cs e esz none false) _ ⟨w.heap.size, 0, cs'.length + more.size, esz⟩ rfl (fun μ' hx => ⟨rfl, cs'.toArray ++ more, (0, 0), rfl, by simp, ?_, ⟨rfl, fun _ => rfl⟩, ?_, fun _ => rfl⟩), rfl⟩
      · have := hcs.1; show cs.length ≤ cs'.length + more.size; omega
      · intro j v hv
        have hj : j < cs.length := (List.getElem?_eq_some_iff.1 hv).1
        have hj' : j < cs'.length := hcs.1 ▸ hj
        refine ⟨cs'[j], ?_, (hcs.2 j v _ hv (List.getElem?_eq_getElem hj')).mono hx⟩
        rw [Nat.zero_add, Array.getElem?_append_left (by simpa using hj')]
        simp [hj']

theorem newVar_ok {e : TypeId} {i : Nat} {h' : AHeap} {v' : Value} {cs : List Value} (hr : Rel μ H w) (h : newRowA H cs e 0 = some (i, h')) (hv : LR μ cs v'.cells.toList) :
    OpOK P (do pure (.pointer (some (← newVar e v')))) (.pointer (some ⟨i, 0, none⟩)) μ H w h' := by
  obtain ⟨rfl, hp, _⟩ := newRow_post hr h hv #[]
  refine ⟨_, .pointer (some ⟨w.heap.size, 0, none⟩), _, ?_, ?_, hp⟩
  · simp [newVar, newRow]
  · have := VR.ptr (μ := fun j => if j = H.next then some (⟨w.heap.size, 0, v'.cells.toList.length + (#[] : Array Value).size, 0⟩ : Loc) else μ j) (i := H.next) (o := 0) (if_pos rfl)
    exact this

/-! ### Loads and stores -/
theorem cells_get {i : Nat} {cs : List Value} (h : H.cells i = some cs) : ∃ e esz m ro, H.get i = some (.cells cs e esz m ro) := by
  unfold AHeap.cells at h
  split at h
  · rename_i cs' e esz m ro hg
    cases h
    exact ⟨e, esz, m, ro, hg⟩
  · cases h

theorem VR.ptr_inv {i o : Nat} {v' : Value} (h : VR μ (.pointer (some ⟨i, o, none⟩)) v') : ∃ p, μ i = some p ∧ v' = .pointer (some ⟨p.b, p.base + o, none⟩) := by
  cases h with
  | flat h => simp [flat1] at h
  | ptr h => exact ⟨_, h, rfl⟩

theorem cell_at {b o : Nat} {arr : Array Value} {e : TypeId} {fz : Nat × Nat} (h : w.heap[b]? = some (.cells arr e fz)) : w.cell? ⟨b, o, none⟩ = arr[o]? := by
  simp [World.cell?, h]
theorem add_at (b o j : Nat) : (⟨b, o, none⟩ : Addr).add j = ⟨b, o + j, none⟩ := by unfold Addr.add; split <;> simp_all

/-- The cells of a part of a block. -/
theorem cells_part {i o n : Nat} {cs : List Value} {p : Loc} (hr : Rel μ H w) (h : H.cells i = some cs) (hp : μ i = some p) (hn : o + n ≤ cs.length) :
    ∃ us : List Value, us.length = n ∧ LR μ ((cs.drop o).take n) us ∧ ∀ (j : Nat) (u : Value), us[j]? = some u → w.cell? ((⟨p.b, p.base + o, none⟩ : Addr).add j) = some u := by
  obtain ⟨e, esz, m, ro, hg⟩ := cells_get h
  obtain ⟨arr, fz, ha, h1, h2, _, h4, _⟩ := hr.cells _ _ _ _ _ _ _ hg hp
  refine ⟨((arr.toList.drop (p.base + o)).take n), by simp; omega, ⟨by simp; omega, fun j v v' hv hv' => ?_⟩, fun j u hu => ?_⟩
  · simp only [List.getElem?_take, List.getElem?_drop] at hv hv'
    split at hv
    · rename_i hj
      rw [if_pos hj] at hv'
      obtain ⟨u, hu, hvu⟩ := h4 _ _ hv
      rw [show p.base + o + j = p.base + (o + j) by omega] at hv'
      have : arr[p.base + (o + j)]? = some v' := by simpa using hv'
      rw [this] at hu; cases hu
      exact hvu
    · cases hv
  · simp only [List.getElem?_take, List.getElem?_drop] at hu
    split at hu
    · rw [add_at, cell_at ha]; simpa using hu
    · cases hu

theorem run_loadCells_part {a : Addr} {us : List Value} {n : Nat} (hn : us.length = n) (h : ∀ (j : Nat) (u : Value), us[j]? = some u → w.cell? (a.add j) = some u) : (loadCells a n).run P w = .ok us.toArray w := by
  subst hn; exact run_loadCells_list w a us h

theorem VR.aggL {cs : List Value} {us : List Value} (h : LR μ cs us) : VR μ (.agg cs.toArray) (.agg us.toArray) :=
  .agg (by simpa using h.1) fun i v v' hv hv' => h.2 i v v' (by simpa using hv) (by simpa using hv')

theorem loadA_ok {t : TypeId} {a a' : Value} (hr : Rel μ H w) (h : loadA P H t a = some v) (ha : VR μ a a') : ∃ v', (∃ ad, a' = .pointer (some ad) ∧ (loadVar t ad).run P w = .ok v' w) ∧ VR μ v v' := by
  unfold loadA at h
  split at h
  · rename_i i o
    obtain ⟨p, hp, rfl⟩ := ha.ptr_inv
    split at h
    · rename_i cs hc hagg
      obtain ⟨us, hus, hl, hcell⟩ := cells_part (n := 1) hr hc hp (o := o) (by have := (List.getElem?_eq_some_iff.1 h).1; omega)
      have h0 : us[0]? = some (us[0]'(by omega)) := List.getElem?_eq_getElem _
      have hv : ((cs.drop o).take 1)[0]? = some v := by simpa using h
      refine ⟨us[0]'(by omega), ⟨_, rfl, ?_⟩, hl.2 0 _ _ hv h0⟩
      have := hcell 0 _ h0
      rw [add_at] at this
      simp only [loadVar, Sem.run_bind, run_isAggT hagg, Result.andThen_ok, Bool.false_eq_true, if_false, run_load]
      rw [show (⟨p.b, p.base + o, none⟩ : Addr) = ⟨p.b, p.base + o + 0, none⟩ from rfl, this]
    · rename_i cs hc hagg
      split at h
      · rename_i s hs
        cases hle : Nat.ble (o + s) cs.length with
        | false => simp [hle] at h
        | true =>
          have hle' := Nat.le_of_ble_eq_true hle
          simp only [hle, cond_true, Option.some.injEq] at h
          subst h
          obtain ⟨us, hus, hl, hcell⟩ := cells_part hr hc hp hle'
          refine ⟨.agg us.toArray, ⟨_, rfl, ?_⟩, .aggL hl⟩
          simp only [loadVar, Sem.run_bind, run_isAggT hagg, Result.andThen_ok, if_true, run_sizeT hs, run_loadCells_part hus hcell, Sem.run_pure]
      · cases h
    · cases h
  · cases h

/-- Cells of a block of the call's own are written. -/
theorem writeCells_ok {i o : Nat} {vs us : List Value} {p : Loc} (hr : Rel μ H w) (h : writeCells H i o vs = some H') (hp : μ i = some p) (hvs : LR μ vs us) :
    ∃ w', (storeCells ⟨p.b, p.base + o, none⟩ us).run P w = .ok () w' ∧ Post μ H w μ H' w' := by
  unfold writeCells at h
  split at h
  · rename_i cs e esz m hg
    cases hc : (Nat.ble (o + vs.length) cs.length && vs.all oneCellB) with
    | false => simp [hc] at h
    | true =>
      simp only [hc, cond_true, Option.some.injEq] at h
      subst h
      simp only [Bool.and_eq_true] at hc
      have hle := Nat.le_of_ble_eq_true hc.1
      obtain ⟨arr, fz, ha, h1, h2, h3, h4, h5⟩ := hr.cells _ _ _ _ _ _ _ hg hp
      have hfz := h5 rfl
      subst hfz
      have hl := hvs.1
      refine ⟨_, run_storeCells_at P p.b (p.base + o) e us 0 arr w ha (by omega) (hvs.oneCell hc.2), ?_⟩
      have hm : H.mate i = m := by unfold AHeap.mate; rw [hg]
      have hlt : p.b < w.heap.size := (Array.getElem?_eq_some_iff.1 ha).1
      have hsp : ∀ (j : Nat) (v : Value), (spliceL cs o vs)[j]? = some v → ∃ u, (arr.toList.take (p.base + o + 0) ++ us ++ arr.toList.drop (p.base + o + 0 + us.length)).toArray[p.base + j]? = some u ∧ VR μ v u := by
        intro j v hv
        simp only [spliceL, List.append_assoc, Nat.add_zero] at hv ⊢
        by_cases hj : j < o
        · rw [List.getElem?_append_left (by simp; omega)] at hv
          simp only [List.getElem?_take, if_pos hj] at hv
          obtain ⟨u, hu, hvu⟩ := h4 j v hv
          refine ⟨u, ?_, hvu⟩
          simp only [List.getElem?_toArray]
          rw [List.getElem?_append_left (by simp; omega)]
          simp only [List.getElem?_take, if_pos (show p.base + j < p.base + o by omega)]
          simpa using hu
        · rw [List.getElem?_append_right (by simp; omega)] at hv
          have e1 : (cs.take o).length = o := by simp; omega
          rw [e1] at hv
          have e2 : (arr.toList.take (p.base + o)).length = p.base + o := by simp; omega
          by_cases hj2 : j - o < vs.length
          · rw [List.getElem?_append_left hj2] at hv
            have hj3 : j - o < us.length := by omega
            refine ⟨us[j - o], ?_, hvs.2 _ _ _ hv (List.getElem?_eq_getElem hj3)⟩
            simp only [List.getElem?_toArray]
            rw [List.getElem?_append_right (by rw [e2]; omega), e2, List.getElem?_append_left (by omega), show p.base + j - (p.base + o) = j - o by omega]
            exact List.getElem?_eq_getElem hj3
          · rw [List.getElem?_append_right (by omega), List.getElem?_drop] at hv
            rw [show o + vs.length + (j - o - vs.length) = j by omega] at hv
            obtain ⟨u, hu, hvu⟩ := h4 j v hv
            refine ⟨u, ?_, hvu⟩
            simp only [List.getElem?_toArray]
            rw [List.getElem?_append_right (by rw [e2]; omega), e2, List.getElem?_append_right (by omega), List.getElem?_drop, show p.base + o + us.length + (p.base + j - (p.base + o) - us.length) = p.base + j by omega]
            simpa using hu
      have := Post.turn (w' := w.setRow p.b (arr.toList.take (p.base + o + 0) ++ us ++ arr.toList.drop (p.base + o + 0 + us.length)).toArray) hr hg (by unfold AHeap.ro; rw [hg])
        (some (.cells (spliceL cs o vs) e esz none false)) rfl rfl rfl (by simp [World.setRow]) (fun b hb => by simp [World.setRow, Array.getElem?_modify, Ne.symm (hb p hp)])
        (fun _ _ _ _ _ h => by cases h; rfl)
        (fun q hq => by rw [hp] at hq; cases hq; exact ⟨_, (0, 0), setRow_heap w p.b arr _ e (0, 0) ha, by simp; omega, by simp [spliceL]; omega, h3, hsp, fun _ => rfl⟩)
      rwa [hm] at this
  · cases h

theorem storeA_ok {t : TypeId} {a a' x x' : Value} (hr : Rel μ H w) (h : storeA P H t a x = some H') (ha : VR μ a a') (hx : VR μ x x') :
    ∃ w', (Instr.storeAt t a' x').run P w = .ok () w' ∧ Post μ H w μ H' w' := by
  unfold storeA at h
  split at h
  · rename_i i o
    obtain ⟨p, hp, rfl⟩ := ha.ptr_inv
    split at h
    · rename_i s hs
      cases hq : Nat.beq x.cells.size s with
      | false => simp [hq] at h
      | true =>
        simp only [hq, cond_true] at h
        have hs' := Nat.eq_of_beq_eq_true hq
        have hc := hx.cellsR
        obtain ⟨w', hrun, hpost⟩ := writeCells_ok (P := P) hr h hp hc
        refine ⟨w', ?_, hpost⟩
        have hsz : x'.cells.size = s := by rw [← hs']; have := hc.1; simpa using this.symm
        simp only [Instr.storeAt, Instr.sureAddr, Sem.run_bind, Sem.run_pure, Result.andThen_ok, storeVar, run_sizeT hs, hsz, ne_eq, not_true_eq_false, if_false]
        simpa using hrun
    · cases h
  · cases h
end
end Go.Ev
