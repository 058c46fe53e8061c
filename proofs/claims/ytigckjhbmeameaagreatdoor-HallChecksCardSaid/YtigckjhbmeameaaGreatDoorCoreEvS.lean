/-
  Part of the engine that the claim is proved with: it states nothing of the document by itself.
-/
import Derived.Test.YtigckjhbmeameaaGreatDoorCoreEvR

namespace Go.Ev
open Go.RowKit

/-! ### Frames -/
def FR (μ : Nat → Option Loc) (F : AFrame) (tmps : Array Value) : Prop :=
  F.size = tmps.size ∧ F.size ≤ TOP ∧ ∀ t, VR μ (F.get t) (tmps.getD t undef)

theorem FR.mono {μ μ' : Nat → Option Loc} {F : AFrame} {tmps : Array Value} (h : FR μ F tmps) (hx : Ext μ μ') : FR μ' F tmps :=
  ⟨h.1, h.2.1, fun t => (h.2.2 t).mono hx⟩

theorem AFrame.get_eq (F : AFrame) (t : Nat) : F.get t = (F.t.get t).getD undef := by unfold AFrame.get; split <;> simp_all

theorem FR.put {μ : Nat → Option Loc} {F F' : AFrame} {a : Act} {v v' : Value} {d : Option Tmp} (h : FR μ F a.tmps) (hv : VR μ v v') (hp : F.put d v = some F') :
    FR μ F' (a.put d v').tmps ∧ F'.marks = F.marks := by
  cases d with
  | none => simp [AFrame.put] at hp; subst hp; exact ⟨h, rfl⟩
  | some d =>
    simp only [AFrame.put] at hp
    cases hlt : Nat.blt d F.size with
    | false => rw [hlt] at hp; cases hp
    | true =>
      rw [hlt] at hp
      have hlt' : Nat.succ d ≤ F.size := Nat.le_of_ble_eq_true hlt
      simp only [cond_true, Option.some.injEq] at hp
      subst hp
      refine ⟨⟨by simpa [Act.put] using h.1, h.2.1, fun t => ?_⟩, rfl⟩
      have hb := h.2.1
      rw [AFrame.get_eq]
      simp only [T.get_set40 (some v) F.t d t (Nat.le_trans (Nat.le_of_lt hlt') hb)]
      by_cases e : t = d
      · subst e
        simp only [if_true, Option.getD_some, Act.put]
        have : t < a.tmps.size := by rw [← h.1]; exact hlt'
        simpa [Array.getD_eq_getD_getElem?, this] using hv
      · rw [if_neg e, ← AFrame.get_eq]
        have := h.2.2 t
        simp only [Act.put, Array.getD_eq_getD_getElem?] at this ⊢
        rw [Array.getElem?_setIfInBounds_ne (Ne.symm e)]
        exact this

/-! ### The heap -/
noncomputable def AHeap.mate (h : AHeap) (i : Nat) : Option Nat := match h.get i with | some (.cells _ _ _ m _) => m | _ => none
noncomputable def AHeap.ro (h : AHeap) (i : Nat) : Bool := match h.get i with | some (.cells _ _ _ _ ro) => ro | _ => false

theorem AHeap.ro_congr {h h' : AHeap} {i : Nat} (e : h.get i = h'.get i) : h.ro i = h'.ro i := by unfold AHeap.ro; rw [e]
theorem AHeap.mate_congr {h h' : AHeap} {i : Nat} (e : h.get i = h'.get i) : h.mate i = h'.mate i := by unfold AHeap.mate; rw [e]

def CellsAt (μ : Nat → Option Loc) (w : World) (p : Loc) (cs : List Value) (e : TypeId) (esz : Nat) (ro : Bool) : Prop :=
  ∃ (arr : Array Value) (fz : Nat × Nat), w.heap[p.b]? = some (.cells arr e fz) ∧ p.base + p.n ≤ arr.size ∧ cs.length ≤ p.n ∧ (p.esz = esz ∧ (esz = 0 → p.base = 0)) ∧
    (∀ j v, cs[j]? = some v → ∃ u, arr[p.base + j]? = some u ∧ VR μ v u) ∧ (ro = false → fz = (0, 0))

/-- Constants without pointers, and nothing that is not served. -/
noncomputable def okOpB : Op → Bool
  | .defer _ | .select _ _ | .go _ | .recv _ _ _ | .send _ _ => false
  | o => o.operands.toList.all okOperand
noncomputable def okCode : Code → Bool
  | .region _ ops _ => ops.toList.all fun o => okOpB o.op
  | .seq a b => okCode a && okCode b
  | .cond c a b => okOperand c && okCode a && okCode b
  | .block _ b | .loop b | .scope b => okCode b
  | .rangeFunc f _ a b => okOperand f && okCode a && okCode b
  | _ => true

structure Rel (μ : Nat → Option Loc) (H : AHeap) (w : World) : Prop where
  fresh : ∀ i, H.next ≤ i → μ i = none
  below : ∀ i, H.get i ≠ none → i < H.next
  top : True
  mlt : True
  cells : ∀ i cs e esz m ro p, H.get i = some (.cells cs e esz m ro) → μ i = some p → CellsAt μ w p cs e esz ro
  loops : ∀ i st pend F params assign body p, H.get i = some (.loop st pend F params assign body) → μ i = some p →
    ∃ fn tmps D, w.heap[p.b]? = some (.loop { state := st, pending := pend, fn, tmps, params, assign, body, defers := D }) ∧ FR μ F tmps ∧ okCode assign = true ∧ okCode body = true
  defs : ∀ i p, H.get i = some .deferred → μ i = some p → w.heap[p.b]? = some (.deferred (some []))
  excl : ∀ i j p q, i ≠ j → H.get i ≠ none → H.get j ≠ none → μ i = some p → μ j = some q → p.b = q.b →
    (H.ro i = true ∧ H.ro j = true) ∨ (H.mate i = some j ∧ H.mate j = some i)

theorem Rel.live {μ : Nat → Option Loc} {H : AHeap} {w : World} (h : Rel μ H w) {i : Nat} {p : Loc} (hi : H.get i ≠ none) (hp : μ i = some p) : p.b < w.heap.size := by
  have key : ∃ o, w.heap[p.b]? = some o := by
    cases hg : H.get i with
    | none => exact absurd hg hi
    | some bk =>
      cases bk with
      | cells cs e esz m ro => obtain ⟨arr, fz, ha, _⟩ := h.cells _ _ _ _ _ _ _ hg hp; exact ⟨_, ha⟩
      | loop st pend F ps as_ bd => obtain ⟨fn, tmps, D, ha, _⟩ := h.loops _ _ _ _ _ _ _ _ hg hp; exact ⟨_, ha⟩
      | deferred => exact ⟨_, h.defs _ _ hg hp⟩
  obtain ⟨o, ho⟩ := key
  exact (Array.getElem?_eq_some_iff.1 ho).1

/-- The world has turned above what was there. -/
theorem Rel.world {μ : Nat → Option Loc} {H : AHeap} {w w' : World} (h : Rel μ H w) (hw : ∀ b, b < w.heap.size → w'.heap[b]? = w.heap[b]?) : Rel μ H w' where
  fresh := h.fresh
  below := h.below
  top := h.top
  mlt := h.mlt
  cells i cs e esz m ro p hg hp := by
    obtain ⟨arr, fz, ha, rest⟩ := h.cells i cs e esz m ro p hg hp
    exact ⟨arr, fz, (hw _ (h.live (by rw [hg]; simp) hp)).trans ha, rest⟩
  loops i st pend F ps as_ bd p hg hp := by
    obtain ⟨fn, tmps, D, ha, rest⟩ := h.loops i st pend F ps as_ bd p hg hp
    exact ⟨fn, tmps, D, (hw _ (h.live (by rw [hg]; simp) hp)).trans ha, rest⟩
  defs i p hg hp := (hw _ (h.live (by rw [hg]; simp) hp)).trans (h.defs i p hg hp)
  excl := h.excl

theorem Rel.wlow {μ : Nat → Option Loc} {H : AHeap} {w : World} (h : Rel μ H w) (n : Nat) : Rel μ { H with wlow := n } w :=
  ⟨h.fresh, h.below, h.top, h.mlt, h.cells, h.loops, h.defs, h.excl⟩
theorem Rel.drew {μ : Nat → Option Loc} {H : AHeap} {w : World} (h : Rel μ H w) (n : Nat) : Rel μ H { w with drawn := n } :=
  ⟨h.fresh, h.below, h.top, h.mlt, h.cells, h.loops, h.defs, h.excl⟩

/-- What a piece of the program has done. -/
structure Post (μ : Nat → Option Loc) (H : AHeap) (w : World) (μ' : Nat → Option Loc) (H' : AHeap) (w' : World) : Prop where
  ext : Ext μ μ'
  only : ∀ i, i < H.next → μ' i = μ i
  rel : Rel μ' H' w'
  os : w'.os = w.os
  tape : w'.tape = w.tape
  output : w'.output = w.output
  size : w.heap.size ≤ w'.heap.size
  low : H'.wlow ≤ H.wlow
  nxt : H.next ≤ H'.next
  old : ∀ i, i < H'.wlow → i < H.next → H'.get i = H.get i
  keep : ∀ T N, T ≤ H'.wlow → N ≤ w.heap.size → (∀ i p, T ≤ i → μ i = some p → N ≤ p.b) →
    (∀ b, b < N → w'.heap[b]? = w.heap[b]?) ∧ (∀ i p, T ≤ i → μ' i = some p → N ≤ p.b)

theorem Post.refl {μ : Nat → Option Loc} {H : AHeap} {w : World} (h : Rel μ H w) : Post μ H w μ H w :=
  ⟨.refl _, fun _ _ => rfl, h, rfl, rfl, rfl, Nat.le_refl _, Nat.le_refl _, Nat.le_refl _, fun _ _ _ => rfl, fun _ _ _ _ hN => ⟨fun _ _ => rfl, hN⟩⟩

theorem Post.trans {μ μ1 μ2 : Nat → Option Loc} {H H1 H2 : AHeap} {w w1 w2 : World} (h : Post μ H w μ1 H1 w1) (k : Post μ1 H1 w1 μ2 H2 w2) : Post μ H w μ2 H2 w2 where
  ext := h.ext.trans k.ext
  only i hi := (k.only i (Nat.lt_of_lt_of_le hi h.nxt)).trans (h.only i hi)
  rel := k.rel
  os := k.os.trans h.os
  tape := k.tape.trans h.tape
  output := k.output.trans h.output
  size := Nat.le_trans h.size k.size
  low := Nat.le_trans k.low h.low
  nxt := Nat.le_trans h.nxt k.nxt
  old i hi hn := (k.old i hi (Nat.lt_of_lt_of_le hn h.nxt)).trans (h.old i (Nat.lt_of_lt_of_le hi k.low) hn)
  keep T N hT hN hμ := by
    obtain ⟨h1, h2⟩ := h.keep T N (Nat.le_trans hT k.low) hN hμ
    obtain ⟨k1, k2⟩ := k.keep T N hT (Nat.le_trans hN h.size) h2
    exact ⟨fun b hb => (k1 b hb).trans (h1 b hb), k2⟩

theorem Post.drew {μ μ' : Nat → Option Loc} {H H' : AHeap} {w w' : World} (n : Nat) (h : Post μ H { w with drawn := n } μ' H' w') : Post μ H w μ' H' w' :=
  ⟨h.ext, h.only, h.rel, h.os, h.tape, h.output, h.size, h.low, h.nxt, h.old, h.keep⟩
theorem Post.drew' {μ μ' : Nat → Option Loc} {H H' : AHeap} {w w' : World} (n : Nat) (h : Post μ H w μ' H' w') : Post μ H w μ' H' { w' with drawn := n } :=
  ⟨h.ext, h.only, h.rel.drew n, h.os, h.tape, h.output, h.size, h.low, h.nxt, h.old, h.keep⟩

/-- Where nothing old was turned, all that was there lies as it lay. -/
theorem Post.quiet {μ μ' : Nat → Option Loc} {H H' : AHeap} {w w' : World} (hr : Rel μ H w) (h : Post μ H w μ' H' w') (hq : H.next ≤ H'.wlow) :
    (∀ b, b < w.heap.size → w'.heap[b]? = w.heap[b]?) ∧ (∀ i p, H.next ≤ i → μ' i = some p → w.heap.size ≤ p.b) :=
  h.keep H.next w.heap.size hq (Nat.le_refl _) (fun i p hi hp => by rw [hr.fresh i hi] at hp; cases hp)

/-! ### Changes of the evaluator's heap -/
theorem AHeap.get_alloc {h : AHeap} {bk : ABk} {i : Nat} : (h.alloc bk).get i = if i = h.next then some bk else h.get i := by
  simp only [AHeap.get, AHeap.alloc]
  exact T.get_setN (some bk) h.t h.next i
theorem AHeap.get_write {h : AHeap} {bk : Option ABk} {i j : Nat} : (h.write i bk).get j = if j = i then bk else h.get j := by
  simp only [AHeap.get, AHeap.write]
  exact T.get_setN bk h.t i j
theorem AHeap.wlow_write (h : AHeap) (i : Nat) (bk : Option ABk) : (h.write i bk).wlow ≤ h.wlow ∧ (h.write i bk).wlow ≤ i := by
  simp only [AHeap.write]
  cases hb : Nat.ble h.wlow i with
  | true => have := Nat.le_of_ble_eq_true hb; simp; omega
  | false =>
    have : ¬ h.wlow ≤ i := fun hle => by rw [Nat.ble_eq_true_of_le hle] at hb; cases hb
    simp; omega

/-- A new block. -/
theorem Post.new {μ : Nat → Option Loc} {H : AHeap} {w : World} (hr : Rel μ H w) (bk : ABk) (o : Obj) (p : Loc) (hb : p.b = w.heap.size)
    (hbk : ∀ μ', Ext μ μ' → match bk with
      | .cells cs e esz m ro => m = none ∧ ∃ (arr : Array Value) (fz : Nat × Nat), o = .cells arr e fz ∧ p.base + p.n ≤ arr.size ∧ cs.length ≤ p.n ∧ (p.esz = esz ∧ (esz = 0 → p.base = 0)) ∧
          (∀ j v, cs[j]? = some v → ∃ u, arr[p.base + j]? = some u ∧ VR μ' v u) ∧ (ro = false → fz = (0, 0))
      | .loop st pend F params assign body => ∃ fn tmps D, o = .loop { state := st, pending := pend, fn, tmps, params, assign, body, defers := D } ∧ FR μ' F tmps ∧ okCode assign = true ∧ okCode body = true
      | .deferred => o = .deferred (some [])) :
    Post μ H w (fun i => if i = H.next then some p else μ i) (H.alloc bk) (w.alloc o) := by
  have hx : Ext μ (fun i => if i = H.next then some p else μ i) := fun i q hi => by
    by_cases e : i = H.next
    · subst e; rw [hr.fresh _ (Nat.le_refl _)] at hi; cases hi
    · simp [e, hi]
  have hnew : (w.alloc o).heap[w.heap.size]? = some o := by show (w.heap.push o)[w.heap.size]? = _; simp
  have hold : ∀ b, b < w.heap.size → (w.alloc o).heap[b]? = w.heap[b]? := fun b hb => Below.heap_alloc w o b hb
  have hB := hbk _ hx
  refine ⟨hx, fun i hi => if_neg (by omega), ?_, rfl, rfl, rfl, by simp, Nat.le_refl _, Nat.le_succ _, fun i _ hi => by rw [AHeap.get_alloc, if_neg (by omega)], fun T N hT hN hμ => ⟨fun b hb' => hold b (by omega), fun i q hi hq => ?_⟩⟩
  · refine ⟨fun i hi => ?_, fun i hi => ?_, trivial, trivial, ?_, ?_, ?_, ?_⟩
    · have : H.next + 1 ≤ i := hi
      simp only [if_neg (show i ≠ H.next by omega)]
      exact hr.fresh i (by omega)
    · rw [AHeap.get_alloc] at hi
      show i < H.next + 1
      by_cases e : i = H.next
      · omega
      · rw [if_neg e] at hi; have := hr.below i hi; omega
    · intro i cs e esz m ro q hg hq
      rw [AHeap.get_alloc] at hg
      by_cases hi : i = H.next
      · rw [if_pos hi] at hg
        simp only [if_pos hi] at hq
        cases hg; cases hq
        obtain ⟨_, arr, fz, rfl, rest⟩ := hB
        exact ⟨arr, fz, hb ▸ hnew, rest⟩
      · rw [if_neg hi] at hg
        simp only [if_neg hi] at hq
        obtain ⟨arr, fz, ha, h1, h2, h3, h4, h5⟩ := hr.cells i cs e esz m ro q hg hq
        exact ⟨arr, fz, (hold _ (hr.live (by rw [hg]; simp) hq)).trans ha, h1, h2, h3, fun j v hj => let ⟨u, hu, hv⟩ := h4 j v hj; ⟨u, hu, hv.mono hx⟩, h5⟩
    · intro i st pend F ps as_ bd q hg hq
      rw [AHeap.get_alloc] at hg
      by_cases hi : i = H.next
      · rw [if_pos hi] at hg
        simp only [if_pos hi] at hq
        cases hg; cases hq
        obtain ⟨fn, tmps, D, rfl, rest⟩ := hB
        exact ⟨fn, tmps, D, hb ▸ hnew, rest⟩
      · rw [if_neg hi] at hg
        simp only [if_neg hi] at hq
        obtain ⟨fn, tmps, D, ha, h1, h2⟩ := hr.loops i st pend F ps as_ bd q hg hq
        exact ⟨fn, tmps, D, (hold _ (hr.live (by rw [hg]; simp) hq)).trans ha, h1.mono hx, h2⟩
    · intro i q hg hq
      rw [AHeap.get_alloc] at hg
      by_cases hi : i = H.next
      · rw [if_pos hi] at hg
        simp only [if_pos hi] at hq
        cases hg; cases hq
        exact (hb ▸ hnew : (w.alloc o).heap[p.b]? = some o).trans (congrArg some hB)
      · rw [if_neg hi] at hg
        simp only [if_neg hi] at hq
        exact (hold _ (hr.live (by rw [hg]; simp) hq)).trans (hr.defs i q hg hq)
    · intro i j q r hij hi hj hq hr' hbb
      rw [AHeap.get_alloc] at hi hj
      have hne : ∀ (k : Nat) (s : Loc), k ≠ H.next → H.get k ≠ none → μ k = some s → s.b ≠ w.heap.size := fun k s _ hk hs e => by have := hr.live hk hs; omega
      by_cases ei : i = H.next
      · have ej : j ≠ H.next := fun e => hij (ei.trans e.symm)
        simp only [if_pos ei, Option.some.injEq] at hq
        simp only [if_neg ej] at hr' hj
        subst hq
        exact absurd (hbb.symm.trans hb) (hne j r ej hj hr')
      · simp only [if_neg ei] at hq hi
        by_cases ej : j = H.next
        · simp only [if_pos ej, Option.some.injEq] at hr'
          subst hr'
          exact absurd (hbb.trans hb) (hne i q ei hi hq)
        · simp only [if_neg ej] at hr' hj
          have := hr.excl i j q r hij hi hj hq hr' hbb
          simpa only [AHeap.ro, AHeap.mate, AHeap.get_alloc, if_neg ei, if_neg ej] using this
  · by_cases e : i = H.next
    · simp only [if_pos e, Option.some.injEq] at hq; subst hq; omega
    · simp only [if_neg e] at hq; exact hμ i q hi hq

/-! ### A block that is written -/
theorem AHeap.get_kill {H : AHeap} {mt : Option Nat} (j : Nat) : (H.kill mt).get j = if mt = some j then none else H.get j := by
  cases mt with
  | none => simp [AHeap.kill]
  | some m =>
    simp only [AHeap.kill, AHeap.get_write, Option.some.injEq]
    by_cases e : j = m
    · rw [if_pos e, if_pos e.symm]
    · rw [if_neg e, if_neg (Ne.symm e)]
theorem AHeap.wlow_kill (H : AHeap) (mt : Option Nat) : (H.kill mt).wlow ≤ H.wlow ∧ ∀ m, mt = some m → (H.kill mt).wlow ≤ m := by
  cases mt with
  | none => exact ⟨Nat.le_refl _, fun m h => by cases h⟩
  | some m => exact ⟨(H.wlow_write m none).1, fun m' h => by cases h; exact (H.wlow_write m none).2⟩
theorem AHeap.next_kill (H : AHeap) (mt : Option Nat) : (H.kill mt).next = H.next := by cases mt <;> rfl

/-- One block of the call's own turns, in the evaluator's heap and in the world's; its mate dies. -/
theorem Post.turn {μ : Nat → Option Loc} {H : AHeap} {w w' : World} (hr : Rel μ H w) {i : Nat} {bk0 : ABk} (hi : H.get i = some bk0) (hro : H.ro i = false)
    (bk' : Option ABk) (hos : w'.os = w.os) (htape : w'.tape = w.tape) (hout : w'.output = w.output) (hsize : w'.heap.size = w.heap.size) (hsame : ∀ b, (∀ p, μ i = some p → b ≠ p.b) → w'.heap[b]? = w.heap[b]?)
    (hmt : ∀ cs e esz m ro, bk' = some (.cells cs e esz m ro) → m = none)
    (hbk : ∀ p, μ i = some p → match bk' with
      | some (.cells cs e esz m ro) => CellsAt μ w' p cs e esz ro
      | some (.loop st pend F params assign body) => ∃ fn tmps D, w'.heap[p.b]? = some (.loop { state := st, pending := pend, fn, tmps, params, assign, body, defers := D }) ∧ FR μ F tmps ∧ okCode assign = true ∧ okCode body = true
      | some .deferred => w'.heap[p.b]? = some (.deferred (some []))
      | none => True) :
    Post μ H w μ ((H.kill (H.mate i)).write i bk') w' := by
  have hget : ∀ j, ((H.kill (H.mate i)).write i bk').get j = if j = i then bk' else if H.mate i = some j then none else H.get j := fun j => by
    rw [AHeap.get_write, AHeap.get_kill]
  have hfar : ∀ j q, j ≠ i → H.mate i ≠ some j → H.get j ≠ none → μ j = some q → ∀ p, μ i = some p → q.b ≠ p.b := fun j q hj hm hg hq p hp e => by
    rcases hr.excl j i q p hj hg (by rw [hi]; simp) hq hp e with ⟨_, h⟩ | ⟨_, h⟩
    · rw [hro] at h; cases h
    · exact hm h
  have hw := AHeap.wlow_write (H.kill (H.mate i)) i bk'
  have hk := AHeap.wlow_kill H (H.mate i)
  refine ⟨.refl _, fun _ _ => rfl, ⟨?_, ?_, trivial, trivial, ?_, ?_, ?_, ?_⟩, hos, htape, hout, by omega, by omega, by rw [show ((H.kill (H.mate i)).write i bk').next = (H.kill (H.mate i)).next from rfl, AHeap.next_kill]; exact Nat.le_refl _, ?_, ?_⟩
  · intro j hj
    rw [show ((H.kill (H.mate i)).write i bk').next = (H.kill (H.mate i)).next from rfl, AHeap.next_kill] at hj
    exact hr.fresh j hj
  · intro j hj
    rw [show ((H.kill (H.mate i)).write i bk').next = (H.kill (H.mate i)).next from rfl, AHeap.next_kill]
    rw [hget] at hj
    by_cases e : j = i
    · subst e; exact hr.below j (by rw [hi]; simp)
    · rw [if_neg e] at hj
      by_cases e2 : H.mate i = some j
      · rw [if_pos e2] at hj; exact absurd rfl hj
      · rw [if_neg e2] at hj; exact hr.below j hj
  · intro j cs e esz m ro q hg hq
    rw [hget] at hg
    by_cases e1 : j = i
    · subst e1
      rw [if_pos rfl] at hg
      subst hg
      exact hbk q hq
    · rw [if_neg e1] at hg
      by_cases e2 : H.mate i = some j
      · rw [if_pos e2] at hg; cases hg
      · rw [if_neg e2] at hg
        obtain ⟨arr, fz, ha, rest⟩ := hr.cells j cs e esz m ro q hg hq
        exact ⟨arr, fz, (hsame _ (hfar j q e1 e2 (by rw [hg]; simp) hq)).trans ha, rest⟩
  · intro j st pend F ps as_ bd q hg hq
    rw [hget] at hg
    by_cases e1 : j = i
    · subst e1
      rw [if_pos rfl] at hg
      subst hg
      exact hbk q hq
    · rw [if_neg e1] at hg
      by_cases e2 : H.mate i = some j
      · rw [if_pos e2] at hg; cases hg
      · rw [if_neg e2] at hg
        obtain ⟨fn, tmps, D, ha, rest⟩ := hr.loops j st pend F ps as_ bd q hg hq
        exact ⟨fn, tmps, D, (hsame _ (hfar j q e1 e2 (by rw [hg]; simp) hq)).trans ha, rest⟩
  · intro j q hg hq
    rw [hget] at hg
    by_cases e1 : j = i
    · subst e1
      rw [if_pos rfl] at hg
      subst hg
      exact hbk q hq
    · rw [if_neg e1] at hg
      by_cases e2 : H.mate i = some j
      · rw [if_pos e2] at hg; cases hg
      · rw [if_neg e2] at hg
        exact (hsame _ (hfar j q e1 e2 (by rw [hg]; simp) hq)).trans (hr.defs j q hg hq)
  · intro j k q r hjk hj hk' hq hr' hb
    have red : ∀ j, j ≠ i → ((H.kill (H.mate i)).write i bk').get j ≠ none → H.mate i ≠ some j ∧ H.get j ≠ none := fun j hji hj => by
      rw [hget, if_neg hji] at hj
      by_cases e2 : H.mate i = some j
      · rw [if_pos e2] at hj; exact absurd rfl hj
      · rw [if_neg e2] at hj; exact ⟨e2, hj⟩
    by_cases e1 : j = i
    · subst e1
      obtain ⟨h1, h2⟩ := red k (Ne.symm hjk) hk'
      exact absurd hb.symm (hfar k r (Ne.symm hjk) h1 h2 hr' q hq)
    · obtain ⟨h1, h2⟩ := red j e1 hj
      by_cases e2 : k = i
      · subst e2
        exact absurd hb (hfar j q e1 h1 h2 hq r hr')
      · obtain ⟨h3, h4⟩ := red k e2 hk'
        have := hr.excl j k q r hjk h2 h4 hq hr' hb
        have g1 : ((H.kill (H.mate i)).write i bk').get j = H.get j := by rw [hget, if_neg e1, if_neg h1]
        have g2 : ((H.kill (H.mate i)).write i bk').get k = H.get k := by rw [hget, if_neg e2, if_neg h3]
        rw [AHeap.ro_congr g1, AHeap.ro_congr g2, AHeap.mate_congr g1, AHeap.mate_congr g2]
        exact this
  · intro j hj hn
    rw [hget]
    have h1 : j ≠ i := by omega
    have h2 : H.mate i ≠ some j := fun e => by have := hk.2 j e; omega
    rw [if_neg h1, if_neg h2]
  · intro T N hT hN hμ
    exact ⟨fun b hb => hsame b (fun p hp => by have := hμ i p (by omega) hp; omega), hμ⟩

/-- append: the new row lies in the old one's block, or in a new one. -/
theorem Post.push {μ : Nat → Option Loc} {H : AHeap} {w w' : World} (hr : Rel μ H w) {i esz : Nat} {e : TypeId} {m : Option Nat} {cs cs1 new : List Value} (hi : H.get i = some (.cells cs e esz m false))
    (q : Loc) (hq : (∃ p, μ i = some p ∧ q.b = p.b) ∨ w.heap.size ≤ q.b) (hos : w'.os = w.os) (htape : w'.tape = w.tape) (hout : w'.output = w.output) (hsize : w.heap.size ≤ w'.heap.size)
    (hsame : ∀ b, b < w.heap.size → (∀ p, μ i = some p → b ≠ p.b) → w'.heap[b]? = w.heap[b]?)
    (hold : ∀ p, μ i = some p → CellsAt (fun j => if j = H.next then some q else μ j) w' p cs1 e esz false)
    (hnew : CellsAt (fun j => if j = H.next then some q else μ j) w' q new e esz false) :
    Post μ H w (fun j => if j = H.next then some q else μ j) (((H.kill m).write i (some (.cells cs1 e esz (some H.next) false))).alloc (.cells new e esz (some i) false)) w' := by
  have hin : i < H.next := hr.below i (by rw [hi]; simp)
  have hm : H.mate i = m := by unfold AHeap.mate; rw [hi]
  have hro : H.ro i = false := by unfold AHeap.ro; rw [hi]
  have hx : Ext μ (fun j => if j = H.next then some q else μ j) := fun j p hj => by
    by_cases e : j = H.next
    · subst e; rw [hr.fresh _ (Nat.le_refl _)] at hj; cases hj
    · simp [e, hj]
  have hn1 : ((H.kill m).write i (some (.cells cs1 e esz (some H.next) false))).next = H.next := AHeap.next_kill H m
  have hget : ∀ j, (((H.kill m).write i (some (.cells cs1 e esz (some H.next) false))).alloc (.cells new e esz (some i) false)).get j =
      if j = H.next then some (.cells new e esz (some i) false) else if j = i then some (.cells cs1 e esz (some H.next) false) else if m = some j then none else H.get j := fun j => by
    rw [AHeap.get_alloc, hn1, AHeap.get_write, AHeap.get_kill]
  have hfar : ∀ j r, j ≠ i → m ≠ some j → H.get j ≠ none → μ j = some r → ∀ p, μ i = some p → r.b ≠ p.b := fun j r hj hmj hg hr' p hp e => by
    rcases hr.excl j i r p hj hg (by rw [hi]; simp) hr' hp e with ⟨_, h⟩ | ⟨_, h⟩
    · rw [hro] at h; cases h
    · exact hmj (hm.symm.trans h)
  have hw := AHeap.wlow_write (H.kill m) i (some (.cells cs1 e esz (some H.next) false))
  have hk := AHeap.wlow_kill H m
  have hwl : (((H.kill m).write i (some (.cells cs1 e esz (some H.next) false))).alloc (.cells new e esz (some i) false)).wlow = ((H.kill m).write i (some (.cells cs1 e esz (some H.next) false))).wlow := rfl
  have hnx : (((H.kill m).write i (some (.cells cs1 e esz (some H.next) false))).alloc (.cells new e esz (some i) false)).next = H.next + 1 := by
    show Nat.succ _ = _; rw [hn1]
  have live : ∀ j, j ≠ H.next → j ≠ i → (((H.kill m).write i (some (.cells cs1 e esz (some H.next) false))).alloc (.cells new e esz (some i) false)).get j ≠ none → m ≠ some j ∧ H.get j ≠ none := fun j h1 h2 hj => by
    rw [hget, if_neg h1, if_neg h2] at hj
    by_cases e2 : m = some j
    · rw [if_pos e2] at hj; exact absurd rfl hj
    · rw [if_neg e2] at hj; exact ⟨e2, hj⟩
  have farq : ∀ j r, j ≠ i → m ≠ some j → H.get j ≠ none → μ j = some r → r.b ≠ q.b := fun j r hj hmj hg hr' e => by
    rcases hq with ⟨p, hp, hb⟩ | hb
    · exact hfar j r hj hmj hg hr' p hp (e.trans hb)
    · have := hr.live hg hr'; omega
  refine ⟨hx, fun j hj => if_neg (by omega), ⟨?_, ?_, trivial, trivial, ?_, ?_, ?_, ?_⟩, hos, htape, hout, hsize, by rw [hwl]; omega, by rw [hnx]; omega, ?_, ?_⟩
  · intro j hj
    rw [hnx] at hj
    show (if j = H.next then some q else μ j) = none
    rw [if_neg (by omega)]
    exact hr.fresh j (by omega)
  · intro j hj
    rw [hnx]
    by_cases e1 : j = H.next
    · omega
    · by_cases e2 : j = i
      · omega
      · have := hr.below j (live j e1 e2 hj).2; omega
  · intro j cs2 e2 esz2 m2 ro2 r hg hr'
    rw [hget] at hg
    by_cases e1 : j = H.next
    · rw [if_pos e1] at hg
      cases hg
      simp only [if_pos e1, Option.some.injEq] at hr'
      subst hr'
      exact hnew
    · rw [if_neg e1] at hg
      simp only [if_neg e1] at hr'
      by_cases e2 : j = i
      · rw [if_pos e2] at hg
        cases hg
        exact hold r (e2 ▸ hr')
      · rw [if_neg e2] at hg
        by_cases e3 : m = some j
        · rw [if_pos e3] at hg; cases hg
        · rw [if_neg e3] at hg
          obtain ⟨arr, fz, ha, h1, h2, h3, h4, h5⟩ := hr.cells j _ _ _ _ _ r hg hr'
          exact ⟨arr, fz, (hsame _ (hr.live (by rw [hg]; simp) hr') (hfar j r e2 e3 (by rw [hg]; simp) hr')).trans ha, h1, h2, h3, fun k v hv => let ⟨u, hu, hvu⟩ := h4 k v hv; ⟨u, hu, hvu.mono hx⟩, h5⟩
  · intro j st pend F ps as_ bd r hg hr'
    rw [hget] at hg
    by_cases e1 : j = H.next
    · rw [if_pos e1] at hg; cases hg
    · rw [if_neg e1] at hg
      simp only [if_neg e1] at hr'
      by_cases e2 : j = i
      · rw [if_pos e2] at hg; cases hg
      · rw [if_neg e2] at hg
        by_cases e3 : m = some j
        · rw [if_pos e3] at hg; cases hg
        · rw [if_neg e3] at hg
          obtain ⟨fn, tmps, D, ha, h1, h2⟩ := hr.loops j _ _ _ _ _ _ r hg hr'
          exact ⟨fn, tmps, D, (hsame _ (hr.live (by rw [hg]; simp) hr') (hfar j r e2 e3 (by rw [hg]; simp) hr')).trans ha, h1.mono hx, h2⟩
  · intro j r hg hr'
    rw [hget] at hg
    by_cases e1 : j = H.next
    · rw [if_pos e1] at hg; cases hg
    · rw [if_neg e1] at hg
      simp only [if_neg e1] at hr'
      by_cases e2 : j = i
      · rw [if_pos e2] at hg; cases hg
      · rw [if_neg e2] at hg
        by_cases e3 : m = some j
        · rw [if_pos e3] at hg; cases hg
        · rw [if_neg e3] at hg
          exact (hsame _ (hr.live (by rw [hg]; simp) hr') (hfar j r e2 e3 (by rw [hg]; simp) hr')).trans (hr.defs j r hg hr')
  · intro j k r s hjk hj hk' hr' hs hb
    have mi : AHeap.mate (((H.kill m).write i (some (.cells cs1 e esz (some H.next) false))).alloc (.cells new e esz (some i) false)) i = some H.next := by
      unfold AHeap.mate; rw [hget, if_neg (by omega), if_pos rfl]
    have mn : AHeap.mate (((H.kill m).write i (some (.cells cs1 e esz (some H.next) false))).alloc (.cells new e esz (some i) false)) H.next = some i := by
      unfold AHeap.mate; rw [hget, if_pos rfl]
    by_cases j1 : j = H.next
    · simp only [if_pos j1, Option.some.injEq] at hr'
      subst hr'
      have k1 : k ≠ H.next := fun e => hjk (j1.trans e.symm)
      simp only [if_neg k1] at hs
      by_cases k2 : k = i
      · subst k2 j1; exact .inr ⟨mn, mi⟩
      · obtain ⟨h3, h4⟩ := live k k1 k2 hk'
        exact absurd hb.symm (farq k s k2 h3 h4 hs)
    · simp only [if_neg j1] at hr'
      by_cases k1 : k = H.next
      · simp only [if_pos k1, Option.some.injEq] at hs
        subst hs
        by_cases j2 : j = i
        · subst j2 k1; exact .inr ⟨mi, mn⟩
        · obtain ⟨h1, h2⟩ := live j j1 j2 hj
          exact absurd hb (farq j r j2 h1 h2 hr')
      · simp only [if_neg k1] at hs
        by_cases j2 : j = i
        · subst j2
          obtain ⟨h3, h4⟩ := live k k1 (Ne.symm hjk) hk'
          exact absurd hb.symm (hfar k s (Ne.symm hjk) h3 h4 hs r hr')
        · obtain ⟨h1, h2⟩ := live j j1 j2 hj
          by_cases k2 : k = i
          · subst k2
            exact absurd hb (hfar j r j2 h1 h2 hr' s hs)
          · obtain ⟨h3, h4⟩ := live k k1 k2 hk'
            have := hr.excl j k r s hjk h2 h4 hr' hs hb
            have g1 : (((H.kill m).write i (some (.cells cs1 e esz (some H.next) false))).alloc (.cells new e esz (some i) false)).get j = H.get j := by rw [hget, if_neg j1, if_neg j2, if_neg h1]
            have g2 : (((H.kill m).write i (some (.cells cs1 e esz (some H.next) false))).alloc (.cells new e esz (some i) false)).get k = H.get k := by rw [hget, if_neg k1, if_neg k2, if_neg h3]
            rw [AHeap.ro_congr g1, AHeap.ro_congr g2, AHeap.mate_congr g1, AHeap.mate_congr g2]
            exact this
  · intro j hj hn
    rw [hwl] at hj
    rw [hget, if_neg (by omega), if_neg (by omega), if_neg (fun e => by have := hk.2 j e; omega)]
  · intro T N hT hN hμ
    rw [hwl] at hT
    refine ⟨fun b hb => hsame b (by omega) (fun p hp => by have := hμ i p (by omega) hp; omega), fun j r hj hr' => ?_⟩
    by_cases e1 : j = H.next
    · simp only [if_pos e1, Option.some.injEq] at hr'
      subst hr'
      rcases hq with ⟨p, hp, hb⟩ | hb
      · have := hμ i p (by omega) hp; omega
      · omega
    · simp only [if_neg e1] at hr'
      exact hμ j r hj hr'
end Go.Ev
