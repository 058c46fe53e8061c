/-
  Part of the engine that the claim is proved with: it states nothing of the document by itself.
-/
import Derived.Test.YtlihfnfigclbmaaDoorCoreSeO

namespace Go.Ev
section
variable {P : Program} {base : Nat} {H0 : AHeap × Sig} {ν : Nu} {σ : Sig} {S : SS} {F : AFrame} {H : AHeap} {K : V → SS → Prop}
theorem xnew (hr : SR P base H0 ν σ S F H) (z : Nat) : XN ν (fun b => if b = S.nx then some (H.next, z) else ν b) := fun b c hb => by
 by_cases e : b = S.nx
 ·subst e; rw [hr.dom _ (Nat.le_refl _)] at hb; cases hb
 ·simp [e, hb]
theorem mate_cells {H : AHeap} {i : Nat} {cs : List Value} {e : TypeId} {esz : Nat} {m : Option Nat} {ro : Bool} (h : H.get i = some (.cells cs e esz m ro)) : H.mate i = m := by unfold AHeap.mate; rw [h]
theorem SR.alloc (hr : SR P base H0 ν σ S F H) {k : SB} {z : Nat} {cs : List Value} {ty : TypeId} {esz : Nat} (hb : ∀ ν', XN ν ν' → BRel P σ ν' z k (some (.cells cs ty esz none false))) :
  SR P base H0 (fun b => if b = S.nx then some (H.next, z) else ν b) σ (S.alloc k) F (H.alloc (.cells cs ty esz none false)) := by
 have hx := xnew hr z
 have hne : ∀ b i z', ν b = some (i, z') → b ≠ S.nx ∧ i ≠ H.next := fun b i z' hb => by
  refine ⟨fun e => ?_, fun e => ?_⟩
  ·rw [e, hr.dom _ (Nat.le_refl _)] at hb; cases hb
  ·have := hr.lt _ _ _ hb; omega
 have hg : ∀ b, (S.alloc k).hp.get b = if b = S.nx then some k else S.hp.get b := fun b => T.get_put _ _ _ _
 refine ⟨fun t v h => (hr.fr t v h).mono (.refl _) hx, hr.fsz, hr.top, hr.nomk, ?_, ?_, ?_, ?_, ?_, ?_, ?_, ?_, hr.wl, ?_, ?_, Nat.le_succ_of_le hr.role, hr.sb⟩
 ·intro b k' h
  rw [hg] at h
  by_cases e : b = S.nx
  ·rw [if_pos e] at h; cases h
   exact ⟨H.next, z, if_pos e, by rw [AHeap.get_alloc, if_pos rfl]; exact hb _ hx⟩
  ·rw [if_neg e] at h
   obtain ⟨i, z', h1, h2⟩ := hr.blk b k' h
   exact ⟨i, z', by rw [if_neg e]; exact h1, by rw [AHeap.get_alloc, if_neg (hne _ _ _ h1).2]; exact h2.mono (.refl _) hx⟩
 ·intro b i z' h
  show i < H.next + 1
  by_cases e : b = S.nx
  ·simp only [e, if_true, Option.some.injEq, Prod.mk.injEq] at h; omega
  ·simp only [if_neg e] at h; have := hr.lt _ _ _ h; omega
 ·intro b h
  have : S.nx + 1 ≤ b := h
  simp only [if_neg (show b ≠ S.nx by omega)]
  exact hr.dom b (by omega)
 ·intro b b' i z1 z2 h h'
  by_cases e : b = S.nx <;> by_cases e' : b' = S.nx
  ·rw [e, e']
  ·simp only [e, if_true, Option.some.injEq, Prod.mk.injEq] at h; simp only [if_neg e'] at h'
   exact absurd h.1.symm (hne _ _ _ h').2
  ·simp only [e', if_true, Option.some.injEq, Prod.mk.injEq] at h'; simp only [if_neg e] at h
   exact absurd h'.1.symm (hne _ _ _ h).2
  ·simp only [if_neg e] at h; simp only [if_neg e'] at h'; exact hr.inj _ _ _ _ _ h h'
 ·intro b i z' hro h
  by_cases e : b = S.nx
  ·simp only [e, if_true, Option.some.injEq, Prod.mk.injEq] at h; have := hr.nxt; omega
  ·simp only [if_neg e] at h; exact hr.own b i z' hro h
 ·intro i c h
  obtain ⟨h1, h2⟩ := hr.sig i c h
  exact ⟨Nat.lt_succ_of_lt h1, by rw [AHeap.get_alloc, if_neg (by omega)]; exact h2⟩
 ·intro b k' i z' h h'
  rw [hg] at h
  by_cases e : b = S.nx
  ·simp only [e, if_true, Option.some.injEq, Prod.mk.injEq] at h'
   cases hs : σ i with
   | none => rfl
   | some c => have := (hr.sig i c hs).1; omega
  ·rw [if_neg e] at h; simp only [if_neg e] at h'; exact hr.apart b k' i z' h h'
 ·intro b k' i z' m h h' hm
  rw [hg] at h
  by_cases e : b = S.nx
  ·simp only [e, if_true, Option.some.injEq, Prod.mk.injEq] at h'
   rw [← h'.1, mate_cells (by rw [AHeap.get_alloc, if_pos rfl])] at hm
   cases hm
  ·rw [if_neg e] at h; simp only [if_neg e] at h'
   have hm' : H.mate i = some m := by
    have : (H.alloc (.cells cs ty esz none false)).get i = H.get i := by rw [AHeap.get_alloc, if_neg (hne _ _ _ h').2]
    rw [AHeap.mate_congr this] at hm; exact hm
   obtain ⟨q1, q2, q3, q4⟩ := hr.mates b k' i z' m h h' hm'
   refine ⟨q1, Nat.lt_succ_of_lt q2, q3, fun b' k'' z'' hb' hν => ?_⟩
   rw [hg] at hb'
   by_cases e' : b' = S.nx
   ·simp only [e', if_true, Option.some.injEq, Prod.mk.injEq] at hν; omega
   ·rw [if_neg e'] at hb'; simp only [if_neg e'] at hν; exact q4 b' k'' z'' hb' hν
 ·intro i hi
  have := hr.nxt
  rw [AHeap.get_alloc, if_neg (by omega)]; exact hr.old i hi
 ·exact Nat.le_succ_of_le hr.nxt
theorem SR.write (hr : SR P base H0 ν σ S F H) {b i z : Nat} {k : SB} (hk : S.hp.get b = some k) (hν : ν b = some (i, z)) (hro : S.ro ≤ b) {k' : SB} {cs : List Value} {e : TypeId} {esz : Nat}
  (hb : BRel P σ ν z k' (some (.cells cs e esz none false))) : SR P base H0 ν σ (S.write b (some k')) F ((H.kill (H.mate i)).write i (some (.cells cs e esz none false))) := by
 have hget : ∀ j, ((H.kill (H.mate i)).write i (some (.cells cs e esz none false))).get j = if j = i then some (.cells cs e esz none false) else if H.mate i = some j then none else H.get j := fun j => by
  rw [AHeap.get_write, AHeap.get_kill]
 have hnx : ((H.kill (H.mate i)).write i (some (.cells cs e esz none false))).next = H.next := AHeap.next_kill _ _
 have hwl1 := AHeap.wlow_kill H (H.mate i)
 have hbi := hr.own b i z hro hν
 have hmate : ∀ m, H.mate i = some m → base ≤ m ∧ m < H.next ∧ σ m = none ∧ ∀ b' k' z', S.hp.get b' = some k' → ν b' ≠ some (m, z') := fun m hm => let q := hr.mates b k i z m hk hν hm; ⟨q.1 hro, q.2⟩
 have hg : ∀ b', (S.write b (some k')).hp.get b' = if b' = b then some k' else S.hp.get b' := fun b' => T.get_put _ _ _ _
 have hsome : ∀ b', (∃ k, (S.write b (some k')).hp.get b' = some k) → ∃ k, S.hp.get b' = some k := fun b' ⟨k2, h⟩ => by
  rw [hg] at h
  by_cases e1 : b' = b
  ·exact ⟨k, e1 ▸ hk⟩
  ·rw [if_neg e1] at h; exact ⟨k2, h⟩
 have hkeep : ∀ b' i' z', (∃ k, S.hp.get b' = some k) → ν b' = some (i', z') → b' ≠ b → ((H.kill (H.mate i)).write i (some (.cells cs e esz none false))).get i' = H.get i' := fun b' i' z' ⟨k2, h2⟩ h3 hne => by
  rw [hget, if_neg (fun e1 => hne (hr.inj _ _ _ _ _ (e1 ▸ h3) hν)), if_neg (fun hm => (hmate _ hm).2.2.2 b' k2 z' h2 h3)]
 refine ⟨fun t v h => hr.fr t v h, hr.fsz, hr.top, hr.nomk, ?_, ?_, hr.dom, hr.inj, hr.own, ?_, ?_, ?_, ?_, ?_, by rw [hnx]; exact hr.nxt, hr.role, hr.sb⟩
 ·intro b' k2 h
  rw [hg] at h
  by_cases e1 : b' = b
  ·rw [if_pos e1] at h; cases h
   exact ⟨i, z, e1 ▸ hν, by rw [hget, if_pos rfl]; exact hb⟩
  ·rw [if_neg e1] at h
   obtain ⟨i', z', h1, h2⟩ := hr.blk b' k2 h
   exact ⟨i', z', h1, by rw [hkeep b' i' z' ⟨k2, h⟩ h1 e1]; exact h2⟩
 ·intro b' i' z' h; rw [hnx]; exact hr.lt b' i' z' h
 ·intro i' c h
  obtain ⟨h1, h2⟩ := hr.sig i' c h
  rw [hnx, hget, if_neg (fun e1 => by have := hr.apart b k i z hk hν; rw [← e1, h] at this; cases this), if_neg (fun hm => by rw [(hmate _ hm).2.2.1] at h; cases h)]
  exact ⟨h1, h2⟩
 ·intro b' k2 i' z' h h'
  obtain ⟨k3, h3⟩ := hsome b' ⟨k2, h⟩
  exact hr.apart b' k3 i' z' h3 h'
 ·intro b' k2 i' z' m h h' hm
  obtain ⟨k3, h3⟩ := hsome b' ⟨k2, h⟩
  rw [hnx]
  by_cases e1 : b' = b
  ·subst e1
   rw [hν] at h'; cases h'
   rw [mate_cells (by rw [hget, if_pos rfl])] at hm; cases hm
  ·rw [AHeap.mate_congr (hkeep b' i' z' ⟨k3, h3⟩ h' e1)] at hm
   obtain ⟨q1, q2, q3, q4⟩ := hr.mates b' k3 i' z' m h3 h' hm
   refine ⟨q1, q2, q3, fun b2 k4 z2 h4 => ?_⟩
   obtain ⟨k5, h5⟩ := hsome b2 ⟨k4, h4⟩
   exact q4 b2 k5 z2 h5
 ·have := AHeap.wlow_write (H.kill (H.mate i)) i (some (.cells cs e esz none false))
  have h3 : base ≤ (H.kill (H.mate i)).wlow := by
   cases hm : H.mate i with
   | none => exact hr.wl
   | some m =>
    have := (hmate m hm).1
    simp only [AHeap.kill, AHeap.write]
    cases hbl : Nat.ble H.wlow m with
    | true => exact hr.wl
    | false => simpa using this
  simp only [AHeap.write]
  cases hbl : Nat.ble (H.kill (H.mate i)).wlow i with
  | true => exact h3
  | false => exact hbi
 ·intro j hj
  rw [hget, if_neg (by omega), if_neg (fun hm => by have := (hmate _ hm).1; omega)]
  exact hr.old j hj
theorem cellsOf_go {n : Nat} (ih : ∀ (t : TypeId) (d : D) (cs : List Value) (vs : List V), ReadsA P σ t d cs → cellsOf P n t d = some vs → LRel P σ ν vs cs) (d : D) : ∀ (fs : List Field) (j : Nat) (css : List (List Value)) (vs : List V), css.length = fs.length →
  (∀ (i : Nat) (f : Field) (c : List Value), fs[i]? = some f → css[i]? = some c → ReadsA P σ f.type (d.fld (j + i)) c) → goCells (cellsOf P n) d fs j = some vs → LRel P σ ν vs css.flatten
 | [], j, css, vs, hl, _, h => by
  simp only [goCells, Option.some.injEq] at h
  subst h
  have : css = [] := List.eq_nil_of_length_eq_zero hl
  subst this; exact .nil
 | f :: fs, j, [], vs, hl, _, _ => by simp at hl
 | f :: fs, j, c :: css, vs, hl, hf, h => by
  simp only [goCells] at h
  split at h
  ·rename_i a b ha hb
   simp only [Option.some.injEq] at h
   subst h
   rw [List.flatten_cons]
   refine (ih _ _ _ _ (hf 0 f c rfl rfl) ha).append (cellsOf_go ih d fs (j + 1) css b (by simpa using hl) (fun i f' c' h1 h2 => ?_) hb)
   have := hf (i + 1) f' c' (by simpa using h1) (by simpa using h2)
   rwa [show j + 1 + i = j + (i + 1) by omega]
  ·cases h
theorem cellsOf_ok : ∀ (n : Nat) (t : TypeId) (d : D) (cs : List Value) (vs : List V), ReadsA P σ t d cs → cellsOf P n t d = some vs → LRel P σ ν vs cs
 | 0, t, d, cs, vs, _, h => by unfold cellsOf at h; cases h
 | n + 1, t, d, cs, vs, hr, h => by
  unfold cellsOf at h
  cases hr with
  | int hu hs => simp only [hu, Option.some.injEq] at h; subst h; exact .cons .int .nil
  | bool hu hs => simp only [hu, Option.some.injEq] at h; subst h; exact .cons .prop .nil
  | str hu hs => simp only [hu, Option.some.injEq] at h; subst h; exact .cons .str .nil
  | nil hu hs => simp only [hu, Option.some.injEq] at h; subst h; exact .cons (.dat hu (.nil hu hs)) .nil
  | list hu hs hz hi hl hc he => simp only [hu, Option.some.injEq] at h; subst h; exact .cons (.dat hu (.list hu hs hz hi hl hc he)) .nil
  | nilf hu hs => simp only [hu, Option.some.injEq] at h; subst h; exact .cons .fndN .nil
  | fn hu hs h1 h2 hp hi hz hf => simp only [hu, Option.some.injEq] at h; subst h; exact .cons (.fnd h1 h2 hp hi hz hf) .nil
  | sct hu h1 h2 hs hf =>
   rename_i fs ds css
   simp only [hu] at h
   refine cellsOf_go (cellsOf_ok n) (.sct ds) fs.toList 0 css vs (by simpa using h1) (fun i f c hf' hc => ?_) h
   have hi : i < css.length := (List.getElem?_eq_some_iff.1 hc).1
   have := hf i f (ds[i]'(by omega)) c (by simpa using hf') (List.getElem?_eq_getElem (by omega)) hc
   have e : (D.sct ds).fld (0 + i) = ds[i]'(by omega) := by simp [D.fld, nthD, show i < ds.length by omega]
   rw [e]; exact this
theorem withCells_ok {t : TypeId} {d : D} {cs : List Value} {Kv : V → Prop} (hr : ReadsA P σ t d cs) (h : withCells P t d Kv) :
  ∃ v v', Kv v ∧ VRel P σ ν v v' ∧ ((isAggT P t = some true ∧ v' = .agg ⟨cs⟩) ∨ (isAggT P t = some false ∧ cs = [v'])) := by
 unfold withCells at h
 split at h
 ·rename_i vs hv ha
  have := cellsOf_ok (ν := ν) _ _ _ _ _ hr hv
  exact ⟨.agg vs, .agg ⟨cs⟩, h, .agg this.1 this.2, .inl ⟨ha, rfl⟩⟩
 ·rename_i v hv ha
  obtain ⟨v', r, rfl, h1, h2⟩ := (cellsOf_ok (ν := ν) _ _ _ _ _ hr hv).cons_inv
  rw [h2.nil_inv]
  exact ⟨v, v', h, h1, .inr ⟨ha, rfl⟩⟩
 ·exact h.elim
theorem load_row {i o n : Nat} {cs : List Value} {e : TypeId} {esz : Nat} {m : Option Nat} {ro : Bool} {t : TypeId} (hg : H.get i = some (.cells cs e esz m ro)) (hs : sizeT P t = some n) (hl : o + n ≤ cs.length) {v' : Value}
  (hv : (isAggT P t = some true ∧ v' = .agg ⟨(cs.drop o).take n⟩) ∨ (isAggT P t = some false ∧ (cs.drop o).take n = [v'])) : loadA P H t (.pointer (some ⟨i, o, none⟩)) = some v' := by
 have hc : H.cells i = some cs := by unfold AHeap.cells; rw [hg]
 unfold loadA
 simp only [hc]
 rcases hv with ⟨ha, rfl⟩ | ⟨ha, he⟩
 ·simp only [ha, hs]
  rw [Nat.ble_eq_true_of_le hl]; rfl
 ·simp only [ha]
  have h1 : ((cs.drop o).take n)[0]? = some v' := by rw [he]; rfl
  rw [List.getElem?_take] at h1
  split at h1
  ·rw [List.getElem?_drop] at h1; simpa using h1
  ·cases h1
theorem symLoad_ok {t : TypeId} {a : V} {a' : Value} {Kv : V → Prop} (hr : SR P base H0 ν σ S F H) (h : symLoad P S t a Kv) (ha : VRel P σ ν a a') : ∃ v v', loadA P H t a' = some v' ∧ Kv v ∧ VRel P σ ν v v' := by
 unfold symLoad at h
 split at h
 ·rename_i b o
  cases ha with
  | ptr hν =>
  rename_i i z
  split at h
  ·rename_i cs hb
   obtain ⟨i', z', hν', hB⟩ := hr.blk _ _ hb
   rw [hν] at hν'; cases hν'
   obtain ⟨cs', m, hg, hl⟩ := hB
   split at h
   ·rename_i hagg
    split at h
    ·rename_i v hv
     obtain ⟨v', hv', hvr⟩ := hl.get hv
     refine ⟨v, v', ?_, h, hvr⟩
     unfold loadA
     simp only [AHeap.cells, hg, hagg]; exact hv'
    ·exact h.elim
   ·rename_i s hagg hs
    cases hle : Nat.ble (o + s) cs.length with
    | false => rw [hle] at h; exact h.elim
    | true =>
     rw [hle] at h
     have hle' := Nat.le_of_ble_eq_true hle
     have := (hl.drop o).take s
     exact ⟨_, .agg ⟨(cs'.drop o).take s⟩, load_row hg hs (by rw [← hl.1]; exact hle') (.inl ⟨hagg, rfl⟩), h, .agg this.1 this.2⟩
   ·exact h.elim
  ·rename_i a e l hb
   cases hc : (Nat.beq o 0 && Nat.beq a t && isBoolT P e && sizeIs P e 1 && isAgg1 P t && sizeIs P t l.length) with
   | false => rw [hc] at h; exact h.elim
   | true =>
    rw [hc] at h
    simp only [Bool.and_eq_true] at hc
    obtain ⟨⟨⟨⟨⟨c1, c2⟩, c3⟩, c4⟩, c5⟩, c6⟩ := hc
    have c1 := Nat.eq_of_beq_eq_true c1
    subst c1
    have hu : P.underlying e = some .bool := by unfold isBoolT at c3; split at c3 <;> simp_all
    have hagg : isAggT P t = some true := by unfold isAgg1 at c5; split at c5 <;> simp_all
    have hst : sizeT P t = some l.length := by
     unfold sizeIs at c6
     split at c6
     ·rename_i s hs; rw [hs, Nat.eq_of_beq_eq_true c6]
     ·cases c6
    have hs1 : sizeT P e = some 1 := by
     unfold sizeIs at c4
     split at c4
     ·rename_i s hs; rw [hs, Nat.eq_of_beq_eq_true c4]
     ·cases c4
    obtain ⟨i', z', hν', hB⟩ := hr.blk _ _ hb
    rw [hν] at hν'; cases hν'
    obtain ⟨cs', m, hg, hsz, h0, hlen, hrd⟩ := hB
    have hz : z = 1 := by rw [hs1] at hsz; exact (Option.some.inj hsz).symm
    subst hz
    rw [Nat.mul_one] at hlen
    refine ⟨_, .agg ⟨(cs'.drop 0).take l.length⟩, load_row hg hst (by omega) (.inl ⟨hagg, rfl⟩), h, .agg (by simp [hlen]) fun j v v' hj hj' => ?_⟩
    rw [List.getElem?_map] at hj
    cases hd : l[j]? with
    | none => rw [hd] at hj; cases hj
    | some d =>
     rw [hd] at hj
     simp only [Option.map_some, Option.some.injEq] at hj
     subst hj
     have hR := hrd j d hd
     have hjl : j < l.length := (List.getElem?_eq_some_iff.1 hd).1
     have e1 : (cs'.drop (j * 1)).take 1 = [v'] := by
      have hv' : cs'[j]? = some v' := by
       rw [List.drop_zero, List.getElem?_take, if_pos hjl] at hj'
       exact hj'
      rw [Nat.mul_one, List.drop_eq_getElem_cons (by omega : j < cs'.length)]
      rw [List.getElem?_eq_getElem (by omega : j < cs'.length)] at hv'
      simp only [Option.some.injEq] at hv'
      simp [hv']
     rw [e1] at hR
     have hce : cellsOf P 20 e d = some [.prop d.asProp] := by unfold cellsOf; rw [hu]
     exact (cellsOf_ok (ν := ν) 20 e d _ _ hR hce).2 0 _ _ rfl rfl
  ·exact h.elim
 ·rename_i b n
  cases ha with
  | ept hν =>
  rename_i i z
  split at h
  ·rename_i e l hb
   cases het : Nat.beq e t with
   | false => rw [het] at h; exact h.elim
   | true =>
    have := Nat.eq_of_beq_eq_true het
    subst this
    rw [het] at h
    obtain ⟨hlt, h⟩ := h
    obtain ⟨i', z', hν', hB⟩ := hr.blk _ _ hb
    rw [hν] at hν'; cases hν'
    obtain ⟨cs', m, hg, hs, h0, hlen, hrd⟩ := hB
    have hd : l[n.v]? = some (nthD l n.v) := by simp [nthD, hlt]
    obtain ⟨v, v', hk, hvr, hv'⟩ := withCells_ok (ν := ν) (hrd n.v _ hd) h
    have : (n.v + 1) * z ≤ l.length * z := Nat.mul_le_mul_right z hlt
    rw [Nat.succ_mul] at this
    exact ⟨v, v', load_row hg hs (by omega) hv', hk, hvr⟩
  ·rename_i _ e l hb
   cases het : Nat.beq e t with
   | false => rw [het] at h; exact h.elim
   | true =>
    have := Nat.eq_of_beq_eq_true het
    subst this
    rw [het] at h
    obtain ⟨hlt, h⟩ := h
    obtain ⟨i', z', hν', hB⟩ := hr.blk _ _ hb
    rw [hν] at hν'; cases hν'
    obtain ⟨cs', m, hg, hs, h0, hlen, hrd⟩ := hB
    have hd : l[n.v]? = some (nthD l n.v) := by simp [nthD, hlt]
    obtain ⟨v, v', hk, hvr, hv'⟩ := withCells_ok (ν := ν) (hrd n.v _ hd) h
    have : (n.v + 1) * z ≤ l.length * z := Nat.mul_le_mul_right z hlt
    rw [Nat.succ_mul] at this
    exact ⟨v, v', load_row hg hs (by omega) hv', hk, hvr⟩
  ·exact h.elim
 ·rename_i t' d
  cases ha with
  | dpt hi hs h0 hl hrd =>
  cases het : Nat.beq t t' with
  | false => rw [het] at h; exact h.elim
  | true =>
   have := Nat.eq_of_beq_eq_true het
   subst this
   rw [het] at h
   obtain ⟨_, e, m, ro, hg⟩ := hr.sig _ _ hi
   obtain ⟨v, v', hk, hvr, hv'⟩ := withCells_ok (ν := ν) hrd h
   exact ⟨v, v', load_row hg hs hl hv', hk, hvr⟩
 ·exact h.elim
end
end Go.Ev
