/-
  Part of the engine that the claim is proved with: it states nothing of the document by itself.
-/
import Derived.Test.YtpopdemanadllaaGreatDoorCoreSeV

namespace Go.Ev
def Stab (σ : Sig) (H : AHeap) : Prop := (∀ i c, σ i = some c → i < H.next ∧ ∃ e m ro, H.get i = some (.cells c.1 e c.2 m ro)) ∧ GlobS σ
def Valid (P : Program) (G : Msk) (run : Run) (g : FuncId) (c : Con) : Prop :=
 ∀ (as : List V) (p : Prop) (r : V), c as = some (p, r) → p → ∀ (σ : Sig) (H : AHeap) (vs : List Value), Stab σ H → LRel P σ (fun _ => none) as vs →
  ∃ v H' σ', callF P G run g ⟨vs⟩ H = some (v, H') ∧ XS σ σ' ∧ Stab σ' H' ∧ (∀ i c, σ' i = some c → σ i = some c ∨ H.next ≤ i) ∧ H.next ≤ H'.next ∧ (∀ i, i < H.next → H'.get i = H.get i) ∧ (∀ n, n ≤ H.wlow → n ≤ H.next → n ≤ H'.wlow) ∧ VRel P σ' (fun _ => none) r v
def ValidF (P : Program) (G : Msk) (run : Run) (c : D → Con) : Prop :=
 ∀ (d : D) (as : List V) (p : Prop) (r : V), c d as = some (p, r) → p → ∀ (σ : Sig) (H : AHeap) (t : TypeId) (v : Value) (vs : List Value), Stab σ H → VRel P σ (fun _ => none) (.fnd t d) v → LRel P σ (fun _ => none) as vs →
  ∃ g cs, v = .func (.func g) ⟨[]⟩ ⟨cs⟩ ∧ ∃ v' H' σ', callE P G run g (vs ++ cs) H = some (v', H') ∧ XS σ σ' ∧ Stab σ' H' ∧ (∀ i c, σ' i = some c → σ i = some c ∨ H.next ≤ i) ∧ H.next ≤ H'.next ∧ (∀ i, i < H.next → H'.get i = H.get i) ∧ (∀ n, n ≤ H.wlow → n ≤ H.next → n ≤ H'.wlow) ∧ VRel P σ' (fun _ => none) r v'
def RunS (P : Program) (srun : SRun) (run : Run) : Prop := ∀ (rd : Option Nat) g c S Q, (rd = none ∨ noRange c = true) → srun g c S Q → S.fl ≤ S.nx → ∀ base H0 ν σ F H, SR P base H0 ν σ S F H →
 ∃ e F' H', run rd c F H = some (e, F', H') ∧ ∃ S' ν' σ', Q e S' ∧ SR P base H0 ν' σ' S' F' H' ∧ XNn S.fl ν ν' ∧ XS σ σ' ∧ Keeps S S'
section
variable {P : Program} {base : Nat} {H0 : AHeap × Sig} {ν : Nu} {σ : Sig} {S : SS} {F : AFrame} {H : AHeap} {K : V → SS → Prop} {Kv : V → Prop}
theorem VRel.plainR {v : V} {v' : Value} (h : VRel P σ ν v v') (hp : v.plainR = true) (σ' : Sig) (ν' : Nu) : VRel P σ' ν' v v' := by
 have one : ∀ (v : V) (v' : Value), VRel P σ ν v v' → v.plain = true → VRel P σ' ν' v v' := by
  intro v v' h hp
  cases h with
  | val h => exact .val h
  | undef => exact .undef
  | int => exact .int
  | prop => exact .prop
  | str => exact .str
  | _ => simp [V.plain] at hp
 have two : ∀ (v : V) (v' : Value), VRel P σ ν v v' → v.plain1 = true → VRel P σ' ν' v v' := by
  intro v v' h hp
  unfold V.plain1 at hp
  split at hp
  ·cases h with
   | agg h1 h2 =>
    simp only [List.all_eq_true] at hp
    exact .agg h1 fun j v v' a b => one v v' (h2 j v v' a b) (hp v (List.mem_of_getElem? a))
  ·exact one _ _ h hp
 unfold V.plainR at hp
 split at hp
 ·cases h with
  | tup h1 h2 =>
   simp only [List.all_eq_true] at hp
   exact .tup h1 fun j v v' a b => two v v' (h2 j v v' a b) (hp v (List.mem_of_getElem? a))
 ·exact two _ _ h hp
theorem VRel.freeR {v : V} {v' : Value} (h : VRel P σ ν v v') (hp : v.freeR = true) (ν' : Nu) : VRel P σ ν' v v' := by
 have one : ∀ (v : V) (v' : Value), VRel P σ ν v v' → v.free = true → VRel P σ ν' v v' := by
  intro v v' h hp
  cases h with
  | val h => exact .val h
  | undef => exact .undef
  | int => exact .int
  | prop => exact .prop
  | str => exact .str
  | dat a b => exact .dat a b
  | dpt a b c d e => exact .dpt a b c d e
  | fndN => exact .fndN
  | fnd a b c d e f => exact .fnd a b c d e f
  | _ => simp [V.free, V.plain] at hp
 have two : ∀ (v : V) (v' : Value), VRel P σ ν v v' → v.free1 = true → VRel P σ ν' v v' := by
  intro v v' h hp
  unfold V.free1 at hp
  split at hp
  ·cases h with
   | agg h1 h2 =>
    simp only [List.all_eq_true] at hp
    exact .agg h1 fun j v v' a b => one v v' (h2 j v v' a b) (hp v (List.mem_of_getElem? a))
  ·exact one _ _ h hp
 unfold V.freeR at hp
 split at hp
 ·cases h with
  | tup h1 h2 =>
   simp only [List.all_eq_true] at hp
   exact .tup h1 fun j v v' a b => two v v' (h2 j v v' a b) (hp v (List.mem_of_getElem? a))
 ·exact two _ _ h hp
noncomputable def lentS (S : SS) (ν : Nu) (σ : Sig) (H : AHeap) : Sig := fun i =>
 match σ i with
 | some c => some c
 | none =>
  open Classical in
  if ∃ x k z, At S x k ∧ ν x = some (i, z) then
   (match H.get i with | some (.cells cs _ esz _ _) => some (cs, esz) | _ => none) else none
theorem lent_xs : XS σ (lentS S ν σ H) := fun i c h => by unfold lentS; rw [h]
theorem lent_stab (hr : SR P base H0 ν σ S F H) : Stab (lentS S ν σ H) H := by
 refine ⟨?_, hr.sb.2.mono lent_xs⟩
 intro i c h
 unfold lentS at h
 split at h
 ·rename_i c' hc
  simp only [Option.some.injEq] at h
  subst h
  exact hr.sig i _ hc
 ·split at h
  ·rename_i hex
   obtain ⟨b, k, z, hb, hν⟩ := hex
   split at h
   ·rename_i cs e' esz m ro hg
    simp only [Option.some.injEq] at h
    subst h
    exact ⟨hr.lt _ _ _ hν, e', m, ro, hg⟩
   ·cases h
  ·cases h
theorem lent_at (hr : SR P base H0 ν σ S F H) {b i z : Nat} {e : TypeId} {l : List D} (hb : S.hp.get b = some (.arr e l)) (hν : ν (Bid.top b) = some (i, z)) : ∃ cs, lentS S ν σ H i = some (cs, z) ∧ sizeT P e = some z ∧ 0 < z ∧ RowR P σ e z l cs := by
 obtain ⟨i', z', hν', hB⟩ := hr.blkT _ _ hb
 rw [hν] at hν'; cases hν'
 obtain ⟨cs, m, hg, hs, h0, hlen, hrd⟩ := hB
 refine ⟨cs, ?_, hs, h0, hlen, hrd⟩
 unfold lentS
 rw [hr.apart (.top b) _ i z hb hν]
 simp only
 rw [if_pos ⟨.top b, _, z, hb, hν⟩, hg]
theorem lent_any (hr : SR P base H0 ν σ S F H) {x : Bid} {k : SB} {i z : Nat} (hk : At S x k) (hν : ν x = some (i, z)) {cs : List Value} {e : TypeId} {esz : Nat} {m : Option Nat} {ro : Bool} (hg : H.get i = some (.cells cs e esz m ro)) : lentS S ν σ H i = some (cs, esz) := by
 unfold lentS
 rw [hr.apart x _ i z hk hν]
 simp only
 rw [if_pos ⟨x, _, z, hk, hν⟩, hg]
theorem lent_own (hr : SR P base H0 ν σ S F H) {b v i z : Nat} {e e' : TypeId} {l : List D} (hb : S.hp.get b = some (.own v e e' l)) (hν : ν (Bid.top b) = some (i, z)) (hh : noHole l) : ∃ cs, lentS S ν σ H i = some (cs, z) ∧ sizeT P e = some z ∧ 0 < z ∧ (isSliceT P e = true → sizeIs P e 1 = true → RowR P (lentS S ν σ H) e z l cs) := by
 obtain ⟨i', z', hν', hB⟩ := hr.blkT _ _ hb
 rw [hν] at hν'; cases hν'
 obtain ⟨cs, m, hg, hs, h0, hlen, hone, hrd⟩ := hB
 refine ⟨cs, lent_any hr (x := .top b) hb hν hg, hs, h0, fun hsl hs1 => ⟨hlen, fun j d hj => ?_⟩⟩
 obtain ⟨e1, hu⟩ : ∃ e1, P.underlying e = some (.slice e1) := by unfold isSliceT at hsl; split at hsl <;> simp_all
 have hst := sizeIs_ok hs1
 have hz : z = 1 := by rw [hst] at hs; exact (Option.some.inj hs).symm
 subst hz
 rw [Nat.mul_one]
 have hjl : j < cs.length := by have := (List.getElem?_eq_some_iff.1 hj).1; omega
 have hone1 : ∀ w, cs[j]? = some w → (cs.drop j).take 1 = [w] := fun w hw => by
  rw [List.getElem?_eq_getElem hjl] at hw
  simp only [Option.some.injEq] at hw
  rw [List.drop_eq_getElem_cons hjl]
  simp [hw]
 rcases hrd j d hj with ⟨h1, _, h2⟩ | ⟨n, h1⟩ | ⟨r, q, y, c, h1, _, h3, h4, h5, h6⟩
 ·subst h1
  rw [hone1 _ (h2 hsl)]
  exact .nil hu hst
 ·subst h1
  exact absurd (List.mem_of_getElem? hj) (hh.out n)
 ·subst h1
  rw [hone1 _ h5]
  have hat : At S (.sub v j) (.arr e' r) := ⟨b, e, e', l, r, hb, hj, rfl⟩
  obtain ⟨i2, z2, hν2, hB2⟩ := hr.blk _ _ hat
  rw [h4] at hν2; cases hν2
  obtain ⟨cs2, m2, hg2, hs2, h02, hlen2, hrd2⟩ := hB2
  exact .list h3 hst hs2 (lent_any hr hat h4 hg2) (by rw [Nat.zero_add, hlen2]; exact Nat.le_refl _) (by rcases h6 with h6 | h6; exact .inl h6; exact .inr ⟨by omega, h6.2⟩) (fun j2 d2 hj2 => by rw [Nat.zero_add]; exact (hrd2 j2 d2 hj2).mono lent_xs)
theorem lent_box (hr : SR P base H0 ν σ S F H) {b i z : Nat} {e : TypeId} {vs : List V} (hb : S.hp.get b = some (.box e vs)) (hν : ν (Bid.top b) = some (i, z)) : ∃ cs, lentS S ν σ H i = some (cs, 0) ∧ LRel P σ ν vs cs := by
 obtain ⟨i', z', hν', hB⟩ := hr.blkT _ _ hb
 rw [hν] at hν'; cases hν'
 obtain ⟨cs, m, hg, hl⟩ := hB
 refine ⟨cs, ?_, hl⟩
 unfold lentS
 rw [hr.apart (.top b) _ i z hb hν]
 simp only
 rw [if_pos ⟨.top b, _, z, hb, hν⟩, hg]
theorem dat_of_row {σ' : Sig} {ν' : Nu} {t e : TypeId} {z i : Nat} {l : List D} {cs : List Value} {o n off cap : Nat} (hu : P.underlying t = some (.slice e)) (hst : sizeT P t = some 1) (hz : sizeT P e = some z) (hσ : σ' i = some (cs, z)) (hrow : RowR P σ' e z l cs) (hle : o + n ≤ l.length)
  (ho : off = o * z ∨ (n = 0 ∧ off ≤ o * z)) (hc : cap = UNK ∨ (n ≤ cap ∧ cap < UNK)) : VRel P σ' ν' (.dat t (.list ((l.drop o).take n))) (.slice (some ⟨i, off, none⟩) n cap) := by
 have hll : ((l.drop o).take n).length = n := by rw [List.length_take, List.length_drop]; omega
 have hmul : (o + n) * z ≤ l.length * z := Nat.mul_le_mul_right _ hle
 rw [Nat.add_mul] at hmul
 have hcl := hrow.1
 have := ReadsA.list (P := P) (σ := σ') (t := t) (l := (l.drop o).take n) (o := off) (c := cap) hu hst hz hσ (by rw [hll]; rcases ho with ho | ho; rw [ho]; omega; rw [ho.1, Nat.zero_mul]; omega) (by rw [hll]; exact hc) (fun j d hj => by
  have hjl : j < n := by have := (List.getElem?_eq_some_iff.1 hj).1; omega
  rw [List.getElem?_take, if_pos hjl, List.getElem?_drop] at hj
  rcases ho with ho | ho
  ·have := hrow.2 _ _ hj
   rw [ho, ← Nat.add_mul]
   exact this
  ·omega)
 rw [hll] at this
 exact .dat hu this
theorem slc_at {b i z : Nat} {o n : NL} {c : Option NL} {v' : Value} (hv : VRel P σ ν (.slc b o n c) v') (hν : ν (Bid.top b) = some (i, z)) : ∃ off cap, v' = .slice (some ⟨i, off, none⟩) n.v cap ∧ (off = o.v * z ∨ (n.v = 0 ∧ off ≤ o.v * z)) ∧ (cap = UNK ∨ (n.v ≤ cap ∧ cap < UNK)) := by
 cases hv with
 | slcU hν' => rw [hν] at hν'; cases hν'; exact ⟨_, _, rfl, .inl rfl, .inl rfl⟩
 | slc hν' hc hn ho => rw [hν] at hν'; cases hν'; exact ⟨_, _, rfl, by rcases ho with ho | ho; exact .inl ho; exact .inr ⟨by omega, ho.2⟩, .inr ⟨hn, hc⟩⟩
theorem lend_ok (hr : SR P base H0 ν σ S F H) {t : TypeId} {v : V} {v' : Value} {Kv : V → Prop} (h : lend P S t v Kv) (hv : VRel P σ ν v v') : ∃ u, Kv u ∧ VRel P (lentS S ν σ H) (fun _ => none) u v' ∧ (v.freeR = true → VRel P σ (fun _ => none) u v') := by
 unfold lend at h
 split at h
 ·rename_i b o n c
  split at h
  ·rename_i e l hb
   cases hso : isSliceOf P t e with
   | false => rw [hso] at h; exact h.elim
   | true =>
    rw [hso] at h
    obtain ⟨hle, h⟩ := h
    obtain ⟨hu, hst⟩ := isSliceOf_ok hso
    refine ⟨_, h, ?_, fun hf => by simp [V.freeR, V.free1, V.free, V.plain] at hf⟩
    obtain ⟨i, z, hν, _⟩ := hr.blkT _ _ hb
    obtain ⟨cs, hσ, hz, h0, hrow⟩ := lent_at hr hb hν
    obtain ⟨off, cap, rfl, ho, hc⟩ := slc_at hv hν
    exact dat_of_row hu hst hz hσ (hrow.mono lent_xs) hle ho hc
  ·rename_i w e e' l hb
   cases hso : isSliceOf P t e with
   | false => rw [hso] at h; exact h.elim
   | true =>
    rw [hso] at h
    obtain ⟨hle, hh, ⟨hsl, hs1⟩, h⟩ := h
    obtain ⟨hu, hst⟩ := isSliceOf_ok hso
    refine ⟨_, h, ?_, fun hf => by simp [V.freeR, V.free1, V.free, V.plain] at hf⟩
    obtain ⟨i, z, hν, _⟩ := hr.blkT _ _ hb
    obtain ⟨cs, hσ, hz, h0, hrow⟩ := lent_own hr hb hν hh
    obtain ⟨off, cap, rfl, ho, hc⟩ := slc_at hv hν
    exact dat_of_row hu hst hz hσ (hrow hsl hs1) hle ho hc
  ·exact h.elim
 ·rename_i b v i n
  split at h
  ·rename_i w e e' l hb
   cases hso : (Nat.beq v w && isSliceOf P t e') with
   | false => rw [hso] at h; exact h.elim
   | true =>
    rw [hso] at h
    simp only [Bool.and_eq_true] at hso
    have e1 := Nat.eq_of_beq_eq_true hso.1
    subst e1
    obtain ⟨hi, hn, ⟨r, hl⟩, h⟩ := h
    obtain ⟨hu, hst⟩ := isSliceOf_ok hso.2
    refine ⟨_, h, ?_, fun hf => by simp [V.freeR, V.free1, V.free, V.plain] at hf⟩
    cases hv with
    | osl hν hcap =>
    have hl1 : l[i.v]? = some (.list r) := by rw [← hl]; simp [nthD, hi]
    have hat : At S (.sub v i.v) (.arr e' r) := ⟨b, e, e', l, r, hb, hl1, rfl⟩
    obtain ⟨q, z, hν', hB⟩ := hr.blk _ _ hat
    rw [hν] at hν'; cases hν'
    obtain ⟨cs, m, hg, hz, h0, hlen, hrd⟩ := hB
    have hnr : n.v = r.length := by rw [hn, hl]; rfl
    have := dat_of_row (P := P) (σ' := lentS S ν σ H) (ν' := fun _ => none) (o := 0) (n := n.v) (off := 0) hu hst hz (lent_any hr hat hν hg) (RowR.mono ⟨hlen, hrd⟩ lent_xs) (by omega) (.inl (by omega)) (by rcases hcap with h | h; exact .inl h; exact .inr ⟨by omega, h.2⟩)
    rw [List.drop_zero, hnr, List.take_length] at this
    rw [hl, hnr]
    exact this
  ·exact h.elim
 ·cases hc : (isSliceT P t && sizeIs P t 1) with
  | false => rw [hc] at h; exact h.elim
  | true =>
   rw [hc] at h
   simp only [Bool.and_eq_true] at hc
   obtain ⟨e, hu⟩ : ∃ e, P.underlying t = some (.slice e) := by have := hc.1; unfold isSliceT at this; split at this <;> simp_all
   cases hv with
   | val _ => exact ⟨_, h, .dat hu (.nil hu (sizeIs_ok hc.2)), fun _ => .dat hu (.nil hu (sizeIs_ok hc.2))⟩
 ·cases hf : v.freeR with
  | false => rw [hf] at h; exact h.elim
  | true => rw [hf] at h; exact ⟨v, h, (hv.freeR hf _).mono (lent_xs (S := S) (ν := ν) (H := H)) (.refl _), fun _ => hv.freeR hf _⟩
theorem lendAll_ok (hr : SR P base H0 ν σ S F H) : ∀ {ts : List TypeId} {vs : List V} {vs' : List Value} {Kv : List V → Prop} (_ : lendAll P S ts vs Kv) (_ : LRel P σ ν vs vs'), ∃ us, Kv us ∧ LRel P (lentS S ν σ H) (fun _ => none) us vs' ∧ (vs.all V.freeR = true → LRel P σ (fun _ => none) us vs')
 | _, [], vs', Kv, h, hv => by rw [hv.nil_inv]; exact ⟨[], by cases ‹List TypeId› <;> exact h, .nil, fun _ => .nil⟩
 | t :: ts, v :: vs, vs', Kv, h, hv => by
  obtain ⟨v', r, rfl, h1, h2⟩ := hv.cons_inv
  obtain ⟨u, h, hu, hf⟩ := lend_ok hr (show lend P S t v (fun v => lendAll P S ts vs fun vs => Kv (v :: vs)) from h) h1
  obtain ⟨us, h, hus, hfs⟩ := lendAll_ok hr h h2
  exact ⟨u :: us, h, .cons hu hus, fun ha => by simp only [List.all_cons, Bool.and_eq_true] at ha; exact .cons (hf ha.1) (hfs ha.2)⟩
 | [], v :: vs, vs', Kv, h, hv => by
  obtain ⟨v', r, rfl, h1, h2⟩ := hv.cons_inv
  simp only [lendAll] at h
  cases hf : v.freeR with
  | false => rw [hf] at h; exact h.elim
  | true =>
   rw [hf] at h
   obtain ⟨us, h, hus, hfs⟩ := lendAll_ok hr h h2
   exact ⟨v :: us, h, .cons ((h1.freeR hf _).mono (lent_xs (S := S) (ν := ν) (H := H)) (.refl _)) hus, fun ha => by simp only [List.all_cons, Bool.and_eq_true] at ha; exact .cons (h1.freeR hf _) (hfs ha.2)⟩
theorem SR.grow (hr : SR P base H0 ν σ S F H) {H' : AHeap} {σ' : Sig} (hx : XS σ σ') (hs : Stab σ' H') (hnew : ∀ i c, σ' i = some c → σ i = some c ∨ H.next ≤ i) (hn : H.next ≤ H'.next) (hg : ∀ i, i < H.next → H'.get i = H.get i) (hw : base ≤ H'.wlow) : SR P base H0 ν σ' S F H' := by
 have hσn : ∀ i, i < H.next → σ i = none → σ' i = none := fun i hi hn' => by
  cases hc : σ' i with
  | none => rfl
  | some c => rcases hnew i c hc with h | h; rw [hn'] at h; cases h; omega
 refine ⟨fun t v h => (hr.fr t v h).mono hx (.refl _), hr.fsz, hr.top, hr.mks, ?_, fun b i z h => Nat.lt_of_lt_of_le (hr.lt b i z h) hn, hr.dom, hr.inj, hr.own, hs.1, ?_, ?_, hw, ?_, Nat.le_trans hr.nxt hn, hr.role, ⟨fun i c h hi => by
  rcases hnew i c h with h | h
  ·exact hr.sb.1 i c h hi
  ·have := hr.nxt; omega, hr.sb.2.mono hx⟩, hr.vers⟩
 ·intro b k h
  obtain ⟨i, z, h1, h2⟩ := hr.blk b k h
  exact ⟨i, z, h1, by rw [hg i (hr.lt _ _ _ h1)]; exact h2.mono hx (.refl _)⟩
 ·intro b k i z h h'
  exact hσn i (hr.lt _ _ _ h') (hr.apart b k i z h h')
 ·intro b k i z m h h' hm
  rw [AHeap.mate_congr (hg i (hr.lt _ _ _ h'))] at hm
  obtain ⟨q1, q2, q3, q4⟩ := hr.mates b k i z m h h' hm
  exact ⟨q1, Nat.lt_of_lt_of_le q2 hn, hσn m q2 q3, q4⟩
 ·intro i hi
  rw [hg i (Nat.lt_of_lt_of_le hi hr.nxt)]
  exact hr.old i hi
theorem resS_ok (hr : SR P base H0 ν σ S F H) : ∀ {rs : List ResultVar} {Kv : List V → Prop} (_ : resS P S rs Kv), ∃ vs vs', resultA P H F rs = some vs' ∧ Kv vs ∧ LRel P σ ν vs vs'
 | [], Kv, h => ⟨[], [], rfl, h, .nil⟩
 | .tmp t :: rs, Kv, h => by
  simp only [resS] at h
  split at h
  ·rename_i v hv
   obtain ⟨vs, vs', h1, h2, h3⟩ := resS_ok hr h
   exact ⟨v :: vs, F.get t :: vs', by simp only [resultA, h1], h2, .cons (hr.fr t v hv) h3⟩
  ·exact h.elim
 | .cell a t :: rs, Kv, h => by
  simp only [resS] at h
  split at h
  ·rename_i v hv
   obtain ⟨u, u', hl, h, hu⟩ := symLoad_ok hr h (hr.fr a v hv)
   obtain ⟨vs, vs', h1, h2, h3⟩ := resS_ok hr h
   exact ⟨u :: vs, u' :: vs', by simp only [resultA, hl, h1], h2, .cons hu h3⟩
  ·exact h.elim
theorem frameS_ok {args : List V} {args' : List Value} (hl : LRel P σ ν args args') : ∀ t v, (frameS args 0 .leaf).get t = some v → ∃ v', args'[t]? = some v' ∧ VRel P σ ν v v' := by
 have gen : ∀ (l : List V) (n : Nat) (tr : T V) (t : Nat), (frameS l n tr).get t = if n ≤ t ∧ t < n + l.length then l[t - n]? else tr.get t := by
  intro l
  induction l with
  | nil => intro n tr t; rw [if_neg (fun hh => by have := hh.1; have := hh.2; simp only [List.length_nil] at this; omega)]; rfl
  | cons v l ih =>
   intro n tr t
   show (frameS l (n + 1) (tr.put n (some v))).get t = _
   rw [ih, T.get_put]
   by_cases h1 : t = n
   ·subst h1; rw [if_neg (by omega), if_pos rfl, if_pos (by simp)]; simp
   ·by_cases h2 : n + 1 ≤ t ∧ t < n + 1 + l.length
    ·rw [if_pos h2, if_pos (by simp only [List.length_cons]; omega), show t - n = (t - (n + 1)) + 1 by omega, List.getElem?_cons_succ]
    ·rw [if_neg h2, if_neg h1, if_neg (by simp only [List.length_cons]; omega)]
 intro t v h
 rw [gen] at h
 split at h
 ·exact hl.get (by simpa using h)
 ·cases h
theorem At.gone {S : SS} {b : Nat} {x : Bid} {k : SB} (h : At (S.write b none) x k) : x ≠ .top b ∧ At S x k ∧ (Wr (S.write b none) x → Wr S x) := by
 rcases At.put (S := S) (S' := S.write b none) (fun b' => T.get_put _ _ _ _) noOwn.none rfl h with ⟨_, h⟩ | h
 ·cases h
 ·exact h
theorem Vers.gone {S : SS} (h : Vers S) (b : Nat) : Vers (S.write b none) := h.put (S' := S.write b none) (fun b' => T.get_put _ _ _ _) noOwn.none (Nat.le_refl _)
theorem SR.lose (hr : SR P base H0 ν σ S F H) {b i z : Nat} {k : SB} (hk : S.hp.get b = some k) (hν : ν (Bid.top b) = some (i, z)) (hro : S.ro ≤ b) {bk : Option ABk} (hbk : ∀ cs e esz m ro, bk = some (.cells cs e esz m ro) → m = none) :
  SR P base H0 ν σ (S.write b none) F ((H.kill (H.mate i)).write i bk) := by
 have hget : ∀ j, ((H.kill (H.mate i)).write i bk).get j = if j = i then bk else if H.mate i = some j then none else H.get j := fun j => by
  rw [AHeap.get_write, AHeap.get_kill]
 have hnx : ((H.kill (H.mate i)).write i bk).next = H.next := AHeap.next_kill _ _
 have hbi := hr.ownT hk hro hν
 have hmate : ∀ m, H.mate i = some m → base ≤ m ∧ m < H.next ∧ σ m = none ∧ ∀ b' k' z', At S b' k' → ν b' ≠ some (m, z') := fun m hm => let q := hr.mates (.top b) k i z m hk hν hm; ⟨q.1 hro, q.2⟩
 have hkeep : ∀ (b' : Bid) i' z' k2, At S b' k2 → ν b' = some (i', z') → b' ≠ b → ((H.kill (H.mate i)).write i bk).get i' = H.get i' := fun b' i' z' k2 h2 h3 hne => by
  rw [hget, if_neg (fun e1 => hne (hr.inj _ _ _ _ _ _ _ h2 (show At S (.top b) k from hk) (e1 ▸ h3) hν)), if_neg (fun hm => (hmate _ hm).2.2.2 b' k2 z' h2 h3)]
 refine ⟨fun t v h => hr.fr t v h, hr.fsz, hr.top, hr.mks, ?_, ?_, hr.dom, ?_, ?_, ?_, ?_, ?_, ?_, ?_, by rw [hnx]; exact hr.nxt, hr.role, hr.sb, hr.vers.gone b⟩
 ·intro b' k2 h
  obtain ⟨e1, h, _⟩ := At.gone h
  obtain ⟨i', z', h1, h2⟩ := hr.blk b' k2 h
  exact ⟨i', z', h1, by rw [hkeep b' i' z' k2 h h1 e1]; exact h2⟩
 ·intro b' i' z' h; rw [hnx]; exact hr.lt b' i' z' h
 ·intro x x' k1 k2 i1 z1 z2 a1 a2 h1 h2
  exact hr.inj _ _ _ _ _ _ _ (At.gone a1).2.1 (At.gone a2).2.1 h1 h2
 ·intro x k1 i1 z1 a hw h
  exact hr.own _ _ _ _ (At.gone a).2.1 ((At.gone a).2.2 hw) h
 ·intro i' c h
  obtain ⟨h1, h2⟩ := hr.sig i' c h
  rw [hnx, hget, if_neg (fun e1 => by have := hr.apart b k i z hk hν; rw [← e1, h] at this; cases this), if_neg (fun hm => by rw [(hmate _ hm).2.2.1] at h; cases h)]
  exact ⟨h1, h2⟩
 ·intro b' k2 i' z' h h'
  exact hr.apart b' k2 i' z' (At.gone h).2.1 h'
 ·intro b' k2 i' z' m h h' hm
  obtain ⟨e1, h, aw⟩ := At.gone h
  rw [hnx]
  rw [AHeap.mate_congr (hkeep b' i' z' k2 h h' e1)] at hm
  obtain ⟨q1, q2, q3, q4⟩ := hr.mates b' k2 i' z' m h h' hm
  exact ⟨fun hw => q1 (aw hw), q2, q3, fun b2 k4 z2 h4 => q4 b2 k4 z2 (At.gone h4).2.1⟩
 ·have h3 : base ≤ (H.kill (H.mate i)).wlow := by
   cases hm : H.mate i with
   | none => exact hr.wl
   | some m =>
    have := (hmate m hm).1
    simp only [AHeap.kill, AHeap.write]
    cases hbl : Nat.ble H.wlow m with
    | true => exact hr.wl
    | false => simpa using this
  simp only [AHeap.write]
  cases hbl : Nat.ble (H.kill (H.mate i)).wlow i with
  | true => exact h3
  | false => exact hbi
 ·intro j hj
  rw [hget, if_neg (by omega), if_neg (fun hm => by have := (hmate _ hm).1; omega)]
  exact hr.old j hj
theorem symOff_ok {dc : FuncId → List Value → AHeap → Option AHeap} : ∀ {l : List Nat} {ms : List AMark} {S : SS} {H : AHeap} {K : SS → Prop}, SR P base H0 ν σ S F H → MkN ν l ms → symOff l S K →
  ∃ H' S', endMarks dc H ms = some H' ∧ K S' ∧ SR P base H0 ν σ S' F H' ∧ Keeps S S'
 | [], [], S, H, K, hr, _, h => ⟨H, S, rfl, h, hr, .refl _⟩
 | [], _ :: _, _, _, _, _, hm, _ => hm.elim
 | _ :: _, [], _, _, _, _, hm, _ => hm.elim
 | _ :: _, .fn _ _ :: _, _, _, _, _, hm, _ => hm.elim
 | b :: l, .col i :: ms, S, H, K, hr, hm, h => by
  obtain ⟨⟨z, hν⟩, hm⟩ := hm
  simp only [symOff] at h
  cases hc : (isDfr S b && Nat.ble S.ro b) with
  | false => rw [hc] at h; exact h.elim
  | true =>
   rw [hc] at h
   simp only [Bool.and_eq_true] at hc
   have hro := Nat.le_of_ble_eq_true hc.2
   have hb : S.hp.get b = some .dfr := by
    have := hc.1
    unfold isDfr at this
    split at this
    ·assumption
    ·cases this
   obtain ⟨i', z', h1, h2⟩ := hr.blkT _ _ hb
   rw [hν] at h1; cases h1
   have h2' : H.get i = some .deferred := h2
   have hmt : H.mate i = none := mate_none h2' (fun _ _ _ _ _ e => by cases e)
   have hr2 := hr.lose hb hν hro (bk := none) (fun _ _ _ _ _ h => by cases h)
   rw [hmt] at hr2
   obtain ⟨H', S', q1, q2, q3, q4⟩ := symOff_ok (dc := dc) hr2 hm h
   refine ⟨H', S', ?_, q2, q3, (Keeps.write _ _ _ hro).trans q4⟩
   simp only [endMarks, h2']
   exact q1
theorem callF_sym {C : Ctx} {G : Msk} {srun : SRun} {run : Run} (hfast : G.fast = false) (hbits : G.bits = C.bits) (hrun : RunS C.P srun run) {g : FuncId} {args : List V} {args' : List Value} (hr : SR C.P base H0 ν σ S F H) (h : symInline C srun g args S K) (hl : LRel C.P σ ν args args') :
  OpR C.P base H0 ν σ S F (callF C.P G run g ⟨args'⟩ H) K := by
 unfold symInline at h
 unfold callF
 rw [hbits]
 split at h
 ·rename_i fn hf
  rw [hf]
  simp only
  split at h
  ·rename_i body hb
   simp only [hb]
   have hsz : (⟨args'⟩ : Array Value).size = args.length := by show args'.length = _; exact hl.1.symm
   rw [hsz]
   cases hc : (Nat.blt fn.ntmps args.length || Nat.blt 1000000 fn.ntmps) with
   | true => rw [hc] at h; exact h.elim
   | false =>
    rw [hc] at h
    simp only [cond_false] at h ⊢
    simp only [Bool.or_eq_false_iff] at hc
    have hn2 : fn.ntmps ≤ 1000000 := Nat.le_of_not_lt fun hlt => by have := Nat.ble_eq_true_of_le hlt; rw [show Nat.blt 1000000 fn.ntmps = Nat.ble (1000000 + 1) fn.ntmps from rfl, this] at hc; cases hc.2
    have hn1 : args.length ≤ fn.ntmps := Nat.le_of_not_lt fun hlt => by have := Nat.ble_eq_true_of_le hlt; rw [show Nat.blt fn.ntmps args.length = Nat.ble (fn.ntmps + 1) args.length from rfl, this] at hc; cases hc.1
    have hSR : SR C.P base H0 ν σ { S with fr := frameS args 0 .leaf, sz := fn.ntmps, fl := S.nx, mks := [] } (frameOf fn.ntmps ⟨args'⟩) { H with wlow := H.next } := by
     refine ⟨fun t v ht => ?_, rfl, Nat.le_trans hn2 (by decide), trivial, hr.blk, hr.lt, hr.dom, hr.inj, hr.own, hr.sig, hr.apart, hr.mates, hr.nxt, hr.old, hr.nxt, hr.role, hr.sb, hr.vers⟩
     obtain ⟨v', hv', hv⟩ := frameS_ok hl t v ht
     rw [frameOf_get fn.ntmps ⟨args'⟩ (by rw [hsz]; exact Nat.le_trans hn1 (Nat.le_trans hn2 (by decide))) t]
     have : (⟨args'⟩ : Array Value)[t]? = some v' := by simpa using hv'
     rw [this]; exact hv
    obtain ⟨e, F1, h1, hev, S1, ν1, σ1, hq, hr1, hxn, hxs, hk⟩ := hrun none _ _ _ _ (.inl rfl) h (Nat.le_refl _) _ _ _ _ _ _ hSR
    rw [hev]
    have hxn' : XN ν ν1 := XNn.xn hr hxn
    have key : (∀ id, e ≠ .exit id) → (symOff S1.mks S1 fun S1 => resS C.P S1 fn.results.toList fun vs => match vs with | [v] => K v { S1 with fr := S.fr, sz := S.sz, fl := S.fl, mks := S.mks } | vs => K (.tup vs) { S1 with fr := S.fr, sz := S.sz, fl := S.fl, mks := S.mks }) →
      OpR C.P base H0 ν σ S F (match endMarks (dcall C.P G run) h1 F1.marks with | some h2 => (match resultsA C.P h2 F1 fn with | some v => some (v, leave G.fast H h2 v) | none => none) | none => none) K := by
     intro _ hres
     obtain ⟨h2, S2, hem, hres, hr2, hk2⟩ := symOff_ok (dc := dcall C.P G run) hr1 hr1.mks hres
     rw [hem]
     replace hk := hk.trans hk2
     clear hem hq hk2 hev hr1
     revert h2 S2
     intro h1 S1 hres hr1 hk
     show OpR C.P base H0 ν σ S F (match resultsA C.P h1 F1 fn with | some v => some (v, leave G.fast H h1 v) | none => none) K
     obtain ⟨vs, vs', hra, hkv, hlr⟩ := resS_ok hr1 hres
     have hlow : base ≤ cond (Nat.ble H.wlow h1.wlow) H.wlow h1.wlow := by cases Nat.ble H.wlow h1.wlow; exact hr1.wl; exact hr.wl
     have hfin : ∀ v, SR C.P base H0 ν1 σ1 { S1 with fr := S.fr, sz := S.sz, fl := S.fl, mks := S.mks } F (leave G.fast H h1 v) := fun v => by
      have hlv : leave G.fast H h1 v = { h1 with wlow := cond (Nat.ble H.wlow h1.wlow) H.wlow h1.wlow } := by unfold leave; rw [hfast]; rfl
      rw [hlv]
      exact ⟨fun t v ht => (hr.fr t v ht).mono hxs hxn', hr.fsz, hr.top, hr.mks.mono hxn', hr1.blk, hr1.lt, hr1.dom, hr1.inj, hr1.own, hr1.sig, hr1.apart, hr1.mates, hlow, hr1.old, hr1.nxt, hr1.role, hr1.sb, hr1.vers⟩
     have hkeep : Keeps S { S1 with fr := S.fr, sz := S.sz, fl := S.fl, mks := S.mks } := ⟨hk.nx, rfl, hk.ro, rfl, hk.wr, hk.hp, hk.rb⟩
     have fin : ∀ (v : V) (v' : Value), resultsA C.P h1 F1 fn = some v' → VRel C.P σ1 ν1 v v' → K v { S1 with fr := S.fr, sz := S.sz, fl := S.fl, mks := S.mks } →
       OpR C.P base H0 ν σ S F (match resultsA C.P h1 F1 fn with | some v => some (v, leave G.fast H h1 v) | none => none) K := fun v v' h1 h2 h3 => by
      rw [h1]
      exact ⟨v', _, rfl, v, _, ν1, σ1, h3, hfin v', h2, hxn, hxs, rfl, hkeep⟩
     split at hkv
     ·rename_i v
      obtain ⟨v', r, rfl, hv, hn⟩ := hlr.cons_inv
      cases hn.nil_inv
      exact fin v v' (by unfold resultsA; rw [hra]) hv hkv
     ·rename_i vs0 hne
      refine fin (.tup vs) (.tuple vs'.toArray) ?_ (.tup hlr.1 hlr.2) hkv
      unfold resultsA
      rw [hra]
      split
      ·rename_i v0 he
       simp only [Option.some.injEq] at he
       subst he
       have hlen := hlr.1
       match vs, hlen, hne with
       | [v], _, hne => exact absurd rfl (hne v)
      ·rename_i vs1 _ he
       simp only [Option.some.injEq] at he
       subst he; rfl
      ·rename_i he; cases he
    cases e with
    | exit id => exact hq.elim
    | normal => exact key (by simp) hq
    | ret => exact key (by simp) hq
  ·exact h.elim
 ·exact h.elim
theorem sizeIs1_ok {P : Program} {t : TypeId} (h : sizeIs1 P t = true) : sizeT P t = some 1 := by
 unfold sizeIs1 at h
 cases hs : sizeT P t with
 | none => rw [hs] at h; cases h
 | some s => rw [hs] at h; rw [Nat.eq_of_beq_eq_true h]
theorem row_ints {e : TypeId} (hu : P.underlying e = some (.int .i64)) (hs : sizeT P e = some 1) (zs : List Int) : RowR P σ e 1 (zs.map D.int) (zs.map (Value.int .i64)) := by
 refine ⟨by simp, fun j d hj => ?_⟩
 rw [List.getElem?_map] at hj
 cases hb : zs[j]? with
 | none => rw [hb] at hj; cases hj
 | some z =>
  rw [hb] at hj
  cases hj
  have hl : j < zs.length := (List.getElem?_eq_some_iff.1 hb).1
  have hd : (List.drop (j * 1) (zs.map (Value.int .i64))).take 1 = [Value.int .i64 z] := by
   rw [Nat.mul_one, List.drop_eq_getElem_cons (by simpa using hl)]
   have : zs[j] = z := (List.getElem?_eq_some_iff.1 hb).2
   simp [this]
  rw [hd]
  exact .int hu hs
theorem symSort_ok {args : List V} {args' : List Value} {f : RowF} (hr : SR P base H0 ν σ S F H) (h : symSort P f S args K) (hl : LRel P σ ν args args') : OpR P base H0 ν σ S F (sortA f args' H) K := h.out.elim
def TabOK (P : Program) (f : List Value → Option Value) (c : Option Con) : Prop :=
 match c with
 | none => ∀ as, f as = none
 | some c => ∀ us p r, c us = some (p, r) → p → ∀ σ ν as, LRel P σ ν us as → as.all Ev.flat = true ∧ ∃ v, f as = some v ∧ VRel P σ ν r v
end
end Go.Ev
