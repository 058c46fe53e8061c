/-
  Part of the engine that the claim is proved with: it states nothing of the document by itself.
-/
import Derived.Test.YtigckjhbmeameaaGreatDoorCoreSeW

namespace Go.Ev
section
variable {P : Program} {base : Nat} {H0 : AHeap × Sig} {ν : Nu} {σ : Sig} {S : SS} {F : AFrame} {H : AHeap}

/-- A row of the call's own becomes data. -/
theorem SR.freeze (hr : SR P base H0 ν σ S F H) {b i z : Nat} {e : TypeId} {l : List D} (hb : S.hp.get b = some (.arr e l)) (hν : ν b = some (i, z)) (hro : S.ro ≤ b) {cs : List Value} {m : Option Nat} (hg : H.get i = some (.cells cs e z m false)) :
    XS σ (fun j => if j = i then some (cs, z) else σ j) ∧ SR P base H0 ν (fun j => if j = i then some (cs, z) else σ j) (S.write b none) F H := by
  have hx : XS σ (fun j => if j = i then some (cs, z) else σ j) := fun j c hj => by
    have : j ≠ i := fun e => by rw [e, hr.apart _ _ _ _ hb hν] at hj; cases hj
    simp [this, hj]
  have hget : ∀ b' k, (S.write b none).hp.get b' = some k → b' ≠ b ∧ S.hp.get b' = some k := fun b' k h => by
    have h' : T.get (T.put S.hp b none) b' = some k := h
    rw [T.get_put] at h'
    by_cases hbb : b' = b
    · rw [if_pos hbb] at h'; cases h'
    · rw [if_neg hbb] at h'; exact ⟨hbb, h'⟩
  refine ⟨hx, ⟨fun t v h => (hr.fr t v h).mono hx (.refl _), hr.fsz, hr.top, hr.nomk, ?_, hr.lt, hr.dom, hr.inj, hr.own, ?_, ?_, ?_, hr.wl, hr.old, hr.nxt, hr.role, ?_⟩⟩
  · intro b' k h
    obtain ⟨_, h⟩ := hget b' k h
    obtain ⟨i', z', h1, h2⟩ := hr.blk b' k h
    exact ⟨i', z', h1, h2.mono hx (.refl _)⟩
  · intro j c hj
    by_cases hji : j = i
    · simp only [hji, if_true, Option.some.injEq] at hj
      subst hj
      rw [hji]
      exact ⟨hr.lt _ _ _ hν, e, m, false, hg⟩
    · simp only [hji, if_false] at hj
      exact hr.sig j c hj
  · intro b' k i' z' h h'
    obtain ⟨hne, h⟩ := hget b' k h
    have : i' ≠ i := fun e => hne (hr.inj _ _ _ _ _ (by rw [h', e]) hν)
    simp only [this, if_false]
    exact hr.apart b' k i' z' h h'
  · intro b' k i' z' m' h h' hm
    obtain ⟨hne, h⟩ := hget b' k h
    obtain ⟨q1, q2, q3, q4⟩ := hr.mates b' k i' z' m' h h' hm
    refine ⟨q1, q2, ?_, fun b2 k2 z2 hb2 => ?_⟩
    · have : m' ≠ i := fun e => q4 b _ z hb (by rw [e]; exact hν)
      simp only [this, if_false]; exact q3
    · exact q4 b2 k2 z2 (hget b2 k2 hb2).2
  · intro j c hj hlt
    by_cases hji : j = i
    · have := hr.own b i z hro hν
      omega
    · simp only [hji, if_false] at hj
      exact hr.sb j c hj hlt

/-- What freezing leaves. -/
def FzR (P : Program) (base : Nat) (H0 : AHeap × Sig) (ν : Nu) (σ : Sig) (S : SS) (F : AFrame) (H : AHeap) (σ1 : Sig) (S1 : SS) : Prop :=
  SR P base H0 ν σ1 S1 F H ∧ XS σ σ1 ∧ S1.fr = S.fr ∧ S1.nx = S.nx ∧ Keeps S S1
theorem FzR.refl (hr : SR P base H0 ν σ S F H) : FzR P base H0 ν σ S F H σ S := ⟨hr, .refl _, rfl, rfl, .refl _⟩
theorem FzR.trans {σ1 σ2 : Sig} {S1 S2 : SS} (h : FzR P base H0 ν σ S F H σ1 S1) (k : FzR P base H0 ν σ1 S1 F H σ2 S2) : FzR P base H0 ν σ S F H σ2 S2 :=
  ⟨k.1, h.2.1.trans k.2.1, k.2.2.1.trans h.2.2.1, k.2.2.2.1.trans h.2.2.2.1, h.2.2.2.2.trans k.2.2.2.2⟩

theorem frz1_ok (hr : SR P base H0 ν σ S F H) {t : TypeId} {v : V} {v' : Value} {K : V → SS → Prop} (h : frz1 P S t v K) (hv : VRel P σ ν v v') :
    ∃ u S1 σ1, K u S1 ∧ FzR P base H0 ν σ S F H σ1 S1 ∧ VRel P σ1 ν u v' := by
  unfold frz1 at h
  split at h
  · rename_i b o n c
    split at h
    · rename_i e l hb
      cases hso : (isSliceOf P t e && Nat.ble S.ro b) with
      | false => rw [hso] at h; exact h.elim
      | true =>
        rw [hso] at h
        obtain ⟨hle, h⟩ := h
        simp only [Bool.and_eq_true] at hso
        obtain ⟨hso, hrb⟩ := hso
        unfold isSliceOf at hso
        simp only [Bool.and_eq_true] at hso
        obtain ⟨hs1, hs2⟩ := hso
        have hst := sizeIs_ok hs2
        have hu : P.underlying t = some (.slice e) := by
          split at hs1
          · rename_i e' hu; rw [hu, Nat.eq_of_beq_eq_true hs1]
          · cases hs1
        obtain ⟨i, z, hν, hB⟩ := hr.blk _ _ hb
        obtain ⟨cs, m, hg, hz, h0, hlen, hrd⟩ := hB
        obtain ⟨hx, hr1⟩ := hr.freeze hb hν (Nat.le_of_ble_eq_true hrb) hg
        refine ⟨_, _, _, h, ⟨hr1, hx, rfl, rfl, .write _ _ _ (Nat.le_of_ble_eq_true hrb)⟩, ?_⟩
        have hrow : RowR P (fun j => if j = i then some (cs, z) else σ j) e z l cs := RowR.mono ⟨hlen, hrd⟩ hx
        have key : ∀ off cap, (off = o.v * z ∨ (n.v = 0 ∧ off ≤ o.v * z)) → (cap = UNK ∨ (n.v ≤ cap ∧ cap < UNK)) → VRel P (fun j => if j = i then some (cs, z) else σ j) ν (.dat t (.list ((l.drop o.v).take n.v))) (.slice (some ⟨i, off, none⟩) n.v cap) := by
          intro off cap ho hc
          have hll : ((l.drop o.v).take n.v).length = n.v := by rw [List.length_take, List.length_drop]; omega
          have hmul : (o.v + n.v) * z ≤ l.length * z := Nat.mul_le_mul_right _ hle
          rw [Nat.add_mul] at hmul
          have hcl := hrow.1
          have := ReadsA.list (P := P) (σ := fun j => if j = i then some (cs, z) else σ j) (t := t) (l := (l.drop o.v).take n.v) (i := i) (cs := cs) (o := off) (c := cap) hu hst hz (by simp) (by rw [hll]; rcases ho with ho | ho; rw [ho]; omega; rw [ho.1, Nat.zero_mul]; omega) (by rw [hll]; exact hc) (fun j d hj => by
            have hjl : j < n.v := by have := (List.getElem?_eq_some_iff.1 hj).1; omega
            rw [List.getElem?_take, if_pos hjl, List.getElem?_drop] at hj
            rcases ho with ho | ho
            · have := hrow.2 _ _ hj
              rw [ho, ← Nat.add_mul]
              exact this
            · omega)
          rw [hll] at this
          exact .dat hu this
        cases hv with
        | slcU hν' => rw [hν] at hν'; cases hν'; exact key _ _ (.inl rfl) (.inl rfl)
        | slc hν' hc hn ho => rw [hν] at hν'; cases hν'; exact key _ _ (by rcases ho with ho | ho; exact .inl ho; exact .inr ⟨by omega, ho.2⟩) (.inr ⟨hn, hc⟩)
    · exact h.elim
  · exact ⟨v, S, σ, h, .refl hr, hv⟩

theorem frzL_ok : ∀ {ts : List TypeId} {vs : List V} {vs' : List Value} {S : SS} {σ : Sig} {K : List V → SS → Prop}, SR P base H0 ν σ S F H → frzL P ts vs S K → LRel P σ ν vs vs' →
    ∃ us S1 σ1, K us S1 ∧ FzR P base H0 ν σ S F H σ1 S1 ∧ LRel P σ1 ν us vs'
  | ts, [], vs', S, σ, K, hr, h, hv => ⟨[], S, σ, by cases ts <;> exact h, .refl hr, by rw [hv.nil_inv]; exact .nil⟩
  | [], v :: vs, vs', S, σ, K, hr, h, hv => ⟨v :: vs, S, σ, h, .refl hr, hv⟩
  | t :: ts, v :: vs, vs', S, σ, K, hr, h, hv => by
    obtain ⟨v', r, rfl, h1, h2⟩ := hv.cons_inv
    obtain ⟨u, S1, σ1, h, f1, hu⟩ := frz1_ok hr (show frz1 P S t v (fun v S => frzL P ts vs S fun vs S => K (v :: vs) S) from h) h1
    obtain ⟨us, S2, σ2, h, f2, hus⟩ := frzL_ok f1.1 h (h2.mono f1.2.1 (.refl _))
    exact ⟨u :: us, S2, σ2, h, f1.trans f2, .cons (hu.mono f2.2.1 (.refl _)) hus⟩

theorem frzV_ok (hr : SR P base H0 ν σ S F H) {ts : List TypeId} {v : V} {v' : Value} {K : V → SS → Prop} (h : frzV P S ts v K) (hv : VRel P σ ν v v') :
    ∃ u S1 σ1, K u S1 ∧ FzR P base H0 ν σ S F H σ1 S1 ∧ VRel P σ1 ν u v' := by
  unfold frzV at h
  split at h
  · cases hv with
    | agg h1 h2 =>
      obtain ⟨us, S1, σ1, h, f1, hu⟩ := frzL_ok hr h ⟨h1, h2⟩
      exact ⟨_, S1, σ1, h, f1, .agg hu.1 hu.2⟩
  · split at h
    · exact frz1_ok hr h hv
    · exact ⟨_, S, σ, h, .refl hr, hv⟩
  · exact ⟨_, S, σ, h, .refl hr, hv⟩

theorem frzParts_ok {ts : List TypeId} : ∀ {ps : List (Nat × V)} {vs' : List Value} {S : SS} {σ : Sig} {K : List (Nat × V) → SS → Prop}, SR P base H0 ν σ S F H → frzParts P ts ps S K → LRel P σ ν (ps.map (·.2)) vs' →
    ∃ us S1 σ1, K us S1 ∧ us.map (·.1) = ps.map (·.1) ∧ FzR P base H0 ν σ S F H σ1 S1 ∧ LRel P σ1 ν (us.map (·.2)) vs'
  | [], vs', S, σ, K, hr, h, hv => ⟨[], S, σ, h, rfl, .refl hr, hv⟩
  | x :: ps, vs', S, σ, K, hr, h, hv => by
    obtain ⟨v', r, rfl, h1, h2⟩ := LRel.cons_inv (show LRel P σ ν (x.2 :: ps.map (·.2)) vs' from hv)
    obtain ⟨u, S1, σ1, h, f1, hu⟩ := frzV_ok hr (show frzV P S ts x.2 (fun v S => frzParts P ts ps S fun ps S => K ((x.1, v) :: ps) S) from h) h1
    obtain ⟨us, S2, σ2, h, hm, f2, hus⟩ := frzParts_ok f1.1 h (h2.mono f1.2.1 (.refl _))
    exact ⟨(x.1, u) :: us, S2, σ2, h, by simp [hm], f1.trans f2, .cons (hu.mono f2.2.1 (.refl _)) hus⟩

/-- An operation after freezing. -/
theorem OpR.frozen {σ1 : Sig} {S1 : SS} {r : Option (Value × AHeap)} {K : V → SS → Prop} (f : FzR P base H0 ν σ S F H σ1 S1) (h : OpR P base H0 ν σ1 S1 F r K) : OpR P base H0 ν σ S F r K := by
  obtain ⟨v', h', hr, v, S', ν', σ', k, sr, hv, hn, hx, hf, hk⟩ := h
  exact ⟨v', h', hr, v, S', ν', σ', k, sr, hv, by rw [← f.2.2.2.1]; exact hn, f.2.1.trans hx, hf.trans f.2.2.1, f.2.2.2.2.trans hk⟩
end
end Go.Ev
