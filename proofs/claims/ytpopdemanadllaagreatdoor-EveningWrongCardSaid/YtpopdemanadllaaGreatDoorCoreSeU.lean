/-
  Part of the engine that the claim is proved with: it states nothing of the document by itself.
-/
import Derived.Test.YtpopdemanadllaaGreatDoorCoreSeT

namespace Go.Ev
section
variable {P : Program} {base : Nat} {H0 : AHeap × Sig} {ν : Nu} {σ : Sig} {S : SS} {F : AFrame} {H : AHeap} {K : V → SS → Prop} {Kv : V → Prop}
theorem symIndexAddr_ok {t : TypeId} {x ix : V} {x' ix' : Value} (hr : SR P base H0 ν σ S F H) (h : symIndexAddr P S t x ix Kv) (hx : VRel P σ ν x x') (hi : VRel P σ ν ix ix') : VOK P σ ν H (valA (indexAddrA P t x' ix') H) Kv := by
 unfold symIndexAddr at h
 split at h
 ·rename_i i n e hn hu
  obtain ⟨⟨k, rfl⟩, hnv⟩ := nlOf_ok hn hi
  split at h
  ·rename_i b o l c
   split at h
   ·rename_i e' ll hb
    cases he : Nat.beq e e' with
    | false => rw [he] at h; exact h.elim
    | true =>
     have := Nat.eq_of_beq_eq_true he
     subst this
     rw [he] at h
     obtain ⟨h0, h1, h⟩ := h
     obtain ⟨i', z, hν, hB⟩ := hr.blkT _ _ hb
     obtain ⟨cs, m, hg, hsz, hz0, hlen, hrd⟩ := hB
     have ei : i = ((n.v : Nat) : Int) := by omega
     have hlt : n.v < l.v := by omega
     have key : ∀ off cap, off = o.v * z → VOK P σ ν H (valA (indexAddrA P t (.slice (some ⟨i', off, none⟩) l.v cap) (.int k i)) H) Kv := by
      intro off cap ho
      refine ⟨_, .pointer (some ⟨i', off + n.v * z, none⟩), ?_, h, ?_⟩
      ·rw [ei]
       show valA (indexAddrA P t _ (.int k (.ofNat n.v))) H = _
       simp only [indexAddrA, hu, hsz, show Nat.blt n.v l.v = true from Nat.ble_eq_true_of_le hlt, cond_true, valA]
      ·have := VRel.ept (P := P) (σ := σ) (ν := ν) (n := o.add n) hν
       rw [NL.v_add, Nat.add_mul] at this
       rw [ho]; exact this
     cases hx with
     | slcU hν' => rw [hν] at hν'; cases hν'; exact key _ _ rfl
     | slc hν' hc hnc ho =>
      rw [hν] at hν'; cases hν'
      exact key _ _ (by rcases ho with ho | ho; exact ho; omega)
   ·rename_i w e' e0 ll hb
    cases he : Nat.beq e e' with
    | false => rw [he] at h; exact h.elim
    | true =>
     have := Nat.eq_of_beq_eq_true he
     subst this
     rw [he] at h
     obtain ⟨h0, h1, h⟩ := h
     obtain ⟨i', z, hν, hB⟩ := hr.blkT _ _ hb
     obtain ⟨cs, m, hg, hsz, hz0, hlen, hone, hrd⟩ := hB
     have ei : i = ((n.v : Nat) : Int) := by omega
     have hlt : n.v < l.v := by omega
     have key : ∀ off cap, off = o.v * z → VOK P σ ν H (valA (indexAddrA P t (.slice (some ⟨i', off, none⟩) l.v cap) (.int k i)) H) Kv := by
      intro off cap ho
      refine ⟨_, .pointer (some ⟨i', off + n.v * z, none⟩), ?_, h, ?_⟩
      ·rw [ei]
       show valA (indexAddrA P t _ (.int k (.ofNat n.v))) H = _
       simp only [indexAddrA, hu, hsz, show Nat.blt n.v l.v = true from Nat.ble_eq_true_of_le hlt, cond_true, valA]
      ·have := VRel.ept (P := P) (σ := σ) (ν := ν) (n := o.add n) hν
       rw [NL.v_add, Nat.add_mul] at this
       rw [ho]; exact this
     cases hx with
     | slcU hν' => rw [hν] at hν'; cases hν'; exact key _ _ rfl
     | slc hν' hc hnc ho =>
      rw [hν] at hν'; cases hν'
      exact key _ _ (by rcases ho with ho | ho; exact ho; omega)
   ·exact h.elim
  ·rename_i t' d
   cases hc : (Nat.beq t t' && posT P e) with
   | false => rw [hc] at h; exact h.elim
   | true =>
    rw [hc] at h
    simp only [Bool.and_eq_true] at hc
    have := Nat.eq_of_beq_eq_true hc.1
    subst this
    obtain ⟨h0, h1, h⟩ := h
    cases hx with
    | dat ht hrd =>
     rcases hrd.sliceInv hu with ⟨rfl, hcs⟩ | ⟨l, i', o, c, sz, cs', rfl, hcs, hsz, hσ, hle, hcc, hel⟩
     ·simp [D.len, D.asList] at h1; omega
     ·cases hcs
      have hlt : n.v < l.length := by simp only [D.len, D.asList] at h1; omega
      have hs0 : 0 < sz := by
       have := hc.2
       unfold posT at this
       rw [hsz] at this
       exact blt_lt this
      have ei : i = ((n.v : Nat) : Int) := by omega
      have hm : (n.v + 1) * sz ≤ l.length * sz := Nat.mul_le_mul_right _ hlt
      rw [Nat.succ_mul] at hm
      refine ⟨_, .pointer (some ⟨i', o + n.v * sz, none⟩), ?_, h, ?_⟩
      ·rw [ei]
       show valA (indexAddrA P t _ (.int k (.ofNat n.v))) H = _
       simp only [indexAddrA, hu, hsz, show Nat.blt n.v l.length = true from Nat.ble_eq_true_of_le hlt, cond_true, valA]
      ·have hel' := hel n.v (nthD l n.v) (by simp [nthD, hlt])
       exact .dpt hσ hsz hs0 (by omega) hel'
  ·rename_i b v j l
   split at h
   ·rename_i v' q1 e' ll hb
    cases he : (Nat.beq v v' && Nat.beq e e') with
    | false => rw [he] at h; exact h.elim
    | true =>
     rw [he] at h
     simp only [Bool.and_eq_true] at he
     have e1 := Nat.eq_of_beq_eq_true he.1
     have e2 := Nat.eq_of_beq_eq_true he.2
     subst e1 e2
     obtain ⟨h0, h1, hj, hjl, h⟩ := h
     have hd : ll[j.v]? = some (nthD ll j.v) := by simp [nthD, hj]
     obtain ⟨r, hr1⟩ : ∃ r, nthD ll j.v = .list r := by
      cases hc : nthD ll j.v <;> rw [hc] at hjl <;> first | exact ⟨_, rfl⟩ | (simp [D.len, D.asList] at hjl; omega)
     rw [hr1] at hd
     cases hx with
     | osl hν' hcap =>
     rename_i q z c
     obtain ⟨i', z', hν, hB⟩ := hr.blk (.sub v j.v) (.arr e r) ⟨b, q1, e, ll, r, hb, hd, rfl⟩
     rw [hν'] at hν; cases hν
     obtain ⟨cs, m, hg, hsz, hz0, hlen, hrd⟩ := hB
     have ei : i = ((n.v : Nat) : Int) := by omega
     have hlt : n.v < l.v := by omega
     refine ⟨_, .pointer (some ⟨q, 0 + n.v * z, none⟩), ?_, h, by rw [Nat.zero_add]; exact .oel hν'⟩
     rw [ei]
     show valA (indexAddrA P t _ (.int k (.ofNat n.v))) H = _
     simp only [indexAddrA, hu, hsz, show Nat.blt n.v l.v = true from Nat.ble_eq_true_of_le hlt, cond_true, valA]
   ·exact h.elim
  ·exact h.elim
 ·rename_i i n len e hn hu
  obtain ⟨⟨k, rfl⟩, hnv⟩ := nlOf_ok hn hi
  have key : ∀ (b i' z o : Nat) (m : NL) (s : Nat), sizeT P e = some s → ν b = some (i', z) → z = 1 → o = m.v → 0 ≤ i → i < (len : Int) → Kv (.ept b (m.add (n.mulK s))) → VOK P σ ν H (valA (indexAddrA P t (.pointer (some ⟨i', o, none⟩)) (.int k i)) H) Kv := by
   intro b i' z o m s hsz hν hz ho h0 h1 h
   have ei : i = ((n.v : Nat) : Int) := by omega
   have hlt : n.v < len := by omega
   refine ⟨_, .pointer (some ⟨i', o + n.v * s, none⟩), ?_, h, ?_⟩
   ·rw [ei]
    show valA (indexAddrA P t _ (.int k (.ofNat n.v))) H = _
    simp only [indexAddrA, hu, hsz, show Nat.blt n.v len = true from Nat.ble_eq_true_of_le hlt, cond_true, valA]
   ·have := VRel.ept (P := P) (σ := σ) (ν := ν) (n := m.add (n.mulK s)) hν
    rw [NL.v_add, NL.v_mulK, hz, Nat.mul_one] at this
    rw [ho]; exact this
  split at h
  ·rename_i b o
   split at h
   ·rename_i a' e' l s hb hs
    cases hc : sizeIs P e' 1 with
    | false => rw [hc] at h; exact h.elim
    | true =>
     rw [hc] at h
     obtain ⟨h0, h1, h⟩ := h
     obtain ⟨i', z, hν, hB⟩ := hr.blkT _ _ hb
     obtain ⟨cs, m, hg, hsz, hz0, hlen, hrd⟩ := hB
     have hz : z = 1 := by rw [sizeIs_ok hc] at hsz; exact (Option.some.inj hsz).symm
     cases hx with
     | ptr hν' =>
      rw [hν] at hν'; cases hν'
      exact key b i' z o (.lit o) s hs hν hz rfl h0 h1 h
   ·rename_i be cs0 s hb hs
    split at h
    ·rename_i n
     obtain ⟨h0, h1, h⟩ := h
     cases hx with
     | ptr hν' =>
      have hnv' : i = ((n : Nat) : Int) := by have : (NL.lit n).v = n := rfl; omega
      have hlt : n < len := by omega
      rename_i i' z
      refine ⟨_, .pointer (some ⟨i', o + n * s, none⟩), ?_, h, .ptr hν'⟩
      rw [hnv']
      show valA (indexAddrA P t _ (.int k (.ofNat n))) H = _
      simp only [indexAddrA, hu, hs, show Nat.blt n len = true from Nat.ble_eq_true_of_le hlt, cond_true, valA]
    ·exact h.elim
   ·exact h.elim
  ·rename_i b m
   split at h
   ·rename_i a' e' l s hb hs
    cases hc : sizeIs P e' 1 with
    | false => rw [hc] at h; exact h.elim
    | true =>
     rw [hc] at h
     obtain ⟨h0, h1, h⟩ := h
     obtain ⟨i', z, hν, hB⟩ := hr.blkT _ _ hb
     obtain ⟨cs, mm, hg, hsz, hz0, hlen, hrd⟩ := hB
     have hz : z = 1 := by rw [sizeIs_ok hc] at hsz; exact (Option.some.inj hsz).symm
     cases hx with
     | ept hν' =>
      rw [hν] at hν'; cases hν'
      exact key b i' z (m.v * z) m s hs hν hz (by rw [hz, Nat.mul_one]) h0 h1 h
   ·exact h.elim
  ·exact h.elim
 ·exact h.elim
theorem symGIdx_ok {t : TypeId} {g : Nat} {ix : V} {ix' : Value} (hr : SR P base H0 ν σ S F H) (h : symGIdx P t g ix Kv) (hi : VRel P σ ν ix ix') : VOK P σ ν H (valA (indexAddrA P t (.pointer (some ⟨g, 0, none⟩)) ix') H) Kv := h.out.elim
theorem symLen_ok {ats : Array TypeId} {type : TypeId} {cb : Array Bool} {x : V} {x' : Value} {t : TypeId} (ht : ats[0]? = some t) (h : symLen P t x Kv) (hx : VRel P σ ν x x') (H : AHeap) : VOK P σ ν H (lenA P ats type cb #[x'] H) Kv := by
 have e0 : (#[x'] : Array Value)[0]? = some x' := rfl
 have und : ∀ e, P.underlying t = some e → (Go.underlying t).val? P = some e := fun e hu => by
  unfold Go.underlying
  rw [val?_bind]
  have : (Go.program).val? P = some P := rfl
  rw [this]
  simp only [Option.bind_some, hu]; rfl
 have nil : isSliceT P t = true → lenA P ats type cb #[.slice none 0 0] H = some (.int .i64 0, H) := fun hs => by
  obtain ⟨e, hu⟩ : ∃ e, P.underlying t = some (.slice e) := by unfold isSliceT at hs; split at hs <;> simp_all
  have flb : (builtin .len ats type cb #[Value.slice none 0 0]).val? P = some (.value (.int .i64 0)) := by
   show (do pure (Next.value (← Builtin.len_ ats type #[Value.slice none 0 0])) : Sem Next).val? P = _
   have : (Builtin.len_ ats type #[Value.slice none 0 0]).val? P = some (.int .i64 0) := by
    unfold Builtin.len_
    simp only [ht]
    show (do match ← underlying t, Value.slice none 0 0 with | _, _ => _ : Sem Value).val? P = _
    rw [val?_bind, und _ hu]; rfl
   rw [val?_bind, this]; rfl
  unfold lenA
  simp only [ht]
  show flatB P .len ats type cb #[.slice none 0 0] H = _
  unfold flatB
  rw [flb]; rfl
 have str : isStrT P t = true → ∀ b : ByteArray, lenA P ats type cb #[.string b] H = some (.int .i64 b.size, H) := fun hs b => by
  have hu : P.underlying t = some .string := by unfold isStrT at hs; split at hs <;> simp_all
  have fls : (builtin .len ats type cb #[Value.string b]).val? P = some (.value (.int .i64 b.size)) := by
   show (do pure (Next.value (← Builtin.len_ ats type #[Value.string b])) : Sem Next).val? P = _
   have : (Builtin.len_ ats type #[Value.string b]).val? P = some (.int .i64 b.size) := by
    unfold Builtin.len_
    simp only [ht]
    show (do match ← underlying t, Value.string b with | _, _ => _ : Sem Value).val? P = _
    rw [val?_bind, und _ hu]; rfl
   rw [val?_bind, this]; rfl
  unfold lenA
  simp only [ht]
  show flatB P .len ats type cb #[.string b] H = _
  unfold flatB
  rw [fls]; rfl
 have some_ : ∀ i o n c, isSliceT P t = true → lenA P ats type cb #[.slice (some ⟨i, o, none⟩) n c] H = some (.int .i64 n, H) := fun i o n c hs => by
  obtain ⟨e, hu⟩ : ∃ e, P.underlying t = some (.slice e) := by unfold isSliceT at hs; split at hs <;> simp_all
  unfold lenA
  simp only [ht]
  show (match P.underlying t with | some (.slice _) => some (Value.int .i64 n, H) | _ => none) = _
  rw [hu]
 unfold symLen at h
 split at h
 ·rename_i b o n c
  cases hs : isSliceT P t with
  | false => rw [hs] at h; exact h.elim
  | true =>
   rw [hs] at h
   have hl : ∃ i off cap, x' = .slice (some ⟨i, off, none⟩) n.v cap := by cases hx with | slcU _ => exact ⟨_, _, _, rfl⟩ | slc _ _ _ _ => exact ⟨_, _, _, rfl⟩
   obtain ⟨i, off, cap, rfl⟩ := hl
   simp only [cond_true] at h
   split at h
   ·exact ⟨_, _, some_ _ _ _ _ hs, h, .val rfl⟩
   ·exact ⟨_, _, some_ _ _ _ _ hs, h, .int⟩
 ·rename_i b v j n
  cases hs : isSliceT P t with
  | false => rw [hs] at h; exact h.elim
  | true =>
   rw [hs] at h
   cases hx with
   | osl _ _ =>
   simp only [cond_true] at h
   split at h
   ·exact ⟨_, _, some_ _ _ _ _ hs, h, .val rfl⟩
   ·exact ⟨_, _, some_ _ _ _ _ hs, h, .int⟩
 ·rename_i t' d
  cases hs : isSliceT P t with
  | false => rw [hs] at h; exact h.elim
  | true =>
   rw [hs] at h
   cases hx with
   | dat htt hrd =>
    rcases hrd.sliceInv htt with ⟨rfl, hcs⟩ | ⟨l, i', o, c, sz, cs', rfl, hcs, _⟩
    ·cases hcs; exact ⟨.int .i64 ((D.nil.len : Nat) : Int), _, nil hs, h, .int⟩
    ·cases hcs; exact ⟨_, _, some_ _ _ _ _ hs, h, .int⟩
 ·cases hs : isSliceT P t with
  | false => rw [hs] at h; exact h.elim
  | true =>
   rw [hs] at h
   cases hx with
   | val _ => exact ⟨_, _, nil hs, h, .val rfl⟩
 ·cases hs : isStrT P t with
  | false => rw [hs] at h; exact h.elim
  | true =>
   rw [hs] at h
   cases hx with
   | str => exact ⟨_, _, str hs _, h, .int⟩
 ·cases hs : isStrT P t with
  | false => rw [hs] at h; exact h.elim
  | true =>
   rw [hs] at h
   cases hx with
   | val _ => exact ⟨_, _, str hs _, h, .val rfl⟩
 ·exact h.elim
theorem symCap_ok {ats : Array TypeId} {type : TypeId} {cb : Array Bool} {x : V} {x' : Value} {t : TypeId} (ht : ats[0]? = some t) (h : symCap P t x Kv) (hx : VRel P σ ν x x') (H : AHeap) : VOK P σ ν H (flatB P .cap ats type cb #[x'] H) Kv := by
 have und : ∀ e, P.underlying t = some e → (Go.underlying t).val? P = some e := fun e hu => by
  unfold Go.underlying
  rw [val?_bind]
  have : (Go.program).val? P = some P := rfl
  rw [this]
  simp only [Option.bind_some, hu]; rfl
 unfold symCap at h
 split at h
 ·cases hs : isSliceT P t with
  | false => rw [hs] at h; exact h.elim
  | true =>
   rw [hs] at h
   cases hx with
   | val _ =>
    obtain ⟨e, hu⟩ : ∃ e, P.underlying t = some (.slice e) := by unfold isSliceT at hs; split at hs <;> simp_all
    have flb : (builtin .cap ats type cb #[Value.slice none 0 0]).val? P = some (.value (.int .i64 0)) := by
     show (do pure (Next.value (← Builtin.cap_ ats type #[Value.slice none 0 0])) : Sem Next).val? P = _
     have : (Builtin.cap_ ats type #[Value.slice none 0 0]).val? P = some (.int .i64 0) := by
      unfold Builtin.cap_
      simp only [ht]
      show (do match ← underlying t, Value.slice none 0 0 with | _, _ => _ : Sem Value).val? P = _
      rw [val?_bind, und _ hu]; rfl
     rw [val?_bind, this]; rfl
    refine ⟨_, .int .i64 0, ?_, h, .val rfl⟩
    unfold flatB
    rw [flb]; rfl
 ·exact h.elim
theorem symMinMax_ok {ats : Array TypeId} {type : TypeId} {cb : Array Bool} {mx : Bool} {args : List V} {args' : List Value} (h : symMinMax mx args Kv) (hl : LRel P σ ν args args') (H : AHeap) : VOK P σ ν H (flatB P (cond mx .max .min) ats type cb ⟨args'⟩ H) Kv := by
 unfold symMinMax at h
 split at h
 ·rename_i a b
  obtain ⟨a', r, rfl, ha, hl⟩ := hl.cons_inv
  obtain ⟨b', r, rfl, hb, hl⟩ := hl.cons_inv
  rw [hl.nil_inv]
  split at h
  ·rename_i k x k' y hx hy
   rw [intOf_ok hx ha, intOf_ok hy hb]
   cases hk : (k == k') with
   | false => rw [hk] at h; exact h.elim
   | true =>
    have := eq_of_beq hk
    subst this
    rw [hk] at h
    cases mx with
    | true =>
     refine ⟨_, .int k (if y > x then y else x), ?_, h, ?_⟩
     ·show flatB P .max ats type cb _ H = _
      unfold flatB
      have hv : (builtin .max ats type cb ⟨[.int k x, .int k y]⟩).val? P = some (.value (.int k (if y > x then y else x))) := rfl
      rw [hv]; rfl
     ·have : (if y > x then y else x) = max x y := by split <;> omega
      rw [this]; exact .int
    | false =>
     refine ⟨_, .int k (if y < x then y else x), ?_, h, ?_⟩
     ·show flatB P .min ats type cb _ H = _
      unfold flatB
      have hv : (builtin .min ats type cb ⟨[.int k x, .int k y]⟩).val? P = some (.value (.int k (if y < x then y else x))) := rfl
      rw [hv]; rfl
     ·have : (if y < x then y else x) = min x y := by split <;> omega
      rw [this]; exact .int
  ·exact h.elim
 ·rename_i a b c
  obtain ⟨a', r, rfl, ha, hl⟩ := hl.cons_inv
  obtain ⟨b', r, rfl, hb, hl⟩ := hl.cons_inv
  obtain ⟨c', r, rfl, hc, hl⟩ := hl.cons_inv
  rw [hl.nil_inv]
  split at h
  ·rename_i k x k' y k'' z hx hy hz
   rw [intOf_ok hx ha, intOf_ok hy hb, intOf_ok hz hc]
   cases hk : (mx && (k == k' && k == k'')) with
   | false => rw [hk] at h; exact h.elim
   | true =>
    rw [hk] at h
    simp only [Bool.and_eq_true] at hk
    obtain ⟨rfl, h1, h2⟩ := hk
    have := eq_of_beq h1
    subst this
    have := eq_of_beq h2
    subst this
    refine ⟨_, .int k (if z > (if y > x then y else x) then z else (if y > x then y else x)), ?_, h, ?_⟩
    ·show flatB P .max ats type cb _ H = _
     unfold flatB
     have hv : (builtin .max ats type cb ⟨[.int k x, .int k y, .int k z]⟩).val? P = some (.value (.int k (if z > (if y > x then y else x) then z else (if y > x then y else x)))) := rfl
     rw [hv]; rfl
    ·have : (if z > (if y > x then y else x) then z else (if y > x then y else x)) = max (max x y) z := by split <;> split <;> omega
     rw [this]; exact .int
  ·exact h.elim
 ·exact h.elim
theorem symBuild_ok {t : TypeId} {parts : Array (Nat × Operand)} {ps : List (Nat × V)} (h : symBuild P t ps Kv) (hm : ps.map (·.1) = parts.toList.map (·.1)) (hl : LRel P σ ν (ps.map (·.2)) (parts.toList.map fun x => aeval F x.2)) (H : AHeap) :
  VOK P σ ν H (cond (zflat P t) (valA ((Instr.build t (parts.map fun (i, x) => (i, aeval F x))).val? P) H) none) Kv := h.out.elim
end
end Go.Ev
