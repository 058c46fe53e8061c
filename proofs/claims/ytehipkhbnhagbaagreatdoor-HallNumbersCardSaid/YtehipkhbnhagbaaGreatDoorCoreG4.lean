/-
  Part of the engine that the claim is proved with: it states nothing of the document by itself.
-/
import Derived.Test.YtehipkhbnhagbaaGreatDoorCoreG3
import Derived.Test.YtehipkhbnhagbaaGreatDoorProg
import Derived.Lib.SlicesCompact
import Derived.Test.YtehipkhbnhagbaaGreatDoorCoreG1
import Derived.ChangeSlices
import Derived.WideShapes
import Derived.ProofKit
import Derived.Carry
import Derived.JoinedOf
import Derived.LaidLaws
import Derived.LaidMore

section

namespace Go.Ev

def Stab (σ : Sig) (H : AHeap) : Prop := ∀ i c, σ i = some c → i < H.next ∧ ∃ e m ro, H.get i = some (.cells c.1 e c.2 m ro)
/-- A contract holds, of the evaluator's calls. -/
def Valid (P : Program) (G : Msk) (run : Run) (g : FuncId) (c : Con) : Prop :=
  ∀ (as : List V) (p : Prop) (r : V), c as = some (p, r) → p → ∀ (σ : Sig) (H : AHeap) (vs : List Value), Stab σ H → LRel P σ (fun _ => none) as vs →
    ∃ v H' σ', callF P G run g ⟨vs⟩ H = some (v, H') ∧ XS σ σ' ∧ Stab σ' H' ∧ (∀ i c, σ' i = some c → σ i = some c ∨ H.next ≤ i) ∧ H.next ≤ H'.next ∧ (∀ i, i < H.next → H'.get i = H.get i) ∧ (∀ n, n ≤ H.wlow → n ≤ H.next → n ≤ H'.wlow) ∧ VRel P σ' (fun _ => none) r v

/-- Symbolic runs stand for the evaluator's. -/
def RunS (P : Program) (srun : SRun) (run : Run) : Prop := ∀ g c S Q, srun g c S Q → S.fl ≤ S.nx → ∀ base H0 ν σ F H, SR P base H0 ν σ S F H →
  ∃ e F' H', run none c F H = some (e, F', H') ∧ ∃ S' ν' σ', Q e S' ∧ SR P base H0 ν' σ' S' F' H' ∧ XNn S.fl ν ν' ∧ XS σ σ' ∧ Keeps S S'

section
variable {P : Program} {base : Nat} {H0 : AHeap × Sig} {ν : Nu} {σ : Sig} {S : SS} {F : AFrame} {H : AHeap} {K : V → SS → Prop} {Kv : V → Prop}

theorem VRel.plainR {v : V} {v' : Value} (h : VRel P σ ν v v') (hp : v.plainR = true) (σ' : Sig) (ν' : Nu) : VRel P σ' ν' v v' := by
  have one : ∀ (v : V) (v' : Value), VRel P σ ν v v' → v.plain = true → VRel P σ' ν' v v' := by
    intro v v' h hp
    cases h with
    | val h => exact .val h
    | undef => exact .undef
    | int => exact .int
    | prop => exact .prop
    | str => exact .str
    | _ => simp [V.plain] at hp
  cases h with
  | agg h1 h2 =>
    simp only [V.plainR, List.all_eq_true] at hp
    exact .agg h1 fun j v v' a b => one v v' (h2 j v v' a b) (hp v (List.mem_of_getElem? a))
  | tup h1 h2 =>
    simp only [V.plainR, List.all_eq_true] at hp
    exact .tup h1 fun j v v' a b => one v v' (h2 j v v' a b) (hp v (List.mem_of_getElem? a))
  | val h => exact .val h
  | undef => exact .undef
  | int => exact .int
  | prop => exact .prop
  | str => exact .str
  | _ => simp [V.plainR, V.plain] at hp
theorem VRel.freeR {v : V} {v' : Value} (h : VRel P σ ν v v') (hp : v.freeR = true) (ν' : Nu) : VRel P σ ν' v v' := by
  have one : ∀ (v : V) (v' : Value), VRel P σ ν v v' → v.free = true → VRel P σ ν' v v' := by
    intro v v' h hp
    cases h with
    | val h => exact .val h
    | undef => exact .undef
    | int => exact .int
    | prop => exact .prop
    | str => exact .str
    | dat a b => exact .dat a b
    | dpt a b c d e => exact .dpt a b c d e
    | _ => simp [V.free, V.plain] at hp
  cases h with
  | agg h1 h2 =>
    simp only [V.freeR, List.all_eq_true] at hp
    exact .agg h1 fun j v v' a b => one v v' (h2 j v v' a b) (hp v (List.mem_of_getElem? a))
  | tup h1 h2 =>
    simp only [V.freeR, List.all_eq_true] at hp
    exact .tup h1 fun j v v' a b => one v v' (h2 j v v' a b) (hp v (List.mem_of_getElem? a))
  | val h => exact .val h
  | undef => exact .undef
  | int => exact .int
  | prop => exact .prop
  | str => exact .str
  | dat a b => exact .dat a b
  | dpt a b c d e => exact .dpt a b c d e
  | _ => simp [V.freeR, V.free, V.plain] at hp

/-- The rows of the call's own, as such that nobody writes. -/
noncomputable def lentS (S : SS) (ν : Nu) (σ : Sig) (H : AHeap) : Sig := fun i =>
  match σ i with
  | some c => some c
  | none =>
    open Classical in
    if ∃ b e l z, S.hp.get b = some (.arr e l) ∧ ν b = some (i, z) then
      (match H.get i with | some (.cells cs _ esz _ _) => some (cs, esz) | _ => none) else none
theorem lent_xs : XS σ (lentS S ν σ H) := fun i c h => by unfold lentS; rw [h]
theorem lent_stab (hr : SR P base H0 ν σ S F H) : Stab (lentS S ν σ H) H := by
  intro i c h
  unfold lentS at h
  split at h
  · rename_i c' hc
    simp only [Option.some.injEq] at h
    subst h
    exact hr.sig i _ hc
  · split at h
    · rename_i hex
      obtain ⟨b, e, l, z, hb, hν⟩ := hex
      split at h
      · rename_i cs e' esz m ro hg
        simp only [Option.some.injEq] at h
        subst h
        exact ⟨hr.lt _ _ _ hν, e', m, ro, hg⟩
      · cases h
    · cases h
theorem lent_at (hr : SR P base H0 ν σ S F H) {b i z : Nat} {e : TypeId} {l : List D} (hb : S.hp.get b = some (.arr e l)) (hν : ν b = some (i, z)) : ∃ cs, lentS S ν σ H i = some (cs, z) ∧ sizeT P e = some z ∧ 0 < z ∧ RowR P σ e z l cs := by
  obtain ⟨i', z', hν', hB⟩ := hr.blk _ _ hb
  rw [hν] at hν'; cases hν'
  obtain ⟨cs, m, hg, hs, h0, hlen, hrd⟩ := hB
  refine ⟨cs, ?_, hs, h0, hlen, hrd⟩
  unfold lentS
  rw [hr.apart b _ i z hb hν]
  simp only
  rw [if_pos ⟨b, e, l, z, hb, hν⟩, hg]

theorem lend_ok (hr : SR P base H0 ν σ S F H) {t : TypeId} {v : V} {v' : Value} {Kv : V → Prop} (h : lend P S t v Kv) (hv : VRel P σ ν v v') : ∃ u, Kv u ∧ VRel P (lentS S ν σ H) (fun _ => none) u v' ∧ (v.freeR = true → VRel P σ (fun _ => none) u v') := by
  unfold lend at h
  split at h
  · rename_i b o n c
    split at h
    · rename_i e l hb
      cases hso : isSliceOf P t e with
      | false => rw [hso] at h; exact h.elim
      | true =>
        rw [hso] at h
        obtain ⟨hle, h⟩ := h
        unfold isSliceOf at hso
        simp only [Bool.and_eq_true] at hso
        obtain ⟨hs1, hs2⟩ := hso
        have hst := sizeIs_ok hs2
        have hu : P.underlying t = some (.slice e) := by
          split at hs1
          · rename_i e' hu; rw [hu, Nat.eq_of_beq_eq_true hs1]
          · cases hs1
        have key : ∀ i z off cap, ν b = some (i, z) → (off = o.v * z ∨ (n.v = 0 ∧ off ≤ o.v * z)) → (cap = UNK ∨ (n.v ≤ cap ∧ cap < UNK)) → VRel P (lentS S ν σ H) (fun _ => none) (.dat t (.list ((l.drop o.v).take n.v))) (.slice (some ⟨i, off, none⟩) n.v cap) := by
          intro i z off cap hν ho hc
          obtain ⟨cs, hσ, hz, h0, hrow⟩ := lent_at hr hb hν
          have hll : ((l.drop o.v).take n.v).length = n.v := by rw [List.length_take, List.length_drop]; omega
          have hmul : (o.v + n.v) * z ≤ l.length * z := Nat.mul_le_mul_right _ hle
          rw [Nat.add_mul] at hmul
          have hcl := hrow.1
          have := ReadsA.list (P := P) (σ := lentS S ν σ H) (t := t) (l := (l.drop o.v).take n.v) (o := off) (c := cap) hu hst hz hσ (by rw [hll]; rcases ho with ho | ho; rw [ho]; omega; rw [ho.1, Nat.zero_mul]; omega) (by rw [hll]; exact hc) (fun j d hj => by
            have hjl : j < n.v := by have := (List.getElem?_eq_some_iff.1 hj).1; omega
            rw [List.getElem?_take, if_pos hjl, List.getElem?_drop] at hj
            rcases ho with ho | ho
            · have := (hrow.mono (lent_xs (S := S) (ν := ν) (H := H))).2 _ _ hj
              rw [ho, ← Nat.add_mul]
              exact this
            · omega)
          rw [hll] at this
          exact .dat hu this
        refine ⟨_, h, ?_, fun hf => by simp [V.freeR, V.free, V.plain] at hf⟩
        cases hv with
        | slcU hν => exact key _ _ _ _ hν (.inl rfl) (.inl rfl)
        | slc hν hc hn ho => exact key _ _ _ _ hν (by rcases ho with ho | ho; exact .inl ho; exact .inr ⟨by omega, ho.2⟩) (.inr ⟨hn, hc⟩)
    · exact h.elim
  · cases hc : (isSliceT P t && sizeIs P t 1) with
    | false => rw [hc] at h; exact h.elim
    | true =>
      rw [hc] at h
      simp only [Bool.and_eq_true] at hc
      obtain ⟨e, hu⟩ : ∃ e, P.underlying t = some (.slice e) := by have := hc.1; unfold isSliceT at this; split at this <;> simp_all
      cases hv with
      | val _ => exact ⟨_, h, .dat hu (.nil hu (sizeIs_ok hc.2)), fun _ => .dat hu (.nil hu (sizeIs_ok hc.2))⟩
  · cases hf : v.freeR with
    | false => rw [hf] at h; exact h.elim
    | true => rw [hf] at h; exact ⟨v, h, (hv.freeR hf _).mono (lent_xs (S := S) (ν := ν) (H := H)) (.refl _), fun _ => hv.freeR hf _⟩

theorem lendAll_ok (hr : SR P base H0 ν σ S F H) : ∀ {ts : List TypeId} {vs : List V} {vs' : List Value} {Kv : List V → Prop} (_ : lendAll P S ts vs Kv) (_ : LRel P σ ν vs vs'), ∃ us, Kv us ∧ LRel P (lentS S ν σ H) (fun _ => none) us vs' ∧ (vs.all V.freeR = true → LRel P σ (fun _ => none) us vs')
  | _, [], vs', Kv, h, hv => by rw [hv.nil_inv]; exact ⟨[], by cases ‹List TypeId› <;> exact h, .nil, fun _ => .nil⟩
  | t :: ts, v :: vs, vs', Kv, h, hv => by
    obtain ⟨v', r, rfl, h1, h2⟩ := hv.cons_inv
    obtain ⟨u, h, hu, hf⟩ := lend_ok hr (show lend P S t v (fun v => lendAll P S ts vs fun vs => Kv (v :: vs)) from h) h1
    obtain ⟨us, h, hus, hfs⟩ := lendAll_ok hr h h2
    exact ⟨u :: us, h, .cons hu hus, fun ha => by simp only [List.all_cons, Bool.and_eq_true] at ha; exact .cons (hf ha.1) (hfs ha.2)⟩
  | [], v :: vs, vs', Kv, h, hv => by
    obtain ⟨v', r, rfl, h1, h2⟩ := hv.cons_inv
    simp only [lendAll] at h
    cases hf : v.freeR with
    | false => rw [hf] at h; exact h.elim
    | true =>
      rw [hf] at h
      obtain ⟨us, h, hus, hfs⟩ := lendAll_ok hr h h2
      exact ⟨v :: us, h, .cons ((h1.freeR hf _).mono (lent_xs (S := S) (ν := ν) (H := H)) (.refl _)) hus, fun ha => by simp only [List.all_cons, Bool.and_eq_true] at ha; exact .cons (h1.freeR hf _) (hfs ha.2)⟩

/-- What was not written stays: the state in a greater heap. -/
theorem SR.grow (hr : SR P base H0 ν σ S F H) {H' : AHeap} {σ' : Sig} (hx : XS σ σ') (hs : Stab σ' H') (hnew : ∀ i c, σ' i = some c → σ i = some c ∨ H.next ≤ i) (hn : H.next ≤ H'.next) (hg : ∀ i, i < H.next → H'.get i = H.get i) (hw : base ≤ H'.wlow) : SR P base H0 ν σ' S F H' := by
  have hσn : ∀ i, i < H.next → σ i = none → σ' i = none := fun i hi hn' => by
    cases hc : σ' i with
    | none => rfl
    | some c => rcases hnew i c hc with h | h; rw [hn'] at h; cases h; omega
  refine ⟨fun t v h => (hr.fr t v h).mono hx (.refl _), hr.fsz, hr.top, hr.nomk, ?_, fun b i z h => Nat.lt_of_lt_of_le (hr.lt b i z h) hn, hr.dom, hr.inj, hr.own, hs, ?_, ?_, hw, ?_, Nat.le_trans hr.nxt hn, hr.role, fun i c h hi => by
    rcases hnew i c h with h | h
    · exact hr.sb i c h hi
    · have := hr.nxt; omega⟩
  · intro b k h
    obtain ⟨i, z, h1, h2⟩ := hr.blk b k h
    exact ⟨i, z, h1, by rw [hg i (hr.lt _ _ _ h1)]; exact h2.mono hx (.refl _)⟩
  · intro b k i z h h'
    exact hσn i (hr.lt _ _ _ h') (hr.apart b k i z h h')
  · intro b k i z m h h' hm
    rw [AHeap.mate_congr (hg i (hr.lt _ _ _ h'))] at hm
    obtain ⟨q1, q2, q3, q4⟩ := hr.mates b k i z m h h' hm
    exact ⟨q1, Nat.lt_of_lt_of_le q2 hn, hσn m q2 q3, q4⟩
  · intro i hi
    rw [hg i (Nat.lt_of_lt_of_le hi hr.nxt)]
    exact hr.old i hi

theorem resS_ok (hr : SR P base H0 ν σ S F H) : ∀ {rs : List ResultVar} {Kv : List V → Prop} (_ : resS P S rs Kv), ∃ vs vs', resultA P H F rs = some vs' ∧ Kv vs ∧ LRel P σ ν vs vs'
  | [], Kv, h => ⟨[], [], rfl, h, .nil⟩
  | .tmp t :: rs, Kv, h => by
    simp only [resS] at h
    split at h
    · rename_i v hv
      obtain ⟨vs, vs', h1, h2, h3⟩ := resS_ok hr h
      exact ⟨v :: vs, F.get t :: vs', by simp only [resultA, h1], h2, .cons (hr.fr t v hv) h3⟩
    · exact h.elim
  | .cell a t :: rs, Kv, h => by
    simp only [resS] at h
    split at h
    · rename_i v hv
      obtain ⟨u, u', hl, h, hu⟩ := symLoad_ok hr h (hr.fr a v hv)
      obtain ⟨vs, vs', h1, h2, h3⟩ := resS_ok hr h
      exact ⟨u :: vs, u' :: vs', by simp only [resultA, hl, h1], h2, .cons hu h3⟩
    · exact h.elim

theorem frameS_ok {args : List V} {args' : List Value} (hl : LRel P σ ν args args') : ∀ t v, (frameS args 0 .leaf).get t = some v → ∃ v', args'[t]? = some v' ∧ VRel P σ ν v v' := by
  have gen : ∀ (l : List V) (n : Nat) (tr : T V) (t : Nat), (frameS l n tr).get t = if n ≤ t ∧ t < n + l.length then l[t - n]? else tr.get t := by
    intro l
    induction l with
    | nil => intro n tr t; rw [if_neg (fun hh => by have := hh.1; have := hh.2; simp only [List.length_nil] at this; omega)]; rfl
    | cons v l ih =>
      intro n tr t
      show (frameS l (n + 1) (tr.put n (some v))).get t = _
      rw [ih, T.get_put]
      by_cases h1 : t = n
      · subst h1; rw [if_neg (by omega), if_pos rfl, if_pos (by simp)]; simp
      · by_cases h2 : n + 1 ≤ t ∧ t < n + 1 + l.length
        · rw [if_pos h2, if_pos (by simp only [List.length_cons]; omega), show t - n = (t - (n + 1)) + 1 by omega, List.getElem?_cons_succ]
        · rw [if_neg h2, if_neg h1, if_neg (by simp only [List.length_cons]; omega)]
  intro t v h
  rw [gen] at h
  split at h
  · exact hl.get (by simpa using h)
  · cases h

theorem callF_sym {C : Ctx} {G : Msk} {srun : SRun} {run : Run} (hfast : G.fast = false) (hbits : G.bits = C.bits) (hrun : RunS C.P srun run) {g : FuncId} {args : List V} {args' : List Value} (hr : SR C.P base H0 ν σ S F H) (h : symInline C srun g args S K) (hl : LRel C.P σ ν args args') :
    OpR C.P base H0 ν σ S F (callF C.P G run g ⟨args'⟩ H) K := by
  unfold symInline at h
  unfold callF
  rw [hbits]
  split at h
  · rename_i fn hf
    rw [hf]
    simp only
    split at h
    · rename_i body hb
      simp only [hb]
      have hsz : (⟨args'⟩ : Array Value).size = args.length := by show args'.length = _; exact hl.1.symm
      rw [hsz]
      cases hc : (Nat.blt fn.ntmps args.length || Nat.blt 1000000 fn.ntmps) with
      | true => rw [hc] at h; exact h.elim
      | false =>
        rw [hc] at h
        simp only [cond_false] at h ⊢
        simp only [Bool.or_eq_false_iff] at hc
        have hn2 : fn.ntmps ≤ 1000000 := Nat.le_of_not_lt fun hlt => by have := Nat.ble_eq_true_of_le hlt; rw [show Nat.blt 1000000 fn.ntmps = Nat.ble (1000000 + 1) fn.ntmps from rfl, this] at hc; cases hc.2
        have hn1 : args.length ≤ fn.ntmps := Nat.le_of_not_lt fun hlt => by have := Nat.ble_eq_true_of_le hlt; rw [show Nat.blt fn.ntmps args.length = Nat.ble (fn.ntmps + 1) args.length from rfl, this] at hc; cases hc.1
        have hSR : SR C.P base H0 ν σ { S with fr := frameS args 0 .leaf, sz := fn.ntmps, fl := S.nx } (frameOf fn.ntmps ⟨args'⟩) { H with wlow := H.next } := by
          refine ⟨fun t v ht => ?_, rfl, Nat.le_trans hn2 (by decide), rfl, hr.blk, hr.lt, hr.dom, hr.inj, hr.own, hr.sig, hr.apart, hr.mates, hr.nxt, hr.old, hr.nxt, hr.role, hr.sb⟩
          obtain ⟨v', hv', hv⟩ := frameS_ok hl t v ht
          rw [frameOf_get fn.ntmps ⟨args'⟩ (by rw [hsz]; exact Nat.le_trans hn1 (Nat.le_trans hn2 (by decide))) t]
          have : (⟨args'⟩ : Array Value)[t]? = some v' := by simpa using hv'
          rw [this]; exact hv
        obtain ⟨e, F1, h1, hev, S1, ν1, σ1, hq, hr1, hxn, hxs, hk⟩ := hrun _ _ _ _ h (Nat.le_refl _) _ _ _ _ _ _ hSR
        rw [hev]
        have hxn' : XN ν ν1 := XNn.xn hr hxn
        have key : (∀ id, e ≠ .exit id) → (resS C.P S1 fn.results.toList fun vs => match vs with | [v] => K v { S1 with fr := S.fr, sz := S.sz, fl := S.fl } | vs => K (.tup vs) { S1 with fr := S.fr, sz := S.sz, fl := S.fl }) →
            OpR C.P base H0 ν σ S F (match endMarks h1 F1.marks with | some h2 => (match resultsA C.P h2 F1 fn with | some v => some (v, leave G.fast H h2 v) | none => none) | none => none) K := by
          intro _ hres
          rw [hr1.nomk]
          show OpR C.P base H0 ν σ S F (match resultsA C.P h1 F1 fn with | some v => some (v, leave G.fast H h1 v) | none => none) K
          obtain ⟨vs, vs', hra, hkv, hlr⟩ := resS_ok hr1 hres
          have hlow : base ≤ cond (Nat.ble H.wlow h1.wlow) H.wlow h1.wlow := by cases Nat.ble H.wlow h1.wlow; exact hr1.wl; exact hr.wl
          have hfin : ∀ v, SR C.P base H0 ν1 σ1 { S1 with fr := S.fr, sz := S.sz, fl := S.fl } F (leave G.fast H h1 v) := fun v => by
            have hlv : leave G.fast H h1 v = { h1 with wlow := cond (Nat.ble H.wlow h1.wlow) H.wlow h1.wlow } := by unfold leave; rw [hfast]; rfl
            rw [hlv]
            exact ⟨fun t v ht => (hr.fr t v ht).mono hxs hxn', hr.fsz, hr.top, hr.nomk, hr1.blk, hr1.lt, hr1.dom, hr1.inj, hr1.own, hr1.sig, hr1.apart, hr1.mates, hlow, hr1.old, hr1.nxt, hr1.role, hr1.sb⟩
          have hkeep : Keeps S { S1 with fr := S.fr, sz := S.sz, fl := S.fl } := ⟨hk.nx, rfl, hk.ro, rfl, hk.wr, hk.hp, hk.rb⟩
          have fin : ∀ (v : V) (v' : Value), resultsA C.P h1 F1 fn = some v' → VRel C.P σ1 ν1 v v' → K v { S1 with fr := S.fr, sz := S.sz, fl := S.fl } →
              OpR C.P base H0 ν σ S F (match resultsA C.P h1 F1 fn with | some v => some (v, leave G.fast H h1 v) | none => none) K := fun v v' h1 h2 h3 => by
            rw [h1]
            exact ⟨v', _, rfl, v, _, ν1, σ1, h3, hfin v', h2, hxn, hxs, rfl, hkeep⟩
          split at hkv
          · rename_i v
            obtain ⟨v', r, rfl, hv, hn⟩ := hlr.cons_inv
            cases hn.nil_inv
            exact fin v v' (by unfold resultsA; rw [hra]) hv hkv
          · rename_i vs0 hne
            refine fin (.tup vs) (.tuple vs'.toArray) ?_ (.tup hlr.1 hlr.2) hkv
            unfold resultsA
            rw [hra]
            split
            · rename_i v0 he
              simp only [Option.some.injEq] at he
              subst he
              have hlen := hlr.1
              match vs, hlen, hne with
              | [v], _, hne => exact absurd rfl (hne v)
            · rename_i vs1 _ he
              simp only [Option.some.injEq] at he
              subst he; rfl
            · rename_i he; cases he
        cases e with
        | exit id => exact hq.elim
        | normal => exact key (by simp) hq
        | ret => exact key (by simp) hq
    · exact h.elim
  · exact h.elim

theorem intsA_of : ∀ (l : List Int), intsA (l.map (Value.int .i64)) = some l
  | [] => rfl
  | z :: l => by
    show (match intsA (l.map (Value.int .i64)) with | some l => some (z :: l) | none => none) = _
    rw [intsA_of l]
theorem sizeIs1_ok {P : Program} {t : TypeId} (h : sizeIs1 P t = true) : sizeT P t = some 1 := by
  unfold sizeIs1 at h
  cases hs : sizeT P t with
  | none => rw [hs] at h; cases h
  | some s => rw [hs] at h; rw [Nat.eq_of_beq_eq_true h]
theorem ints_row {e : TypeId} {l : List D} {row : List Value} (hu : P.underlying e = some (.int .i64)) (hR : RowR P σ e 1 l row) (hb : intL l) : row = (l.map D.asInt).map (Value.int .i64) := by
  have hlen : row.length = l.length := by rw [hR.1, Nat.mul_one]
  apply List.ext_getElem (by simp [hlen])
  intro j h1 h2
  have hj : j < l.length := by omega
  have hr := hR.2 j l[j] (List.getElem?_eq_getElem hj)
  obtain ⟨n, hd⟩ := hb.out l[j] (List.getElem_mem hj)
  rw [hd, Nat.mul_one, List.drop_eq_getElem_cons h1] at hr
  have hv : row[j] = .int .i64 n := by
    rw [show (row[j] :: row.drop (j + 1)).take 1 = [row[j]] from rfl] at hr
    generalize row[j] = v at hr
    cases hr with
    | int h _ => rw [hu] at h; cases h; rfl
  rw [hv]
  simp only [List.map_map, List.getElem_map, Function.comp]
  rw [hd]; rfl
theorem row_ints {e : TypeId} (hu : P.underlying e = some (.int .i64)) (hs : sizeT P e = some 1) (zs : List Int) : RowR P σ e 1 (zs.map D.int) (zs.map (Value.int .i64)) := by
  refine ⟨by simp, fun j d hj => ?_⟩
  rw [List.getElem?_map] at hj
  cases hb : zs[j]? with
  | none => rw [hb] at hj; cases hj
  | some z =>
    rw [hb] at hj
    cases hj
    have hl : j < zs.length := (List.getElem?_eq_some_iff.1 hb).1
    have hd : (List.drop (j * 1) (zs.map (Value.int .i64))).take 1 = [Value.int .i64 z] := by
      rw [Nat.mul_one, List.drop_eq_getElem_cons (by simpa using hl)]
      have : zs[j] = z := (List.getElem?_eq_some_iff.1 hb).2
      simp [this]
    rw [hd]
    exact .int hu hs
/-- Sorting in place. -/
theorem symSort_ok {args : List V} {args' : List Value} {f : RowF} (hr : SR P base H0 ν σ S F H) (h : symSort P f S args K) (hl : LRel P σ ν args args') : OpR P base H0 ν σ S F (sortA f args' H) K := by
  unfold symSort at h
  split at h
  · obtain ⟨x', r, rfl, hx, hn⟩ := hl.cons_inv
    have := hn.nil_inv
    subst this
    cases hx with
    | val _ =>
    cases hk : f.ret [] with
    | none =>
      have : sortA f [.slice none 0 0] H = some (.tuple ⟨[]⟩, H) := by simp only [sortA, hk]
      rw [this]; exact OpR.pure hr (.tup rfl (fun j v v' hv _ => by simp at hv)) (h.1 hk)
    | some k =>
      have : sortA f [.slice none 0 0] H = some (.slice none 0 0, H) := by simp only [sortA, hk]
      rw [this]; exact OpR.pure hr (.val rfl) (h.2 k hk)
  · rename_i b o n c
    obtain ⟨x', r, rfl, hx, hn⟩ := hl.cons_inv
    have := hn.nil_inv
    subst this
    split at h
    · rename_i e l hb
      cases hc : (isI64 P e && sizeIs1 P e && Nat.ble S.ro b) with
      | false => rw [hc] at h; exact h.elim
      | true =>
        rw [hc] at h
        simp only [Bool.and_eq_true] at hc
        obtain ⟨⟨c1, c2⟩, c3⟩ := hc
        have hro := Nat.le_of_ble_eq_true c3
        have hu : P.underlying e = some (.int .i64) := by unfold isI64 at c1; split at c1 <;> simp_all
        obtain ⟨h0, hbig, hle, hint, hnl, hk1, hk2⟩ := h
        obtain ⟨i, z, hν, hB⟩ := hr.blk _ _ hb
        obtain ⟨cs, m, hg, hsz, hz0, hlen, hrd⟩ := hB
        have hz1 : sizeT P e = some 1 := sizeIs1_ok c2
        have : z = 1 := by rw [hz1] at hsz; exact (Option.some.inj hsz).symm
        subst this
        have hR : RowR P σ e 1 l cs := ⟨hlen, hrd⟩
        have hP : RowR P σ e 1 ((l.drop o.v).take n.v) ((cs.drop o.v).take n.v) := by
          have := (RowR.take (RowR.drop hR o.v) n.v)
          simpa using this
        have hrow := ints_row hu hP hint
        have hcl : H.cells i = some cs := by unfold AHeap.cells; rw [hg]
        have hcs : o.v + n.v ≤ cs.length := by rw [hlen]; omega
        have hoff : ∃ cap, x' = .slice (some ⟨i, o.v, none⟩) n.v cap ∧ ∀ k, k ≤ n.v → VRel P σ ν (.slc b o (.sym k) c) (.slice (some ⟨i, o.v, none⟩) k cap) := by
          cases hx with
          | slcU hν' =>
            rw [hν] at hν'; cases hν'
            exact ⟨_, by rw [Nat.mul_one], fun k _ => by have := VRel.slcU (P := P) (σ := σ) (ν := ν) (o := o) (n := .sym k) (b := b) hν; rw [Nat.mul_one] at this; exact this⟩
          | slc hν' hc' hn' ho =>
            rw [hν] at hν'; cases hν'
            rename_i off c0
            have : off = o.v := by rcases ho with ho | ho <;> omega
            subst this
            exact ⟨_, rfl, fun k hk => VRel.slc (n := .sym k) hν hc' (Nat.le_trans hk hn') (.inl (by omega))⟩
        obtain ⟨cap, rfl, hvr⟩ := hoff
        have hsl : ((f.new (((l.drop o.v).take n.v).map D.asInt)).map (Value.int .i64)).length = n.v := by rw [List.length_map, hnl]
        have hw := writeCells_eq (o := o.v) (vs := (f.new (((l.drop o.v).take n.v).map D.asInt)).map (Value.int .i64)) hg (by rw [hsl]; exact hcs) (row_ints (σ := σ) hu hz1 _).one
        have hs : sortA f [.slice (some ⟨i, o.v, none⟩) n.v cap] H = some ((match f.ret (((l.drop o.v).take n.v).map D.asInt) with | some k => .slice (some ⟨i, o.v, none⟩) k cap | none => .tuple ⟨[]⟩), (H.kill (H.mate i)).write i (some (.cells (spliceL cs o.v ((f.new (((l.drop o.v).take n.v).map D.asInt)).map (Value.int .i64))) e 1 none false))) := by
          have h1 : (Nat.blt 0 n.v && Nat.ble (o.v + n.v) cs.length && Nat.ble n.v 16777216) = true := by
            simp only [Bool.and_eq_true]
            exact ⟨⟨Nat.ble_eq_true_of_le h0, Nat.ble_eq_true_of_le hcs⟩, Nat.ble_eq_true_of_le hbig⟩
          simp only [sortA, hcl, h1, cond_true, hrow, intsA_of, hw]
          cases f.ret (List.map D.asInt (List.take n.v (List.drop o.v l))) <;> rfl
        rw [hs]
        have hnew : RowR P σ e 1 (l.take o.v ++ sortD f ((l.drop o.v).take n.v) ++ l.drop (o.v + n.v)) (spliceL cs o.v ((f.new (((l.drop o.v).take n.v).map D.asInt)).map (Value.int .i64))) := by
          unfold spliceL
          rw [hsl]
          have t1 := hR.take o.v
          have t2 := hR.drop (o.v + n.v)
          rw [Nat.mul_one] at t1 t2
          exact (t1.append (row_ints hu hz1 _)).append t2
        cases hk : f.ret (((l.drop o.v).take n.v).map D.asInt) with
        | none => exact ⟨_, _, rfl, .tup [], _, ν, σ, hk1 hk, hr.write hb hν hro (k' := .arr e _) (.arr hz1 (by omega) hnew), .tup rfl (fun j v v' hv _ => by simp at hv), .refl _, .refl _, rfl, .write _ _ _ hro⟩
        | some k => exact ⟨_, _, rfl, _, _, ν, σ, (hk2 k hk).2, hr.write hb hν hro (k' := .arr e _) (.arr hz1 (by omega) hnew), hvr k (hk2 k hk).1, .refl _, .refl _, rfl, .write _ _ _ hro⟩
    · exact h.elim
  · exact h.elim

/-- What a table of known answers is to be. -/
def TabOK (P : Program) (f : List Value → Option Value) (c : Option Con) : Prop :=
  match c with
  | none => ∀ as, f as = none
  | some c => ∀ us p r, c us = some (p, r) → p → ∀ σ ν as, LRel P σ ν us as → as.all Ev.flat = true ∧ ∃ v, f as = some v ∧ VRel P σ ν r v
theorem callE_sym {C : Ctx} {G : Msk} {srun : SRun} {run : Run} (hfast : G.fast = false) (hbits : G.bits = C.bits) (hora : G.ora = C.ora) (htab : ∀ g, TabOK C.P (G.tab g) (C.tab g)) (hsrt : G.srt = C.srt) (hrun : RunS C.P srun run) (hcon : ∀ g c, C.con g = some c → Valid C.P G run g c) {g : FuncId} {ts : List TypeId} {args : List V} {args' : List Value}
    (hr : SR C.P base H0 ν σ S F H) (h : symCall C srun g ts args S K) (hl : LRel C.P σ ν args args') : OpR C.P base H0 ν σ S F (callE C.P G run g args' H) K := by
  have hext : externA C.P g [undef] = none → externA C.P g args' = none := fun h => by
    unfold externA at h ⊢
    split at h
    · rename_i fn hf
      split at h
      · rename_i b hb; first | rfl | simp only [hb]
      · rename_i hb
        first | simp only [hb] | skip
        simp only at h
        split
        · rename_i v
          cases hq : (fn.name == "internal/abi.NoEscape" && (fn.origin == "" || fn.origin == "internal/abi.NoEscape")) with
          | true => rw [hq] at h; cases h
          | false => rfl
        · rfl
    · rename_i hf; first | rfl | rw [hf]
  have hcp : callP C.P G run g args' H = callF C.P G run g ⟨args'⟩ H := by unfold callP; rw [hfast]; rfl
  unfold symCall at h
  unfold callE
  split at h
  · rename_i u x o he
    obtain ⟨x', r, rfl, hx, hn⟩ := hl.cons_inv
    have := hn.nil_inv
    subst this
    have : externA C.P g [x'] = some x' := by
      unfold externA at he ⊢
      split at he
      · rename_i fn hf
        split at he
        · cases he
        · rename_i hb
          simp only at he
          cases hq : (fn.name == "internal/abi.NoEscape" && (fn.origin == "" || fn.origin == "internal/abi.NoEscape")) with
          | true => simp only [hb, hq, cond_true]
          | false => rw [hq] at he; cases he
      · cases he
    rw [this]
    exact OpR.pure hr hx h
  · exact h.elim
  · rename_i v he ho
    rw [hext he]
    have := hl.nil_inv
    subst this
    simp only [hora, ho]
    cases hf : flat1 v with
    | false => rw [hf] at h; exact h.elim
    | true => rw [hf] at h; exact OpR.pure hr (.val hf) h
  · rename_i A o1 B o2 he hno
    rw [hext he]
    simp only
    suffices hgo : OpR C.P base H0 ν σ S F (match G.tab g args' with | some v => cond (args'.all Ev.flat) (some (v, H)) none | none => (match G.srt g with | some f => sortA f args' H | none => callP C.P G run g args' H)) K by
      split
      · rename_i v hv
        have ha : A = [] := List.eq_nil_of_length_eq_zero hl.1
        exact absurd (by rw [← hora]; exact hv) (hno v ha)
      · exact hgo
    have hT := htab g
    split at h
    · rename_i c hc
      rw [hc] at hT
      split at h
      · rename_i p r hcr
        obtain ⟨hall, v, hv, hvr⟩ := hT _ _ _ hcr h.1 _ _ _ hl
        rw [hv, hall]
        exact OpR.pure hr hvr h.2
      · exact h.elim
    rename_i hct
    rw [hct] at hT
    rw [show G.tab g args' = none from hT args']
    rw [hsrt]
    split at h
    · rename_i f hsg
      rw [hsg]; exact symSort_ok hr h hl
    rename_i hsg
    rw [hsg]
    suffices hgo : OpR C.P base H0 ν σ S F (callF C.P G run g ⟨args'⟩ H) K by
      simp only; rw [hcp]; exact hgo
    split at h
    · rename_i c hc
      obtain ⟨us, h, hus, hfree⟩ := lendAll_ok hr h hl
      split at h
      · rename_i p r hcr
        obtain ⟨hp, h⟩ := h
        cases hq : (r.freeR && (r.plainR || A.all V.freeR)) with
        | false => rw [hq] at h; exact h.elim
        | true =>
          rw [hq] at h
          simp only [Bool.and_eq_true, Bool.or_eq_true] at hq
          have hV := hcon g c hc
          have hplain : r.plainR = true → OpR C.P base H0 ν σ S F (callF C.P G run g ⟨args'⟩ H) K := fun hpl => by
            obtain ⟨v, H', σ', hcall, _, _, _, hn, hg, hw, hv⟩ := hV us p r hcr hp _ H args' (lent_stab hr) hus
            rw [hcall]
            refine ⟨v, H', rfl, r, S, ν, σ, h, hr.grow (.refl _) (fun i c hi => ?_) (fun i c hi => .inl hi) hn hg (hw _ hr.wl hr.nxt), hv.plainR hpl _ _, .refl _, .refl _, rfl, .refl _⟩
            obtain ⟨q1, e, m, ro, q2⟩ := hr.sig i c hi
            exact ⟨Nat.lt_of_lt_of_le q1 hn, e, m, ro, by rw [hg i q1]; exact q2⟩
          rcases hq.2 with hpl | hfr
          · exact hplain hpl
          · have hl0 := hfree hfr
            obtain ⟨v, H', σ', hcall, hx, hs, hnew, hn, hg, hw, hv⟩ := hV us p r hcr hp _ H args' hr.sig hl0
            rw [hcall]
            exact ⟨v, H', rfl, r, S, ν, σ', h, hr.grow hx hs hnew hn hg (hw _ hr.wl hr.nxt), hv.mono (.refl _) (fun b c hb => by cases hb), .refl _, hx, rfl, .refl _⟩
      · exact h.elim
    · exact callF_sym hfast hbits hrun hr h hl
end
end Go.Ev

end

section

namespace Go.Ev
section
variable {P : Program} {base : Nat} {H0 : AHeap × Sig} {ν : Nu} {σ : Sig} {S : SS} {F : AFrame} {H : AHeap}

theorem bytesA_of : ∀ (l : List UInt8), bytesA (l.map fun b => Value.int .u8 b.toNat) = some l
  | [] => rfl
  | b :: l => by
    show cond (Nat.blt b.toNat 256) (match bytesA (l.map fun b => Value.int .u8 b.toNat) with | some l => some (UInt8.ofNat b.toNat :: l) | none => none) none = _
    rw [bytesA_of l, show Nat.blt b.toNat 256 = true from Nat.ble_eq_true_of_le (UInt8.toNat_lt b)]
    simp
/-- A row of bytes, read. -/
theorem bytes_row {e : TypeId} {l : List D} {row : List Value} (hu : P.underlying e = some (.int .u8)) (hs : sizeT P e = some 1) (hR : RowR P σ e 1 l row) (hb : byteL l) : row = (bytesD l).map fun b => Value.int .u8 b.toNat := by
  have hlen : row.length = l.length := by rw [hR.1, Nat.mul_one]
  apply List.ext_getElem (by simp [bytesD, hlen])
  intro j h1 h2
  have hj : j < l.length := by omega
  have hr := hR.2 j l[j] (List.getElem?_eq_getElem hj)
  obtain ⟨n, hn, hd⟩ := hb.out l[j] (List.getElem_mem hj)
  rw [hd, Nat.mul_one, List.drop_eq_getElem_cons h1] at hr
  have hv : row[j] = .int .u8 n := by
    rw [show (row[j] :: row.drop (j + 1)).take 1 = [row[j]] from rfl] at hr
    generalize row[j] = v at hr
    cases hr with
    | int h _ => rw [hu] at h; cases h; rfl
  rw [hv]
  simp only [bytesD, List.map_map, List.getElem_map, Function.comp]
  rw [hd]
  simp only [asInt_int, Int.toNat_natCast]
  rw [UInt8.toNat_ofNat', show n % 2 ^ 8 = n from Nat.mod_eq_of_lt hn]
theorem isU8_ok {t : TypeId} (h : isU8 P t = true) : P.underlying t = some (.int .u8) := by unfold isU8 at h; split at h <;> simp_all
/-- A row of the call's own is forgotten. -/
theorem SR.lose (hr : SR P base H0 ν σ S F H) {b i z : Nat} {k : SB} (hk : S.hp.get b = some k) (hν : ν b = some (i, z)) (hro : S.ro ≤ b) {cs : List Value} {e : TypeId} {esz : Nat} {ro : Bool} :
    SR P base H0 ν σ (S.write b none) F ((H.kill (H.mate i)).write i (some (.cells cs e esz none ro))) := by
  have hget : ∀ j, ((H.kill (H.mate i)).write i (some (.cells cs e esz none ro))).get j = if j = i then some (.cells cs e esz none ro) else if H.mate i = some j then none else H.get j := fun j => by
    rw [AHeap.get_write, AHeap.get_kill]
  have hnx : ((H.kill (H.mate i)).write i (some (.cells cs e esz none ro))).next = H.next := AHeap.next_kill _ _
  have hbi := hr.own b i z hro hν
  have hmate : ∀ m, H.mate i = some m → base ≤ m ∧ m < H.next ∧ σ m = none ∧ ∀ b' k' z', S.hp.get b' = some k' → ν b' ≠ some (m, z') := fun m hm => let q := hr.mates b k i z m hk hν hm; ⟨q.1 hro, q.2⟩
  have hg : ∀ b' k2, (S.write b none).hp.get b' = some k2 → b' ≠ b ∧ S.hp.get b' = some k2 := fun b' k2 h => by
    have h' : T.get (T.put S.hp b none) b' = some k2 := h
    rw [T.get_put] at h'
    by_cases e1 : b' = b
    · rw [if_pos e1] at h'; cases h'
    · rw [if_neg e1] at h'; exact ⟨e1, h'⟩
  have hkeep : ∀ b' i' z', (∃ k, S.hp.get b' = some k) → ν b' = some (i', z') → b' ≠ b → ((H.kill (H.mate i)).write i (some (.cells cs e esz none ro))).get i' = H.get i' := fun b' i' z' ⟨k2, h2⟩ h3 hne => by
    rw [hget, if_neg (fun e1 => hne (hr.inj _ _ _ _ _ (e1 ▸ h3) hν)), if_neg (fun hm => (hmate _ hm).2.2.2 b' k2 z' h2 h3)]
  refine ⟨fun t v h => hr.fr t v h, hr.fsz, hr.top, hr.nomk, ?_, ?_, hr.dom, hr.inj, hr.own, ?_, ?_, ?_, ?_, ?_, by rw [hnx]; exact hr.nxt, hr.role, hr.sb⟩
  · intro b' k2 h
    obtain ⟨e1, h⟩ := hg b' k2 h
    obtain ⟨i', z', h1, h2⟩ := hr.blk b' k2 h
    exact ⟨i', z', h1, by rw [hkeep b' i' z' ⟨k2, h⟩ h1 e1]; exact h2⟩
  · intro b' i' z' h; rw [hnx]; exact hr.lt b' i' z' h
  · intro i' c h
    obtain ⟨h1, h2⟩ := hr.sig i' c h
    rw [hnx, hget, if_neg (fun e1 => by have := hr.apart b k i z hk hν; rw [← e1, h] at this; cases this), if_neg (fun hm => by rw [(hmate _ hm).2.2.1] at h; cases h)]
    exact ⟨h1, h2⟩
  · intro b' k2 i' z' h h'
    exact hr.apart b' k2 i' z' (hg b' k2 h).2 h'
  · intro b' k2 i' z' m h h' hm
    obtain ⟨e1, h⟩ := hg b' k2 h
    rw [hnx]
    rw [AHeap.mate_congr (hkeep b' i' z' ⟨k2, h⟩ h' e1)] at hm
    obtain ⟨q1, q2, q3, q4⟩ := hr.mates b' k2 i' z' m h h' hm
    exact ⟨q1, q2, q3, fun b2 k4 z2 h4 => q4 b2 k4 z2 (hg b2 k4 h4).2⟩
  · have h3 : base ≤ (H.kill (H.mate i)).wlow := by
      cases hm : H.mate i with
      | none => exact hr.wl
      | some m =>
        have := (hmate m hm).1
        simp only [AHeap.kill, AHeap.write]
        cases hbl : Nat.ble H.wlow m with
        | true => exact hr.wl
        | false => simpa using this
    simp only [AHeap.write]
    cases hbl : Nat.ble (H.kill (H.mate i)).wlow i with
    | true => exact h3
    | false => exact hbi
  · intro j hj
    rw [hget, if_neg (by omega), if_neg (fun hm => by have := (hmate _ hm).1; omega)]
    exact hr.old j hj
theorem zeros_int (n : Nat) : (Builtin.zeroCells (Value.int .i64 (.ofNat 0)).cells n).toList = (List.replicate n (0 : Int)).map (Value.int .i64) := by
  simp only [Builtin.zeroCells, Value.cells, Array.toList_map, List.map_replicate]
  apply List.ext_getElem (by simp)
  intro j h1 h2
  simp only [List.getElem_map, List.getElem_replicate]
  have : ∀ k : Nat, (#[Value.int .i64 (.ofNat 0)] : Array Value)[k % 1]! = Value.int .i64 0 := fun k => by rw [Nat.mod_one]; rfl
  exact this _
/-- clear. -/
theorem symClear_ok {K : V → SS → Prop} {t : TypeId} {x : V} {x' : Value} (hr : SR P base H0 ν σ S F H) (h : symClear P S t x K) (hx : VRel P σ ν x x') : OpR P base H0 ν σ S F (clearA P H t x') K := by
  unfold symClear at h
  split at h
  · rename_i e b o n c hu
    split at h
    · rename_i e' l hb hz
      cases hc : (Nat.beq e e' && isI64 P e && sizeIs1 P e && Nat.ble S.ro b) with
      | false => rw [hc] at h; exact h.elim
      | true =>
        rw [hc] at h
        simp only [Bool.and_eq_true] at hc
        obtain ⟨⟨⟨c0, c1⟩, c2⟩, c3⟩ := hc
        have := Nat.eq_of_beq_eq_true c0
        subst this
        have hro := Nat.le_of_ble_eq_true c3
        have hu2 : P.underlying e = some (.int .i64) := by unfold isI64 at c1; split at c1 <;> simp_all
        obtain ⟨hbig, hle, hk0, hk1⟩ := h
        obtain ⟨i, z, hν, hB⟩ := hr.blk _ _ hb
        obtain ⟨cs, m, hg, hsz, hz0, hlen, hrd⟩ := hB
        have hz1 : sizeT P e = some 1 := sizeIs1_ok c2
        have : z = 1 := by rw [hz1] at hsz; exact (Option.some.inj hsz).symm
        subst this
        have hR : RowR P σ e 1 l cs := ⟨hlen, hrd⟩
        have hcs : o.v + n.v ≤ cs.length := by rw [hlen]; omega
        rcases Nat.eq_zero_or_pos n.v with hn0 | hn0
        · have hcl : ∃ ad cap, x' = .slice (some ⟨i, ad, none⟩) n.v cap := by
            cases hx with
            | slcU hν' => rw [hν] at hν'; cases hν'; exact ⟨_, _, rfl⟩
            | slc hν' _ _ _ => rw [hν] at hν'; cases hν'; exact ⟨_, _, rfl⟩
          obtain ⟨ad, cap, rfl⟩ := hcl
          have : clearA P H t (.slice (some ⟨i, ad, none⟩) n.v cap) = some (.tuple ⟨[]⟩, H) := by
            simp only [clearA, hu, hn0, Nat.beq_refl, cond_true]
          rw [this]
          exact OpR.pure hr (.tup rfl (fun j v v' hv _ => by simp at hv)) (hk0 hn0)
        · have hoff : ∃ cap, x' = .slice (some ⟨i, o.v, none⟩) n.v cap := by
            cases hx with
            | slcU hν' => rw [hν] at hν'; cases hν'; exact ⟨_, by rw [Nat.mul_one]⟩
            | slc hν' hc' hn' ho =>
              rw [hν] at hν'; cases hν'
              rename_i off c0
              have : off = o.v := by rcases ho with ho | ho <;> omega
              subst this
              exact ⟨_, rfl⟩
          obtain ⟨cap, rfl⟩ := hoff
          have hsl : ((List.replicate n.v (0 : Int)).map (Value.int .i64)).length = n.v := by simp
          have hw := writeCells_eq (o := o.v) (vs := (List.replicate n.v (0 : Int)).map (Value.int .i64)) hg (by rw [hsl]; exact hcs) (row_ints (σ := σ) hu2 hz1 _).one
          have hb0 : Nat.beq n.v 0 = false := beqF (by omega)
          have hs : clearA P H t (.slice (some ⟨i, o.v, none⟩) n.v cap) = some (.tuple ⟨[]⟩, (H.kill (H.mate i)).write i (some (.cells (spliceL cs o.v ((List.replicate n.v (0 : Int)).map (Value.int .i64))) e 1 none false))) := by
            have hf : (Value.int .i64 (.ofNat 0)).cells.toList.all flat1 = true := rfl
            simp only [clearA, hu, hb0, cond_false, hz, Nat.ble_eq_true_of_le hbig, hf, Bool.and_self, cond_true, zeros_int, hw]
          rw [hs]
          have hnew : RowR P σ e 1 (l.take o.v ++ List.replicate n.v (D.int 0) ++ l.drop (o.v + n.v)) (spliceL cs o.v ((List.replicate n.v (0 : Int)).map (Value.int .i64))) := by
            unfold spliceL
            rw [hsl]
            have t1 := hR.take o.v
            have t2 := hR.drop (o.v + n.v)
            rw [Nat.mul_one] at t1 t2
            have t3 := row_ints (σ := σ) hu2 hz1 (List.replicate n.v (0 : Int))
            rw [List.map_replicate] at t3
            exact (t1.append t3).append t2
          exact ⟨_, _, rfl, .tup [], _, ν, σ, hk1 hn0, hr.write hb hν hro (k' := .arr e _) (.arr hz1 (by omega) hnew), .tup rfl (fun j v v' hv _ => by simp at hv), .refl _, .refl _, rfl, .write _ _ _ hro⟩
    · exact h.elim
  · exact h.elim
/-- unsafe.SliceData, unsafe.String. -/
theorem symData_ok {K : V → SS → Prop} {x : V} {x' : Value} (hr : SR P base H0 ν σ S F H) (h : symData x K S) (hx : VRel P σ ν x x') : OpR P base H0 ν σ S F (dataA [x'] H) K := by
  unfold symData at h
  split at h
  · rename_i b o n c
    obtain ⟨hn, h⟩ := h
    have hb0 : Nat.beq n.v 0 = false := beqF hn
    cases hx with
    | slcU hν =>
      simp only [dataA, hb0, cond_false]
      exact OpR.pure hr (.ept hν) h
    | slc hν hc hnc ho =>
      rename_i ii zq off c0
      have : off = o.v * zq := by rcases ho with ho | ho; exact ho; omega
      subst this
      simp only [dataA, hb0, cond_false]
      exact OpR.pure hr (.ept hν) h
  · cases hx with
    | val _ => exact OpR.pure hr (.val rfl) h
  · exact h.elim
theorem symUStr_ok {K : V → SS → Prop} {ats : Array TypeId} {t : TypeId} {p n : V} {p' n' : Value} (hr : SR P base H0 ν σ S F H) (ht : ats[0]? = some t) (h : symUStr P S t p n K) (hp : VRel P σ ν p p') (hn : VRel P σ ν n n') : OpR P base H0 ν σ S F (stringA P ats [p', n'] H) K := by
  unfold symUStr at h
  split at h
  · rename_i b o
    split at h
    · rename_i e e' l zz m z hu hb hnl hin
      cases hc : (Nat.beq e e' && isU8 P e && sizeIs1 P e && Nat.beq (P.cellsOf e) 1 && Nat.ble S.ro b) with
      | false => rw [hc] at h; exact h.elim
      | true =>
        rw [hc] at h
        simp only [Bool.and_eq_true] at hc
        obtain ⟨⟨⟨⟨c1, c2⟩, c3⟩, c4⟩, c5⟩ := hc
        have := Nat.eq_of_beq_eq_true c1
        subst this
        have hro := Nat.le_of_ble_eq_true c5
        obtain ⟨hz, hm0, hm1, hle, hby, h⟩ := h
        have hn1 := intOf_ok hin hn
        obtain ⟨⟨kk, hn2⟩, hmv⟩ := nlOf_ok hnl hn
        rw [hn1] at hn2
        have hzz : zz = z := by cases hn2; rfl
        rw [hzz] at hmv
        clear hzz hn2
        obtain ⟨q, rfl⟩ : ∃ q : Nat, z = Int.ofNat q := ⟨z.toNat, by simp; omega⟩
        have hq : m.v = q := by rw [hmv]; rfl
        obtain ⟨i, z2, hν, hB⟩ := hr.blk _ _ hb
        obtain ⟨cs, mt, hg, hsz, hz0, hlen, hrd⟩ := hB
        have hz1 : sizeT P e = some 1 := sizeIs1_ok c3
        have : z2 = 1 := by rw [hz1] at hsz; exact (Option.some.inj hsz).symm
        subst this
        have hR : RowR P σ e 1 ((l.drop o.v).take m.v) ((cs.drop o.v).take m.v) := by
          have := (RowR.take (RowR.drop (⟨hlen, hrd⟩ : RowR P σ e 1 l cs) o.v) m.v)
          simpa using this
        have hrow := bytes_row (isU8_ok c2) hz1 hR hby
        have hml : o.v + q ≤ cs.length := by rw [hlen]; omega
        cases hp with
        | ept hν' =>
        rw [hν] at hν'; cases hν'
        rw [hn1]
        have hmate := mate_cells hg
        have hs : stringA P ats [.pointer (some ⟨i, o.v * 1, none⟩), .int .i64 (Int.ofNat q)] H = some (.string ⟨⟨bytesD ((l.drop o.v).take m.v)⟩⟩, (H.kill (H.mate i)).write i (some (.cells cs e 1 none true))) := by
          have h1 : (Nat.beq e e && Nat.beq (P.cellsOf e) 1 && Nat.blt 0 q && Nat.ble (o.v + q) cs.length && Nat.ble q 16777216) = true := by
            simp only [Bool.and_eq_true]
            exact ⟨⟨⟨⟨Nat.beq_refl e, c4⟩, Nat.ble_eq_true_of_le (by omega)⟩, Nat.ble_eq_true_of_le hml⟩, Nat.ble_eq_true_of_le (by omega)⟩
          rw [hq] at hrow
          simp only [stringA, ht, hu, hg, Nat.mul_one, h1, cond_true, hrow, bytesA_of, hmate, hq]
        rw [hs]
        exact ⟨_, _, rfl, _, _, ν, σ, h, hr.lose hb hν hro, .str, .refl _, .refl _, rfl, .write _ _ _ hro⟩
    · exact h.elim
  · split at h
    · cases hp with
      | val _ =>
      cases hn with
      | val _ =>
      have : stringA P ats [.pointer none, .int .i64 (.ofNat 0)] H = some (.string ⟨#[]⟩, H) := by simp only [stringA, ht]
      exact OpR.pure hr (.val rfl) h |> fun q => by rw [this]; exact q
    · exact h.elim
  · exact h.elim

/-- Bytes to a string; unsafe.Pointer. -/
theorem symConvS_ok {Kv : V → Prop} {s d : TypeId} {x : V} {x' : Value} (hr : SR P base H0 ν σ S F H) (h : symConvS P S s d x Kv) (hx : VRel P σ ν x x') : VOK P σ ν H (convA P s d x' H) Kv := by
  unfold symConvS at h
  split at h
  · rename_i b o n c
    split at h
    · rename_i e e' l hs hd hb
      cases hc : (isU8 P e && isU8 P e' && sizeIs1 P e') with
      | false => rw [hc] at h; exact h.elim
      | true =>
        rw [hc] at h
        simp only [Bool.and_eq_true] at hc
        obtain ⟨hle, hby, h⟩ := h
        obtain ⟨i, z, hν, hB⟩ := hr.blk _ _ hb
        obtain ⟨cs, m, hg, hsz, hz0, hlen, hrd⟩ := hB
        have hu' := isU8_ok hc.1.2
        have hz1 : sizeT P e' = some 1 := sizeIs1_ok hc.2
        have : z = 1 := by rw [hz1] at hsz; exact (Option.some.inj hsz).symm
        subst this
        have hR : RowR P σ e' 1 ((l.drop o.v).take n.v) ((cs.drop o.v).take n.v) := by
          have := (RowR.take (RowR.drop (⟨hlen, hrd⟩ : RowR P σ e' 1 l cs) o.v) n.v)
          simpa using this
        have hrow := bytes_row hu' hz1 hR hby
        have hcl : H.cells i = some cs := by unfold AHeap.cells; rw [hg]
        have hcs : o.v + n.v ≤ cs.length := by rw [hlen]; omega
        have key : ∀ off cap, (n.v ≠ 0 → off = o.v) → off ≤ o.v → convA P s d (.slice (some ⟨i, off, none⟩) n.v cap) H = some (.string ⟨⟨bytesD ((l.drop o.v).take n.v)⟩⟩, H) := fun off cap h1 h2 => by
          have hrw : (cs.drop off).take n.v = (cs.drop o.v).take n.v := by
            rcases Nat.eq_zero_or_pos n.v with hn0 | hn0
            · rw [hn0]; simp
            · rw [h1 (by omega)]
          simp only [convA, convB, hs, hd, hcl, isU8_ok hc.1.1, hrw, Nat.ble_eq_true_of_le (show off + n.v ≤ cs.length by omega), cond_true]
          rw [hrow, bytesA_of]
        cases hx with
        | slcU hν' =>
          rw [hν] at hν'; cases hν'
          exact ⟨_, _, key _ _ (fun _ => by omega) (by omega), h, .str⟩
        | slc hν' hc' hn' ho =>
          rw [hν] at hν'; cases hν'
          exact ⟨_, _, key _ _ (fun hne => by rcases ho with ho | ho <;> omega) (by omega), h, .str⟩
    · exact h.elim
  · rename_i b o
    split at h
    · rename_i t be cs hs hd hb
      cases hc : (Nat.blt o cs.length && szPos P t) with
      | false => rw [hc] at h; exact h.elim
      | true =>
        rw [hc] at h
        cases hx with
        | ptr hν =>
        rename_i i z
        obtain ⟨i', z', hν', cs', m, hg, hl⟩ := hr.blk _ _ hb
        rw [hν] at hν'; cases hν'
        rw [hl.1] at hc
        refine ⟨_, _, ?_, h, .ptr hν⟩
        have hq : convP P s d i o H = true := by
          unfold szPos at hc
          simp only [convP, hs, hd, hg]
          cases hz : sizeT P t <;> rw [hz] at hc <;> exact hc
        simp only [convA, hq, cond_true]
    · rename_i u be cs hs hd hb
      cases hc : (Nat.beq o 0 && Nat.beq be u && szFit P u cs.length) with
      | false => rw [hc] at h; exact h.elim
      | true =>
        rw [hc] at h
        cases hx with
        | ptr hν =>
        rename_i i z
        obtain ⟨i', z', hν', cs', m, hg, hl⟩ := hr.blk _ _ hb
        rw [hν] at hν'; cases hν'
        rw [hl.1] at hc
        refine ⟨_, _, ?_, h, .ptr hν⟩
        have hq : convP P s d i o H = true := by
          unfold szFit at hc
          simp only [convP, hs, hd, hg]
          cases hz : sizeT P u <;> rw [hz] at hc <;> exact hc
        simp only [convA, hq, cond_true]
    · exact h.elim
  · exact symConv_ok h hx H

/-- A row of the call's own becomes data. -/
theorem SR.freeze (hr : SR P base H0 ν σ S F H) {b i z : Nat} {e : TypeId} {l : List D} (hb : S.hp.get b = some (.arr e l)) (hν : ν b = some (i, z)) (hro : S.ro ≤ b) {cs : List Value} {m : Option Nat} (hg : H.get i = some (.cells cs e z m false)) :
    XS σ (fun j => if j = i then some (cs, z) else σ j) ∧ SR P base H0 ν (fun j => if j = i then some (cs, z) else σ j) (S.write b none) F H := by
  have hx : XS σ (fun j => if j = i then some (cs, z) else σ j) := fun j c hj => by
    have : j ≠ i := fun e => by rw [e, hr.apart _ _ _ _ hb hν] at hj; cases hj
    simp [this, hj]
  have hget : ∀ b' k, (S.write b none).hp.get b' = some k → b' ≠ b ∧ S.hp.get b' = some k := fun b' k h => by
    have h' : T.get (T.put S.hp b none) b' = some k := h
    rw [T.get_put] at h'
    by_cases hbb : b' = b
    · rw [if_pos hbb] at h'; cases h'
    · rw [if_neg hbb] at h'; exact ⟨hbb, h'⟩
  refine ⟨hx, ⟨fun t v h => (hr.fr t v h).mono hx (.refl _), hr.fsz, hr.top, hr.nomk, ?_, hr.lt, hr.dom, hr.inj, hr.own, ?_, ?_, ?_, hr.wl, hr.old, hr.nxt, hr.role, ?_⟩⟩
  · intro b' k h
    obtain ⟨_, h⟩ := hget b' k h
    obtain ⟨i', z', h1, h2⟩ := hr.blk b' k h
    exact ⟨i', z', h1, h2.mono hx (.refl _)⟩
  · intro j c hj
    by_cases hji : j = i
    · simp only [hji, if_true, Option.some.injEq] at hj
      subst hj
      rw [hji]
      exact ⟨hr.lt _ _ _ hν, e, m, false, hg⟩
    · simp only [hji, if_false] at hj
      exact hr.sig j c hj
  · intro b' k i' z' h h'
    obtain ⟨hne, h⟩ := hget b' k h
    have : i' ≠ i := fun e => hne (hr.inj _ _ _ _ _ (by rw [h', e]) hν)
    simp only [this, if_false]
    exact hr.apart b' k i' z' h h'
  · intro b' k i' z' m' h h' hm
    obtain ⟨hne, h⟩ := hget b' k h
    obtain ⟨q1, q2, q3, q4⟩ := hr.mates b' k i' z' m' h h' hm
    refine ⟨q1, q2, ?_, fun b2 k2 z2 hb2 => ?_⟩
    · have : m' ≠ i := fun e => q4 b _ z hb (by rw [e]; exact hν)
      simp only [this, if_false]; exact q3
    · exact q4 b2 k2 z2 (hget b2 k2 hb2).2
  · intro j c hj hlt
    by_cases hji : j = i
    · have := hr.own b i z hro hν
      omega
    · simp only [hji, if_false] at hj
      exact hr.sb j c hj hlt

/-- What freezing leaves. -/
def FzR (P : Program) (base : Nat) (H0 : AHeap × Sig) (ν : Nu) (σ : Sig) (S : SS) (F : AFrame) (H : AHeap) (σ1 : Sig) (S1 : SS) : Prop :=
  SR P base H0 ν σ1 S1 F H ∧ XS σ σ1 ∧ S1.fr = S.fr ∧ S1.nx = S.nx ∧ Keeps S S1
theorem FzR.refl (hr : SR P base H0 ν σ S F H) : FzR P base H0 ν σ S F H σ S := ⟨hr, .refl _, rfl, rfl, .refl _⟩
theorem FzR.trans {σ1 σ2 : Sig} {S1 S2 : SS} (h : FzR P base H0 ν σ S F H σ1 S1) (k : FzR P base H0 ν σ1 S1 F H σ2 S2) : FzR P base H0 ν σ S F H σ2 S2 :=
  ⟨k.1, h.2.1.trans k.2.1, k.2.2.1.trans h.2.2.1, k.2.2.2.1.trans h.2.2.2.1, h.2.2.2.2.trans k.2.2.2.2⟩

theorem frz1_ok (hr : SR P base H0 ν σ S F H) {t : TypeId} {v : V} {v' : Value} {K : V → SS → Prop} (h : frz1 P S t v K) (hv : VRel P σ ν v v') :
    ∃ u S1 σ1, K u S1 ∧ FzR P base H0 ν σ S F H σ1 S1 ∧ VRel P σ1 ν u v' := by
  unfold frz1 at h
  split at h
  · rename_i b o n c
    split at h
    · rename_i e l hb
      cases hso : (isSliceOf P t e && Nat.ble S.ro b) with
      | false => rw [hso] at h; exact h.elim
      | true =>
        rw [hso] at h
        obtain ⟨hle, h⟩ := h
        simp only [Bool.and_eq_true] at hso
        obtain ⟨hso, hrb⟩ := hso
        unfold isSliceOf at hso
        simp only [Bool.and_eq_true] at hso
        obtain ⟨hs1, hs2⟩ := hso
        have hst := sizeIs_ok hs2
        have hu : P.underlying t = some (.slice e) := by
          split at hs1
          · rename_i e' hu; rw [hu, Nat.eq_of_beq_eq_true hs1]
          · cases hs1
        obtain ⟨i, z, hν, hB⟩ := hr.blk _ _ hb
        obtain ⟨cs, m, hg, hz, h0, hlen, hrd⟩ := hB
        obtain ⟨hx, hr1⟩ := hr.freeze hb hν (Nat.le_of_ble_eq_true hrb) hg
        refine ⟨_, _, _, h, ⟨hr1, hx, rfl, rfl, .write _ _ _ (Nat.le_of_ble_eq_true hrb)⟩, ?_⟩
        have hrow : RowR P (fun j => if j = i then some (cs, z) else σ j) e z l cs := RowR.mono ⟨hlen, hrd⟩ hx
        have key : ∀ off cap, (off = o.v * z ∨ (n.v = 0 ∧ off ≤ o.v * z)) → (cap = UNK ∨ (n.v ≤ cap ∧ cap < UNK)) → VRel P (fun j => if j = i then some (cs, z) else σ j) ν (.dat t (.list ((l.drop o.v).take n.v))) (.slice (some ⟨i, off, none⟩) n.v cap) := by
          intro off cap ho hc
          have hll : ((l.drop o.v).take n.v).length = n.v := by rw [List.length_take, List.length_drop]; omega
          have hmul : (o.v + n.v) * z ≤ l.length * z := Nat.mul_le_mul_right _ hle
          rw [Nat.add_mul] at hmul
          have hcl := hrow.1
          have := ReadsA.list (P := P) (σ := fun j => if j = i then some (cs, z) else σ j) (t := t) (l := (l.drop o.v).take n.v) (i := i) (cs := cs) (o := off) (c := cap) hu hst hz (by simp) (by rw [hll]; rcases ho with ho | ho; rw [ho]; omega; rw [ho.1, Nat.zero_mul]; omega) (by rw [hll]; exact hc) (fun j d hj => by
            have hjl : j < n.v := by have := (List.getElem?_eq_some_iff.1 hj).1; omega
            rw [List.getElem?_take, if_pos hjl, List.getElem?_drop] at hj
            rcases ho with ho | ho
            · have := hrow.2 _ _ hj
              rw [ho, ← Nat.add_mul]
              exact this
            · omega)
          rw [hll] at this
          exact .dat hu this
        cases hv with
        | slcU hν' => rw [hν] at hν'; cases hν'; exact key _ _ (.inl rfl) (.inl rfl)
        | slc hν' hc hn ho => rw [hν] at hν'; cases hν'; exact key _ _ (by rcases ho with ho | ho; exact .inl ho; exact .inr ⟨by omega, ho.2⟩) (.inr ⟨hn, hc⟩)
    · exact h.elim
  · exact ⟨v, S, σ, h, .refl hr, hv⟩

theorem frzL_ok : ∀ {ts : List TypeId} {vs : List V} {vs' : List Value} {S : SS} {σ : Sig} {K : List V → SS → Prop}, SR P base H0 ν σ S F H → frzL P ts vs S K → LRel P σ ν vs vs' →
    ∃ us S1 σ1, K us S1 ∧ FzR P base H0 ν σ S F H σ1 S1 ∧ LRel P σ1 ν us vs'
  | ts, [], vs', S, σ, K, hr, h, hv => ⟨[], S, σ, by cases ts <;> exact h, .refl hr, by rw [hv.nil_inv]; exact .nil⟩
  | [], v :: vs, vs', S, σ, K, hr, h, hv => ⟨v :: vs, S, σ, h, .refl hr, hv⟩
  | t :: ts, v :: vs, vs', S, σ, K, hr, h, hv => by
    obtain ⟨v', r, rfl, h1, h2⟩ := hv.cons_inv
    obtain ⟨u, S1, σ1, h, f1, hu⟩ := frz1_ok hr (show frz1 P S t v (fun v S => frzL P ts vs S fun vs S => K (v :: vs) S) from h) h1
    obtain ⟨us, S2, σ2, h, f2, hus⟩ := frzL_ok f1.1 h (h2.mono f1.2.1 (.refl _))
    exact ⟨u :: us, S2, σ2, h, f1.trans f2, .cons (hu.mono f2.2.1 (.refl _)) hus⟩

theorem frzV_ok (hr : SR P base H0 ν σ S F H) {ts : List TypeId} {v : V} {v' : Value} {K : V → SS → Prop} (h : frzV P S ts v K) (hv : VRel P σ ν v v') :
    ∃ u S1 σ1, K u S1 ∧ FzR P base H0 ν σ S F H σ1 S1 ∧ VRel P σ1 ν u v' := by
  unfold frzV at h
  split at h
  · cases hv with
    | agg h1 h2 =>
      obtain ⟨us, S1, σ1, h, f1, hu⟩ := frzL_ok hr h ⟨h1, h2⟩
      exact ⟨_, S1, σ1, h, f1, .agg hu.1 hu.2⟩
  · split at h
    · exact frz1_ok hr h hv
    · exact ⟨_, S, σ, h, .refl hr, hv⟩
  · exact ⟨_, S, σ, h, .refl hr, hv⟩

theorem frzParts_ok {ts : List TypeId} : ∀ {ps : List (Nat × V)} {vs' : List Value} {S : SS} {σ : Sig} {K : List (Nat × V) → SS → Prop}, SR P base H0 ν σ S F H → frzParts P ts ps S K → LRel P σ ν (ps.map (·.2)) vs' →
    ∃ us S1 σ1, K us S1 ∧ us.map (·.1) = ps.map (·.1) ∧ FzR P base H0 ν σ S F H σ1 S1 ∧ LRel P σ1 ν (us.map (·.2)) vs'
  | [], vs', S, σ, K, hr, h, hv => ⟨[], S, σ, h, rfl, .refl hr, hv⟩
  | x :: ps, vs', S, σ, K, hr, h, hv => by
    obtain ⟨v', r, rfl, h1, h2⟩ := LRel.cons_inv (show LRel P σ ν (x.2 :: ps.map (·.2)) vs' from hv)
    obtain ⟨u, S1, σ1, h, f1, hu⟩ := frzV_ok hr (show frzV P S ts x.2 (fun v S => frzParts P ts ps S fun ps S => K ((x.1, v) :: ps) S) from h) h1
    obtain ⟨us, S2, σ2, h, hm, f2, hus⟩ := frzParts_ok f1.1 h (h2.mono f1.2.1 (.refl _))
    exact ⟨(x.1, u) :: us, S2, σ2, h, by simp [hm], f1.trans f2, .cons (hu.mono f2.2.1 (.refl _)) hus⟩

/-- An operation after freezing. -/
theorem OpR.frozen {σ1 : Sig} {S1 : SS} {r : Option (Value × AHeap)} {K : V → SS → Prop} (f : FzR P base H0 ν σ S F H σ1 S1) (h : OpR P base H0 ν σ1 S1 F r K) : OpR P base H0 ν σ S F r K := by
  obtain ⟨v', h', hr, v, S', ν', σ', k, sr, hv, hn, hx, hf, hk⟩ := h
  exact ⟨v', h', hr, v, S', ν', σ', k, sr, hv, by rw [← f.2.2.2.1]; exact hn, f.2.1.trans hx, hf.trans f.2.2.1, f.2.2.2.2.trans hk⟩
end
end Go.Ev

end

section

namespace Go.Ev
section
variable {base : Nat} {H0 : AHeap × Sig} {ν : Nu} {σ : Sig} {S : SS} {F : AFrame} {H : AHeap} {K : V → SS → Prop}

/-- What the evaluator is to keep. -/
structure Env (C : Ctx) (G : Msk) (srun : SRun) (run : Run) : Prop where
  fast : G.fast = false
  bits : G.bits = C.bits
  ora : G.ora = C.ora
  tab : ∀ g, TabOK C.P (G.tab g) (C.tab g)
  srt : G.srt = C.srt
  hrun : RunS C.P srun run
  con : ∀ g c, C.con g = some c → Valid C.P G run g c

theorem VOK.op {P : Program} {r : Option (Value × AHeap)} (hr : SR P base H0 ν σ S F H) (h : VOK P σ ν H r fun v => K v S) : OpR P base H0 ν σ S F r K := by
  obtain ⟨v, v', rfl, h2, h3⟩ := h
  exact OpR.pure hr h3 h2

theorem symCallOp_ok {C : Ctx} {G : Msk} {srun : SRun} {run : Run} (E : Env C G srun run) {c : Call} {type : TypeId} (hr : SR C.P base H0 ν σ S F H) (h : symCallOp C srun c S K) : OpR C.P base H0 ν σ S F (callA C.P G run c type F H) K := by
  unfold symCallOp at h
  obtain ⟨vs, h, hl⟩ := withVs_ok hr h
  unfold callA
  split at h
  · rename_i hcal
    simp only [hcal, args__eq]
    split at h
    · rename_i x t ts hat
      obtain ⟨x', r, he, hx, hn⟩ := hl.cons_inv
      rw [he, hn.nil_inv]
      have ht : c.argTypes[0]? = some t := by have : c.argTypes.toList[0]? = some t := by rw [hat]; rfl
                                              simpa using this
      exact (symLen_ok ht h hx H).op hr
    · exact h.elim
  · rename_i hcal
    simp only [hcal, args__eq]
    split at h
    · rename_i s x t t2 ts hat
      obtain ⟨s', r, he, hs, hn⟩ := hl.cons_inv
      obtain ⟨x', r', he', hx, hn⟩ := hn.cons_inv
      rw [he, he', hn.nil_inv]
      have ht : c.argTypes[0]? = some t := by have : c.argTypes.toList[0]? = some t := by rw [hat]; rfl
                                              simpa using this
      have ht2 : c.argTypes[1]? = some t2 := by have : c.argTypes.toList[1]? = some t2 := by rw [hat]; rfl
                                                simpa using this
      have hu2 : (∃ e, C.P.underlying t2 = some (.slice e)) ∨ C.P.underlying t2 = some .string := by
        unfold symAppend at h
        split at h
        · split at h
          · rename_i e _ e2 hu2
            unfold srcT at hu2
            split at hu2
            · left; exact ⟨_, by assumption⟩
            · right; assumption
            · cases hu2
          · exact h.elim
        · exact h.elim
      have : ∀ cb, builtinA C.P .append c.argTypes type cb ⟨[s', x']⟩ H = appendA C.P H t s' x' := fun cb => by
        simp only [builtinA, ht, ht2]
        show (match C.P.underlying t2 with | some (.slice _) | some .string => appendA C.P H t s' x' | _ => none) = _
        rcases hu2 with ⟨e2, hu2⟩ | hu2 <;> rw [hu2]
      rw [this]
      exact symAppend_ok hr h hs hx
    · exact h.elim
  · rename_i hcal
    simp only [hcal, args__eq]
    split at h
    · rename_i x t ts hat
      obtain ⟨x', r, he, hx, hn⟩ := hl.cons_inv
      rw [he, hn.nil_inv]
      have ht : c.argTypes[0]? = some t := by have : c.argTypes.toList[0]? = some t := by rw [hat]; rfl
                                              simpa using this
      have : ∀ cb, builtinA C.P .clear c.argTypes type cb ⟨[x']⟩ H = clearA C.P H t x' := fun cb => by simp only [builtinA, ht]
      rw [this]
      exact symClear_ok hr h hx
    · exact h.elim
  · rename_i hcal
    simp only [hcal, args__eq]
    split at h
    · rename_i x
      obtain ⟨x', r, he, hx, hn⟩ := hl.cons_inv
      rw [he, hn.nil_inv]
      exact symData_ok hr h hx
    · exact h.elim
  · rename_i hcal
    simp only [hcal, args__eq]
    split at h
    · rename_i p n t ts hat
      obtain ⟨p', r, he, hp, hn⟩ := hl.cons_inv
      obtain ⟨n', r', he', hn', hnn⟩ := hn.cons_inv
      rw [he, he', hnn.nil_inv]
      have ht : c.argTypes[0]? = some t := by have : c.argTypes.toList[0]? = some t := by rw [hat]; rfl
                                              simpa using this
      exact symUStr_ok hr ht h hp hn'
    · exact h.elim
  · rename_i hcal
    simp only [hcal, args__eq]
    exact (symMinMax_ok (mx := false) h hl H).op hr
  · rename_i hcal
    simp only [hcal, args__eq]
    exact (symMinMax_ok (mx := true) h hl H).op hr
  · rename_i f hcal
    simp only [hcal]
    obtain ⟨fv, h, hfv⟩ := withV_ok hr h
    split at h
    · rename_i g first cap
      cases hq : aeval F f with
      | func fn fs cs =>
        rw [hq] at hfv
        cases hfv with
        | fn h1 h2 h3 h4 =>
          rename_i fs' cs'
          simp only [args__eq]
          exact callE_sym E.fast E.bits E.ora E.tab E.srt E.hrun E.con hr h (LRel.append ⟨h1, h2⟩ (hl.append ⟨h3, h4⟩))
      | _ => rw [hq] at hfv; cases hfv
    · exact h.elim
  · exact h.elim

theorem symOp_ok {C : Ctx} {G : Msk} {srun : SRun} {run : Run} (E : Env C G srun run) {o : Op} {type : TypeId} (hr : SR C.P base H0 ν σ S F H) (h : symOp C srun o S K) : OpR C.P base H0 ν σ S F (opA (callA C.P G run) C.P F o type H) K := by
  unfold symOp at h
  split at h
  · exact symCallOp_ok E hr h
  · obtain ⟨v, h, hv⟩ := withV_ok hr h; exact OpR.pure hr hv h
  · obtain ⟨v, h, hv⟩ := withV_ok hr h; exact OpR.pure hr hv h
  · obtain ⟨c, h, hc⟩ := withV_ok hr h
    obtain ⟨a, h, ha⟩ := withV_ok hr h
    obtain ⟨b, h, hb⟩ := withV_ok hr h
    exact (symPick_ok h hc ha hb H).op hr
  · exact symAlloc_ok hr h
  · obtain ⟨v, h, hv⟩ := withV_ok hr h; exact symBox_ok hr h hv
  · obtain ⟨ps, h, hm, hl⟩ := symParts_ok hr h
    exact (symBuild_ok h hm hl H).op hr
  · obtain ⟨ps, h, hm, hl⟩ := symParts_ok hr h
    obtain ⟨ps, S1, σ1, h, hm1, f1, hl⟩ := frzParts_ok hr h hl
    exact OpR.frozen f1 (symBuildSlice_ok f1.1 h (hm1.trans hm) hl)
  · obtain ⟨a, h, ha⟩ := withV_ok hr h
    obtain ⟨v, v', h1, h2, h3⟩ := symLoad_ok hr h ha
    simp only [opA, h1]
    exact OpR.pure hr h3 h2
  · obtain ⟨a, h, ha⟩ := withV_ok hr h
    obtain ⟨x, h, hx⟩ := withV_ok hr h
    exact symStore_ok hr h ha hx
  · obtain ⟨x, h, hx⟩ := withV_ok hr h; exact (symNilCheck_ok h hx H).op hr
  · rename_i f first cap
    obtain ⟨fs, h, hf⟩ := withVs_ok hr h
    obtain ⟨cs, h, hc⟩ := withVs_ok hr h
    have e : opA (callA C.P G run) C.P F (.makeFunc (.func f) first cap) type H = some (.func (.func f) ⟨first.toList.map (aeval F)⟩ ⟨cap.toList.map (aeval F)⟩, H) := by
      simp only [opA]
      congr 2
      congr 1 <;> exact Array.toList_inj.1 (by simp)
    rw [e]
    exact OpR.pure hr (.fn hf.1 hf.2 hc.1 hc.2) h
  · obtain ⟨l, h, hl⟩ := withV_ok hr h
    obtain ⟨c, h, hc⟩ := withV_ok hr h
    exact symMakeSlice_ok hr h hl hc
  · obtain ⟨x, h, hx⟩ := withV_ok hr h
    obtain ⟨lo, h, hlo⟩ := withO_ok hr h
    obtain ⟨hi, h, hhi⟩ := withO_ok hr h
    obtain ⟨mx, h, hmx⟩ := withO_ok hr h
    exact (symSlice_ok hr h hx hlo hhi hmx).op hr
  · obtain ⟨x, h, hx⟩ := withV_ok hr h; exact (symFieldAddr_ok h hx H).op hr
  · obtain ⟨x, h, hx⟩ := withV_ok hr h; exact (symField_ok h hx H).op hr
  · obtain ⟨x, h, hx⟩ := withV_ok hr h
    obtain ⟨i, h, hi⟩ := withV_ok hr h
    exact (symIndexAddr_ok hr h hx hi).op hr
  · obtain ⟨x, h, hx⟩ := withV_ok hr h
    obtain ⟨i, h, hi⟩ := withV_ok hr h
    exact (symIndex_ok h hx hi H).op hr
  · obtain ⟨x, h, hx⟩ := withV_ok hr h; exact (symExtract_ok h hx H).op hr
  · obtain ⟨a, h, ha⟩ := withV_ok hr h
    obtain ⟨b, h, hb⟩ := withV_ok hr h
    exact (symBin_ok h ha hb H).op hr
  · obtain ⟨x, h, hx⟩ := withV_ok hr h; exact (symUn_ok h hx H).op hr
  · obtain ⟨x, h, hx⟩ := withV_ok hr h; exact (symConvS_ok hr h hx).op hr
  · exact h.elim

/-! ### Regions -/
/-- The slots that are turned. -/
def Same (ws : List Nat) (S S' : SS) : Prop := ∀ t, t ∉ ws → S'.fr.get t = S.fr.get t
theorem Same.refl (ws : List Nat) (S : SS) : Same ws S S := fun _ _ => rfl
theorem Same.trans {ws : List Nat} {a b c : SS} (h : Same ws a b) (k : Same ws b c) : Same ws a c := fun t ht => (k t ht).trans (h t ht)
theorem Same.mono {ws ws' : List Nat} {a b : SS} (h : Same ws a b) (hs : ∀ t, t ∈ ws → t ∈ ws') : Same ws' a b := fun t ht => h t fun hm => ht (hs t hm)

theorem Keeps.fr (S : SS) (f : T V) : Keeps S { S with fr := f } := ⟨Nat.le_refl _, rfl, rfl, rfl, fun _ h => h, fun _ _ _ => rfl, fun _ _ _ => rfl⟩
theorem SR.setFr {P : Program} (hr : SR P base H0 ν σ S F H) {t : Nat} {v : V} (hv : VRel P σ ν v (F.get t)) : SR P base H0 ν σ { S with fr := S.fr.put t (some v) } F H :=
  ⟨fun t' v' h => by
    change (S.fr.put t (some v)).get t' = some v' at h
    rw [T.get_put] at h
    by_cases e : t' = t
    · rw [if_pos e] at h; cases h; rw [e]; exact hv
    · rw [if_neg e] at h; exact hr.fr t' v' h, hr.fsz, hr.top, hr.nomk, hr.blk, hr.lt, hr.dom, hr.inj, hr.own, hr.sig, hr.apart, hr.mates, hr.wl, hr.old, hr.nxt, hr.role, hr.sb⟩

theorem SS.put_ok {P : Program} (hr : SR P base H0 ν σ S F H) {d : Option Tmp} {v : Option V} {v' : Value} {Ks : SS → Prop} (h : S.put d v Ks) (hv : ∀ u, v = some u → VRel P σ ν u v') :
    ∃ F' S', F.put d v' = some F' ∧ Ks S' ∧ SR P base H0 ν σ S' F' H ∧ Keeps S S' ∧ Same d.toList S S' := by
  cases d with
  | none => exact ⟨F, S, rfl, h, hr, .refl _, .refl _ _⟩
  | some d =>
    simp only [SS.put] at h
    cases hc : Nat.blt d S.sz with
    | false => rw [hc] at h; exact h.elim
    | true =>
      rw [hc] at h
      rw [hr.fsz] at hc
      obtain ⟨F', hF'⟩ : ∃ F', F.put (some d) v' = some F' := by simp only [AFrame.put, hc, cond_true]; exact ⟨_, rfl⟩
      obtain ⟨q1, q2, q3⟩ := put_get hF' hr.top
      refine ⟨F', _, hF', h, ⟨fun t u ht => ?_, by rw [q1]; exact hr.fsz, by rw [q1]; exact hr.top, by rw [q2]; exact hr.nomk, hr.blk, hr.lt, hr.dom, hr.inj, hr.own, hr.sig, hr.apart, hr.mates, hr.wl, hr.old, hr.nxt, hr.role, hr.sb⟩, .fr _ _, fun t ht => ?_⟩
      · change (S.fr.put d v).get t = some u at ht
        rw [T.get_put] at ht
        rw [q3 t]
        by_cases e : t = d
        · rw [if_pos e] at ht; rw [if_pos (by rw [e])]; exact hv u ht
        · rw [if_neg e] at ht; rw [if_neg (fun h => e (Option.some.inj h).symm)]; exact hr.fr t u ht
      · show (S.fr.put d v).get t = _
        rw [T.get_put, if_neg (fun e => ht (by simp [e]))]

/-- The slots that a region may turn. -/
def gdst (ops : Array Oper) (o : Oper) : Option Tmp := match o.guard with | some (j, _) => (ops[j]?).bind (·.dst) | none => none
theorem symFetch_ok {P : Program} (hr : SR P base H0 ν σ S F H) {ops : Array Oper} {o : Oper} {yes no : SS → Prop} (h : symFetch S ops o yes no) :
    ∃ S', SR P base H0 ν σ S' F H ∧ Keeps S S' ∧ Same (gdst ops o).toList S S' ∧ ((fetch F ops o = true ∧ yes S') ∨ (fetch F ops o = false ∧ no S')) := by
  unfold symFetch at h
  unfold fetch
  split at h
  · rename_i hg; rw [hg]; exact ⟨S, hr, .refl _, .refl _ _, .inl ⟨rfl, h⟩⟩
  · rename_i j want hg
    rw [hg]
    simp only
    split at h
    · rename_i d hd
      rw [hd]
      simp only
      have hgd : gdst ops o = some d := by unfold gdst; rw [hg]; exact hd
      have same : ∀ (u : V), Same (gdst ops o).toList S { S with fr := S.fr.put d (some u) } := fun u t ht => by
        show (S.fr.put d (some u)).get t = _
        rw [T.get_put, if_neg (fun e => ht (by rw [hgd]; simp [e]))]
      split at h
      · rename_i b hv
        have hvr := hr.fr d _ hv
        have hb : F.get d = .bool b := by generalize F.get d = x at hvr; cases hvr; rfl
        rw [hb]
        simp only
        cases hw : (b == want) with
        | true => rw [hw] at h; exact ⟨S, hr, .refl _, .refl _ _, .inl ⟨rfl, h⟩⟩
        | false => rw [hw] at h; exact ⟨S, hr, .refl _, .refl _ _, .inr ⟨rfl, h⟩⟩
      · rename_i ts hv
        have hvr := hr.fr d _ hv
        refine ⟨S, hr, .refl _, .refl _ _, .inr ⟨?_, h⟩⟩
        generalize F.get d = x at hvr
        cases hvr with
        | val hf => cases hf
        | undef => rfl
      · rename_i p hv
        have hvr := hr.fr d _ hv
        have hb : F.get d = .bool (dec p) := by generalize F.get d = x at hvr; cases hvr; rfl
        have go : ∀ b, dec p = b → SR P base H0 ν σ { S with fr := S.fr.put d (some (.val (.bool b))) } F H := fun b he => hr.setFr (by rw [hb, he]; exact .val rfl)
        rw [hb]
        simp only
        by_cases hp : p
        · have hd1 := dec_true hp
          cases want with
          | true => exact ⟨_, go true hd1, .fr _ _, same _, .inl ⟨by rw [hd1]; rfl, h.1 hp⟩⟩
          | false => exact ⟨_, go true hd1, .fr _ _, same _, .inr ⟨by rw [hd1]; rfl, h.2 hp⟩⟩
        · have hd1 := dec_false hp
          cases want with
          | true => exact ⟨_, go false hd1, .fr _ _, same _, .inr ⟨by rw [hd1]; rfl, h.2 hp⟩⟩
          | false => exact ⟨_, go false hd1, .fr _ _, same _, .inl ⟨by rw [hd1]; rfl, h.1 hp⟩⟩
      · exact h.elim
    · exact h.elim

/-- What a list of operations turns. -/
def wOps (ops : Array Oper) (l : List Oper) : List Nat := l.filterMap (·.dst) ++ l.filterMap (gdst ops)
theorem wOps_dst {ops : Array Oper} {l : List Oper} {o : Oper} (ho : o ∈ l) : ∀ t, t ∈ o.dst.toList → t ∈ wOps ops l := fun t ht => by
  unfold wOps
  rw [List.mem_append, List.mem_filterMap]
  exact .inl ⟨o, ho, by simpa using ht⟩
theorem wOps_g {ops : Array Oper} {l : List Oper} {o : Oper} (ho : o ∈ l) : ∀ t, t ∈ (gdst ops o).toList → t ∈ wOps ops l := fun t ht => by
  unfold wOps
  rw [List.mem_append]
  exact .inr (List.mem_filterMap.2 ⟨o, ho, by simpa using ht⟩)
theorem wOps_sub {ops : Array Oper} {l l' : List Oper} (hs : ∀ o, o ∈ l → o ∈ l') : ∀ t, t ∈ wOps ops l → t ∈ wOps ops l' := fun t ht => by
  unfold wOps at ht ⊢
  rw [List.mem_append, List.mem_filterMap, List.mem_filterMap] at ht ⊢
  rcases ht with ⟨o, ho, h⟩ | ⟨o, ho, h⟩
  · exact .inl ⟨o, hs o ho, h⟩
  · exact .inr ⟨o, hs o ho, h⟩
end
end Go.Ev

end

section

namespace Go.Ev
section
variable {base : Nat} {H0 : AHeap × Sig} {ν : Nu} {σ : Sig} {S : SS} {F : AFrame} {H : AHeap}

theorem symOps_ok {C : Ctx} {G : Msk} {srun : SRun} {run : Run} (E : Env C G srun run) {ops : Array Oper} : ∀ (l : List Oper) {S : SS} {F : AFrame} {H : AHeap} {ν : Nu} {σ : Sig} {Ks : SS → Prop}, SR C.P base H0 ν σ S F H → symOps C srun ops l S Ks →
    ∃ F' H', stepOps (callA C.P G run) C.P ops l F H = some (F', H') ∧ ∃ S' ν' σ', Ks S' ∧ SR C.P base H0 ν' σ' S' F' H' ∧ XNn S.nx ν ν' ∧ XS σ σ' ∧ Keeps S S' ∧ Same (wOps ops l) S S'
  | [], S, F, H, ν, σ, Ks, hr, h => ⟨F, H, rfl, S, ν, σ, h, hr, .refl _, .refl _, .refl _, .refl _ _⟩
  | o :: l, S, F, H, ν, σ, Ks, hr, h => by
    obtain ⟨S1, hr1, hk1, hs1, h | h⟩ := symFetch_ok hr (show symFetch S ops o (fun S => symOp C srun o.op S fun v S1 => S1.put o.dst (some v) fun S2 => symOps C srun ops l S2 Ks) (fun S => S.put o.dst (some (.val undef)) fun S2 => symOps C srun ops l S2 Ks) from h)
    · obtain ⟨hf, h⟩ := h
      obtain ⟨v', H2, hop, v, S2, ν2, σ2, h, hr2, hv, hxn, hxs, hfr, hk2⟩ := symOp_ok E (type := o.type) hr1 h
      obtain ⟨F3, S3, hput, h, hr3, hk3, hs3⟩ := SS.put_ok hr2 h (v' := v') (fun u hu => by cases hu; exact hv)
      obtain ⟨F4, H4, hst, S4, ν4, σ4, h, hr4, hxn4, hxs4, hk4, hs4⟩ := symOps_ok E l hr3 h
      refine ⟨F4, H4, ?_, S4, ν4, σ4, h, hr4, (hxn.mono hk1.nx).trans hxn4 (Nat.le_trans hk1.nx (Nat.le_trans hk2.nx hk3.nx)), hxs.trans hxs4, hk1.trans (hk2.trans (hk3.trans hk4)), ?_⟩
      · simp only [stepOps, hf, cond_true, hop, forceV_eq, hput, hst]
      · refine (hs1.mono (wOps_g List.mem_cons_self)).trans (.trans (fun t _ => by rw [hfr]) ((hs3.mono (wOps_dst List.mem_cons_self)).trans (hs4.mono (wOps_sub fun o ho => List.mem_cons_of_mem _ ho))))
    · obtain ⟨hf, h⟩ := h
      obtain ⟨F3, S3, hput, h, hr3, hk3, hs3⟩ := SS.put_ok hr1 h (v' := undef) (fun u hu => by cases hu; exact .undef)
      obtain ⟨F4, H4, hst, S4, ν4, σ4, h, hr4, hxn4, hxs4, hk4, hs4⟩ := symOps_ok E l hr3 h
      refine ⟨F4, H4, ?_, S4, ν4, σ4, h, hr4, hxn4.mono (Nat.le_trans hk1.nx hk3.nx), hxs4, hk1.trans (hk3.trans hk4), ?_⟩
      · simp only [stepOps, hf, cond_false, hput, hst]
      · refine (hs1.mono (wOps_g List.mem_cons_self)).trans ((hs3.mono (wOps_dst List.mem_cons_self)).trans (hs4.mono (wOps_sub fun o ho => List.mem_cons_of_mem _ ho)))

/-- A state for what is turned from here on. -/
theorem SR.rebase {P : Program} (hr : SR P base H0 ν σ S F H) {wl : Nat} (hwl : H.next ≤ wl) : SR P H.next (H, σ) ν σ { S with ro := S.nx } F { H with wlow := wl } :=
  ⟨hr.fr, hr.fsz, hr.top, hr.nomk, hr.blk, hr.lt, hr.dom, hr.inj, fun b i z hb h => (by rw [hr.dom b hb] at h; cases h), hr.sig, hr.apart, fun b k i z m h h' hm => ⟨fun hb => (by rw [hr.dom b hb] at h'; cases h'), (hr.mates b k i z m h h' hm).2⟩, hwl, fun _ _ => rfl, Nat.le_refl _, Nat.le_refl _, fun _ _ h _ => h⟩
/-- And back. -/
theorem SR.unbase {P : Program} (hr : SR P base H0 ν σ S F H) {ν2 : Nu} {σ2 : Sig} {S2 : SS} {F2 : AFrame} {H2 : AHeap} (hr2 : SR P H.next (H, σ) ν2 σ2 S2 F2 H2) (hxn : XNn S.nx ν ν2) (hk : Keeps { S with ro := S.nx } S2) {wl : Nat} (hwl : base ≤ wl) :
    SR P base H0 ν2 σ2 { S2 with ro := S.ro } F2 { H2 with wlow := wl } ∧ Keeps S { S2 with ro := S.ro } := by
  refine ⟨?_, ⟨hk.nx, hk.sz, rfl, hk.fl, hk.wr, hk.hp, fun b _ hb => hk.rb b hb hb⟩⟩
  have hnn : base ≤ H2.next := Nat.le_trans hr.nxt hr2.nxt
  refine ⟨hr2.fr, hr2.fsz, hr2.top, hr2.nomk, hr2.blk, hr2.lt, hr2.dom, hr2.inj, fun b i z hb h => ?_, hr2.sig, hr2.apart, fun b k i z m hk' h hm => ?_, hwl, fun i hi => (hr2.old i (Nat.lt_of_lt_of_le hi hr.nxt)).trans (hr.old i hi), hnn, Nat.le_trans hr.role hk.nx, fun i c hc hi => hr.sb i c (hr2.sb i c hc (Nat.lt_of_lt_of_le hi hr.nxt)) hi⟩
  · rcases Nat.lt_or_ge b S.nx with hlt | hge
    · exact hr.own b i z hb (by rw [← hxn b hlt]; exact h)
    · exact Nat.le_trans hr.nxt (hr2.own b i z (by rw [hk.ro]; exact hge) h)
  · obtain ⟨q1, q2⟩ := hr2.mates b k i z m hk' h hm
    refine ⟨fun hb => ?_, q2⟩
    rcases Nat.lt_or_ge b S.nx with hlt | hge
    · have hkb : S.hp.get b = some k := by rw [← hk.rb b hlt hlt]; exact hk'
      have hνb : ν b = some (i, z) := by rw [← hxn b hlt]; exact h
      have hmb : H.mate i = some m := by
        rw [← hm]
        refine (AHeap.mate_congr ?_)
        exact (hr2.old i (hr.lt b i z hνb)).symm
      exact (hr.mates b k i z m hkb hνb hmb).1 hb
    · exact Nat.le_trans hr.nxt (q1 (by rw [hk.ro]; exact hge))

/-- An operation that is to turn nothing that was there. -/
theorem symOp_still {C : Ctx} {G : Msk} {srun : SRun} {run : Run} (E : Env C G srun run) {o : Op} {type : TypeId} {K : V → SS → Prop} (hr : SR C.P base H0 ν σ S F H) (h : symOp C srun o { S with ro := S.nx } K) :
    ∃ v' H2, opA (callA C.P G run) C.P F o type { H with wlow := H.next } = some (v', H2) ∧ H.next ≤ H2.wlow ∧ ∃ v S2 ν2 σ2, K v S2 ∧ SR C.P base H0 ν2 σ2 { S2 with ro := S.ro } F { H2 with wlow := H.wlow } ∧ VRel C.P σ2 ν2 v v' ∧ XNn S.nx ν ν2 ∧ XS σ σ2 ∧ S2.fr = S.fr ∧ Keeps S { S2 with ro := S.ro } := by
  obtain ⟨v', H2, hop, v, S2, ν2, σ2, h, hr2, hv, hxn, hxs, hfr, hk⟩ := symOp_ok E (type := type) (hr.rebase (Nat.le_refl _)) h
  obtain ⟨h1, h2⟩ := hr.unbase hr2 hxn hk hr.wl
  exact ⟨v', H2, hop, hr2.wl, v, S2, ν2, σ2, h, h1, hv, hxn, hxs, hfr, h2⟩

theorem symPre_ok {C : Ctx} {G : Msk} {srun : SRun} {run : Run} (E : Env C G srun run) {ops : Array Oper} : ∀ (l : List Oper) {S : SS} {F : AFrame} {H : AHeap} {ν : Nu} {σ : Sig} {Ks : SS → Prop}, SR C.P base H0 ν σ S F H → symPre C srun ops l S Ks →
    ∃ F' H', preOps (callA C.P G run) C.P ops l F H = some (F', H') ∧ ∃ S' ν' σ', Ks S' ∧ SR C.P base H0 ν' σ' S' F' H' ∧ XNn S.nx ν ν' ∧ XS σ σ' ∧ Keeps S S' ∧ Same (wOps ops l) S S'
  | [], S, F, H, ν, σ, Ks, hr, h => ⟨F, H, rfl, S, ν, σ, h, hr, .refl _, .refl _, .refl _, .refl _ _⟩
  | o :: l, S, F, H, ν, σ, Ks, hr, h => by
    obtain ⟨S1, hr1, hk1, hs1, h | h⟩ := symFetch_ok hr (show symFetch S ops o (fun S => symOp C srun o.op { S with ro := S.nx } fun v S1 => SS.put { S1 with ro := S.ro } o.dst (some v) fun S2 => symPre C srun ops l S2 Ks) (fun S => S.put o.dst (some (.val undef)) fun S2 => symPre C srun ops l S2 Ks) from h)
    · obtain ⟨hf, h⟩ := h
      obtain ⟨v', H2, hop, hw, v, S2, ν2, σ2, h, hr2, hv, hxn, hxs, hfr, hk2⟩ := symOp_still E (type := o.type) hr1 h
      obtain ⟨F3, S3, hput, h, hr3, hk3, hs3⟩ := SS.put_ok hr2 h (v' := v') (fun u hu => by cases hu; exact hv)
      obtain ⟨F4, H4, hst, S4, ν4, σ4, h, hr4, hxn4, hxs4, hk4, hs4⟩ := symPre_ok E l hr3 h
      refine ⟨F4, H4, ?_, S4, ν4, σ4, h, hr4, (hxn.mono hk1.nx).trans hxn4 (Nat.le_trans hk1.nx (Nat.le_trans hk2.nx hk3.nx)), hxs.trans hxs4, hk1.trans (hk2.trans (hk3.trans hk4)), ?_⟩
      · simp only [preOps, hf, cond_true, hop, Nat.ble_eq_true_of_le hw, forceV_eq, hput, hst]
      · refine (hs1.mono (wOps_g List.mem_cons_self)).trans (.trans (fun t _ => by show S2.fr.get t = _; rw [hfr]) ((hs3.mono (wOps_dst List.mem_cons_self)).trans (hs4.mono (wOps_sub fun o ho => List.mem_cons_of_mem _ ho))))
    · obtain ⟨hf, h⟩ := h
      obtain ⟨F3, S3, hput, h, hr3, hk3, hs3⟩ := SS.put_ok hr1 h (v' := undef) (fun u hu => by cases hu; exact .undef)
      obtain ⟨F4, H4, hst, S4, ν4, σ4, h, hr4, hxn4, hxs4, hk4, hs4⟩ := symPre_ok E l hr3 h
      refine ⟨F4, H4, ?_, S4, ν4, σ4, h, hr4, hxn4.mono (Nat.le_trans hk1.nx hk3.nx), hxs4, hk1.trans (hk3.trans hk4), ?_⟩
      · simp only [preOps, hf, cond_false, hput, hst]
      · refine (hs1.mono (wOps_g List.mem_cons_self)).trans ((hs3.mono (wOps_dst List.mem_cons_self)).trans (hs4.mono (wOps_sub fun o ho => List.mem_cons_of_mem _ ho)))

/-- What is not a load gives the same in each heap. -/
theorem soft_any {P : Program} {G : Msk} {run : Run} {F : AFrame} {o : Op} {t : TypeId} {v : Value} {H H1 : AHeap} (ho : softOp o = true) (hl : ∀ t a, o ≠ .load t a) (h : opA (callA P G run) P F o t H = some (v, H1)) : H1 = H ∧ ∀ H', opA (callA P G run) P F o t H' = some (v, H') := by
  cases hf : heapFree o with
  | true => exact free_any hf h
  | false =>
    cases o with
    | load t a => exact absurd rfl (hl t a)
    | call c =>
      obtain ⟨cal, args, ats⟩ := c
      cases cal with
      | builtin b =>
        have hb : b = .len := by
          cases b <;> first | rfl | exact absurd ho (by simp [softOp])
        subst hb
        simp only [opA, callA, args__eq, builtinA, lenA] at h ⊢
        have fb : ∀ {a b c d}, flatB P .len a b c d H = some (v, H1) → H1 = H ∧ ∀ H', flatB P .len a b c d H' = some (v, H') := fun {a b c d} h => by
          unfold flatB at h ⊢
          cases hq : d.toList.all Ev.flat with
          | false => rw [hq] at h; cases h
          | true =>
            rw [hq] at h
            simp only [cond_true] at h ⊢
            split at h
            · rename_i u hu
              cases hq2 : Ev.flat u with
              | false => rw [hq2] at h; cases h
              | true =>
                rw [hq2] at h
                simp only [cond_true, Option.some.injEq, Prod.mk.injEq] at h
                obtain ⟨rfl, rfl⟩ := h
                exact ⟨rfl, fun _ => by simp [hq2]⟩
            · cases h
        split at h
        · split at h
          · simp only [Option.some.injEq, Prod.mk.injEq] at h
            obtain ⟨rfl, rfl⟩ := h
            exact ⟨rfl, fun _ => by simp_all⟩
          · cases h
        · exact fb h
      | value f => exact absurd ho (by simp [softOp])
      | invoke a b => exact absurd ho (by simp [softOp])
    | _ => exact absurd (hf.symm.trans ho) (by simp)

/-- A soft operation, on the start's heap. -/
theorem symSoft_ok {C : Ctx} {G : Msk} {srun : SRun} {run : Run} (E : Env C G srun run) {o : Op} {type : TypeId} {K : V → SS → Prop} {Hs : AHeap} {σs : Sig} {n0 : Nat} {νs : Nu} (hsoft : softOp o = true) (hlt : ∀ b i z, b < n0 → νs b = some (i, z) → i < Hs.next) (hxs : XNn n0 νs ν)
    (hr : SR C.P Hs.next (Hs, σs) ν σ S F H) (h : symSoft C srun n0 o S K) :
    ∃ v', opA (callA C.P G run) C.P F o type (Hs.upTo H.next) = some (v', Hs.upTo H.next) ∧ ∃ v S2 ν2 σ2, K v S2 ∧ SR C.P Hs.next (Hs, σs) ν2 σ2 S2 F H ∧ VRel C.P σ2 ν2 v v' ∧ XNn S.nx ν ν2 ∧ XS σ σ2 ∧ S2.fr = S.fr ∧ Keeps S S2 := by
  have gen : (∀ t a, o ≠ .load t a) → symOp C srun o S K → ∃ v', opA (callA C.P G run) C.P F o type (Hs.upTo H.next) = some (v', Hs.upTo H.next) ∧ ∃ v S2 ν2 σ2, K v S2 ∧ SR C.P Hs.next (Hs, σs) ν2 σ2 S2 F H ∧ VRel C.P σ2 ν2 v v' ∧ XNn S.nx ν ν2 ∧ XS σ σ2 ∧ S2.fr = S.fr ∧ Keeps S S2 := fun hl h => by
    obtain ⟨v', H2, hop, v, S2, ν2, σ2, h, hr2, hv, hxn, hxs, hfr, hk⟩ := symOp_ok E (type := type) hr h
    obtain ⟨rfl, hany⟩ := soft_any hsoft hl hop
    exact ⟨v', hany _, v, S2, ν2, σ2, h, hr2, hv, hxn, hxs, hfr, hk⟩
  unfold symSoft at h
  split at h
  · rename_i t a
    obtain ⟨av, h, ha⟩ := withV_ok hr h
    split at h
    · rename_i b off
      cases hb : Nat.blt b n0 with
      | false => rw [hb] at h; exact h.elim
      | true =>
        rw [hb] at h
        have h : symLoad C.P S t (.ptr b off) (fun v => K v S) := h
        obtain ⟨v, v', h1, h2, h3⟩ := symLoad_ok hr h ha
        refine ⟨v', ?_, v, S, ν, σ, h2, hr, h3, .refl _, .refl _, rfl, .refl _⟩
        cases ha' : aeval F a with
        | pointer p =>
          rw [ha'] at ha h1
          cases ha with
          | ptr hν =>
            rename_i i z
            have hi : i < Hs.next := hlt b i z (blt_lt hb) (by rw [← hxs b (blt_lt hb)]; exact hν)
            have hc : (Hs.upTo H.next).cells i = H.cells i := by
              unfold AHeap.cells
              rw [show (Hs.upTo H.next).get i = Hs.get i from rfl, hr.old i hi]
            have : loadA C.P (Hs.upTo H.next) t (.pointer (some ⟨i, off, none⟩)) = some v' := by
              rw [← h1]
              unfold loadA
              simp only [hc]
            simp only [opA, ha', this, valA]
        | _ => rw [ha'] at ha; cases ha <;> (rename_i hh; simp [loadA] at h1)
    · exact h.elim
  · rename_i hnl
    exact gen (fun t a e => hnl t a e) h

theorem symEarly_ok {C : Ctx} {G : Msk} {srun : SRun} {run : Run} (E : Env C G srun run) {ops : Array Oper} {Hs : AHeap} {σs : Sig} {n0 : Nat} {νs : Nu} {g : Bool} (hlt : ∀ b i z, b < n0 → νs b = some (i, z) → i < Hs.next) :
    ∀ (l : List Oper) {S : SS} {F : AFrame} {H : AHeap} {ν : Nu} {σ : Sig} {Ks : SS → Prop}, SR C.P Hs.next (Hs, σs) ν σ S F { H with wlow := Hs.next } → S.ro = n0 → n0 ≤ S.nx → XNn n0 νs ν → base ≤ H.wlow → base ≤ Hs.next → symEarly C srun ops n0 g l S Ks →
    ∃ F' H', earlyOps (callA C.P G run) C.P ops Hs g l F H = some (F', H') ∧ base ≤ H'.wlow ∧ ∃ S' ν' σ', Ks S' ∧ SR C.P Hs.next (Hs, σs) ν' σ' S' F' { H' with wlow := Hs.next } ∧ S'.ro = n0 ∧ n0 ≤ S'.nx ∧ XNn S.nx ν ν' ∧ XS σ σ' ∧ Keeps S S' ∧ Same (wOps ops l) S S'
  | [], S, F, H, ν, σ, Ks, hr, hro, hn, hx, hw, _, h => ⟨F, H, rfl, hw, S, ν, σ, h, hr, hro, hn, .refl _, .refl _, .refl _, .refl _ _⟩
  | o :: l, S, F, H, ν, σ, Ks, hr, hro, hn, hx, hw, hbn, h => by
    obtain ⟨S1, hr1, hk1, hs1, h | h⟩ := symFetch_ok hr (show symFetch S ops o (fun S => cond (softOp o.op) (symSoft C srun n0 o.op S fun v S1 => S1.put o.dst (some v) fun S2 => symEarly C srun ops n0 g l S2 Ks)
      (symOp C srun o.op { S with ro := cond g S.nx n0 } fun v S1 => SS.put { S1 with ro := n0 } o.dst (some v) fun S2 => symEarly C srun ops n0 g l S2 Ks)) (fun S => S.put o.dst (some (.val undef)) fun S2 => symEarly C srun ops n0 g l S2 Ks) from h)
    · obtain ⟨hf, h⟩ := h
      cases hsf : softOp o.op with
      | true =>
        rw [hsf] at h
        have h : symSoft C srun n0 o.op S1 (fun v S1 => S1.put o.dst (some v) fun S2 => symEarly C srun ops n0 g l S2 Ks) := h
        obtain ⟨v', hop, v, S2, ν2, σ2, h, hr2, hv, hxn, hxs, hfr, hk2⟩ := symSoft_ok E (type := o.type) hsf hlt hx hr1 h
        obtain ⟨F3, S3, hput, h, hr3, hk3, hs3⟩ := SS.put_ok hr2 h (v' := v') (fun u hu => by cases hu; exact hv)
        have hk23 := hk1.trans (hk2.trans hk3)
        obtain ⟨F4, H4, hst, hw4, S4, ν4, σ4, h, hr4, hro4, hn4, hxn4, hxs4, hk4, hs4⟩ := symEarly_ok E hlt l hr3 (hk23.ro.trans hro) (Nat.le_trans hn hk23.nx) (hx.trans (hxn.mono hk1.nx) hn) hw hbn h
        refine ⟨F4, H4, ?_, hw4, S4, ν4, σ4, h, hr4, hro4, hn4, (hxn.mono hk1.nx).trans hxn4 hk23.nx, hxs.trans hxs4, hk23.trans hk4, ?_⟩
        · have hop' : opA (callA C.P G run) C.P F o.op o.type (Hs.upTo H.next) = some (v', Hs.upTo H.next) := hop
          simp only [earlyOps, hf, hsf, cond_true, hop', forceV_eq, hput]
          rw [show Nat.beq (Hs.upTo H.next).next H.next = true from Nat.beq_refl _, show Nat.ble H.next (Hs.upTo H.next).wlow = true from Nat.ble_eq_true_of_le (Nat.le_refl _)]
          simp only [Bool.and_self, cond_true, hput]
          exact hst
        · refine (hs1.mono (wOps_g List.mem_cons_self)).trans (.trans (fun t _ => by rw [hfr]) ((hs3.mono (wOps_dst List.mem_cons_self)).trans (hs4.mono (wOps_sub fun o ho => List.mem_cons_of_mem _ ho))))
      | false =>
        rw [hsf] at h
        have h : symOp C srun o.op { S1 with ro := cond g S1.nx n0 } (fun v S1 => SS.put { S1 with ro := n0 } o.dst (some v) fun S2 => symEarly C srun ops n0 g l S2 Ks) := h
        have hro1 : S1.ro = n0 := hk1.ro.trans hro
        have hn1 : n0 ≤ S1.nx := Nat.le_trans hn hk1.nx
        obtain ⟨v', H2, hop, hq, v, S2, ν2, σ2, h, hr2, hv, hxn, hxs, hfr, hk2⟩ : ∃ (v' : Value) (H2 : AHeap), opA (callA C.P G run) C.P F o.op o.type { H with wlow := H.next } = some (v', H2) ∧ (cond g H.next Hs.next) ≤ H2.wlow ∧ ∃ (v : V) (S2 : SS) (ν2 : Nu) (σ2 : Sig), (SS.put { S2 with ro := n0 } o.dst (some v) fun S2 => symEarly C srun ops n0 g l S2 Ks) ∧ SR C.P Hs.next (Hs, σs) ν2 σ2 { S2 with ro := n0 } F { H2 with wlow := Hs.next } ∧ VRel C.P σ2 ν2 v v' ∧ XNn S1.nx ν ν2 ∧ XS σ σ2 ∧ S2.fr = S1.fr ∧ Keeps S1 { S2 with ro := n0 } := by
          cases g with
          | true =>
            obtain ⟨v', H2, hop, hq, v, S2, ν2, σ2, h, hr2, hv, hxn, hxs, hfr, hk2⟩ := symOp_still E (type := o.type) hr1 h
            rw [hro1] at hr2 hk2
            exact ⟨v', H2, hop, hq, v, S2, ν2, σ2, h, hr2, hv, hxn, hxs, hfr, hk2⟩
          | false =>
            have hnx : Hs.next ≤ H.next := hr1.nxt
            have hr1' : SR C.P Hs.next (Hs, σs) ν σ { S1 with ro := n0 } F { H with wlow := H.next } := by
              have e : ({ S1 with ro := n0 } : SS) = S1 := by rw [← hro1]
              rw [e]
              exact ⟨hr1.fr, hr1.fsz, hr1.top, hr1.nomk, hr1.blk, hr1.lt, hr1.dom, hr1.inj, hr1.own, hr1.sig, hr1.apart, hr1.mates, hnx, hr1.old, hr1.nxt, hr1.role, hr1.sb⟩
            obtain ⟨v', H2, hop, v, S2, ν2, σ2, h, hr2, hv, hxn, hxs, hfr, hk2⟩ := symOp_ok E (type := o.type) hr1' h
            have e2 : ({ S2 with ro := n0 } : SS) = S2 := by rw [← show S2.ro = n0 from hk2.ro]
            refine ⟨v', H2, hop, hr2.wl, v, S2, ν2, σ2, h, ?_, hv, hxn, hxs, hfr, ?_⟩
            · rw [e2]
              exact ⟨hr2.fr, hr2.fsz, hr2.top, hr2.nomk, hr2.blk, hr2.lt, hr2.dom, hr2.inj, hr2.own, hr2.sig, hr2.apart, hr2.mates, Nat.le_refl _, hr2.old, hr2.nxt, hr2.role, hr2.sb⟩
            · have e1 : ({ S1 with ro := n0 } : SS) = S1 := by rw [← hro1]
              rw [e1] at hk2
              rw [e2]; exact hk2
        obtain ⟨F3, S3, hput, h, hr3, hk3, hs3⟩ := SS.put_ok hr2 h (v' := v') (fun u hu => by cases hu; exact hv)
        have hk23 := hk1.trans (hk2.trans hk3)
        have hH2 : Hs.next ≤ H2.wlow := by
          cases g with
          | true => exact Nat.le_trans (show Hs.next ≤ H.next from hr1.nxt) hq
          | false => exact hq
        have hwl : base ≤ cond (Nat.ble H.wlow H2.wlow) H.wlow H2.wlow := by
          cases Nat.ble H.wlow H2.wlow with
          | true => exact hw
          | false => exact Nat.le_trans hbn hH2
        obtain ⟨F4, H4, hst, hw4, S4, ν4, σ4, h, hr4, hro4, hn4, hxn4, hxs4, hk4, hs4⟩ := symEarly_ok E hlt l (H := { H2 with wlow := cond (Nat.ble H.wlow H2.wlow) H.wlow H2.wlow }) hr3 (hk23.ro.trans hro) (Nat.le_trans hn hk23.nx) (hx.trans (hxn.mono hk1.nx) hn) hwl hbn h
        refine ⟨F4, H4, ?_, hw4, S4, ν4, σ4, h, hr4, hro4, hn4, (hxn.mono hk1.nx).trans hxn4 hk23.nx, hxs.trans hxs4, hk23.trans hk4, ?_⟩
        · simp only [earlyOps, hf, hsf, cond_true, cond_false, hop, Nat.ble_eq_true_of_le hq, forceV_eq, hput]
          exact hst
        · refine (hs1.mono (wOps_g List.mem_cons_self)).trans (.trans (fun t _ => by show S2.fr.get t = _; rw [hfr]) ((hs3.mono (wOps_dst List.mem_cons_self)).trans (hs4.mono (wOps_sub fun o ho => List.mem_cons_of_mem _ ho))))
    · obtain ⟨hf, h⟩ := h
      obtain ⟨F3, S3, hput, h, hr3, hk3, hs3⟩ := SS.put_ok hr1 h (v' := undef) (fun u hu => by cases hu; exact .undef)
      have hk13 := hk1.trans hk3
      obtain ⟨F4, H4, hst, hw4, S4, ν4, σ4, h, hr4, hro4, hn4, hxn4, hxs4, hk4, hs4⟩ := symEarly_ok E hlt l hr3 (hk13.ro.trans hro) (Nat.le_trans hn hk13.nx) hx hw hbn h
      refine ⟨F4, H4, ?_, hw4, S4, ν4, σ4, h, hr4, hro4, hn4, hxn4.mono hk13.nx, hxs4, hk13.trans hk4, ?_⟩
      · simp only [earlyOps, hf, cond_false, hput]
        exact hst
      · refine (hs1.mono (wOps_g List.mem_cons_self)).trans ((hs3.mono (wOps_dst List.mem_cons_self)).trans (hs4.mono (wOps_sub fun o ho => List.mem_cons_of_mem _ ho)))

theorem symFoot_ok {P : Program} {o : Op} {K : List Nat → List Nat → Prop} (hr : SR P base H0 ν σ S F H) (h : symFoot S o K) : ∃ l1 s1 l s, K l1 s1 ∧ footC F H o = some (l, s) ∧
    (∀ x, x ∈ l → ∃ b, b ∈ l1 ∧ (∃ z, ν b = some (x, z)) ∧ isBox S b = true) ∧ (s = [] ∨ isStoreOp o = true ∧ ∃ b i z, b ∈ s1 ∧ isBox S b = true ∧ ν b = some (i, z) ∧ s = i :: (H.mate i).toList) := by
  have gen : ∀ {l1 s1 : List Nat}, K l1 s1 → footC F H o = some ([], []) → ∃ l1 s1 l s, K l1 s1 ∧ footC F H o = some (l, s) ∧
    (∀ x, x ∈ l → ∃ b, b ∈ l1 ∧ (∃ z, ν b = some (x, z)) ∧ isBox S b = true) ∧ (s = [] ∨ isStoreOp o = true ∧ ∃ b i z, b ∈ s1 ∧ isBox S b = true ∧ ν b = some (i, z) ∧ s = i :: (H.mate i).toList) :=
    fun hk e => ⟨_, _, [], [], hk, e, fun x hx => by simp at hx, .inl rfl⟩
  unfold symFoot at h
  split at h
  · rename_i t a
    obtain ⟨av, h, ha⟩ := withV_ok hr h
    split at h
    · rename_i b off
      cases hb : isBox S b with
      | false => rw [hb] at h; exact h.elim
      | true =>
        rw [hb] at h
        cases hea : aeval F a with
        | pointer p =>
          rw [hea] at ha
          cases ha with
          | ptr hν =>
            rename_i i z
            exact ⟨[b], [], [i], [], h, by simp only [footC, hea], fun x hx => ⟨b, by simp, ⟨z, by rw [List.mem_singleton.1 hx]; exact hν⟩, hb⟩, .inl rfl⟩
        | _ => rw [hea] at ha; cases ha
    · exact h.elim
  · rename_i t a x
    obtain ⟨av, h, ha⟩ := withV_ok hr h
    split at h
    · rename_i b off
      cases hb : isBox S b with
      | false => rw [hb] at h; exact h.elim
      | true =>
        rw [hb] at h
        cases hea : aeval F a with
        | pointer p =>
          rw [hea] at ha
          cases ha with
          | ptr hν =>
            rename_i i z
            have hb' := hb
            unfold isBox at hb'
            split at hb'
            · rename_i e cs hg
              obtain ⟨i', z', hν', hB⟩ := hr.blk _ _ hg
              rw [hν] at hν'; cases hν'
              obtain ⟨cs', m, hgi, _⟩ := hB
              refine ⟨[], [b], [], i :: m.toList, h, by simp only [footC, hea, hgi], fun x hx => (by simp at hx), .inr ⟨rfl, b, i, z, by simp, hb, hν, ?_⟩⟩
              unfold AHeap.mate
              rw [hgi]
            · cases hb'
        | _ => rw [hea] at ha; cases ha
    · exact h.elim
  · rename_i s d x
    obtain ⟨xv, h, hx⟩ := withV_ok hr h
    split at h
    · rename_i kn hk
      refine gen h ?_
      cases xv with
      | int k n => cases hxe : aeval F x <;> rw [hxe] at hx <;> first | (cases hx; done) | simp only [footC, hxe]
      | val v =>
        cases v with
        | int k n => cases hxe : aeval F x <;> rw [hxe] at hx <;> first | (cases hx; done) | simp only [footC, hxe]
        | _ => cases hk
      | _ => cases hk
    · exact h.elim
  · rename_i h1 h2 h3
    refine gen h ?_
    cases o <;> first | rfl | exact absurd rfl (h1 _ _) | exact absurd rfl (h2 _ _ _) | exact absurd rfl (h3 _ _ _)

/-- What is loaded and turned so far. -/
structure FootR (ν : Nu) (H : AHeap) (l1 s1 l s : List Nat) : Prop where
  ld : ∀ x, x ∈ l → ∃ b, b ∈ l1 ∧ ∃ z, ν b = some (x, z)
  st : ∀ y, y ∈ s → (∃ b, b ∈ s1 ∧ ∃ z, ν b = some (y, z)) ∨ (H.get y = none ∧ ∀ x, x ∈ l → x ≠ y)

theorem symC_ok {C : Ctx} {G : Msk} {srun : SRun} {run : Run} (E : Env C G srun run) {ops : Array Oper} : ∀ (l : List Oper) {S : SS} {F : AFrame} {H : AHeap} {ν : Nu} {σ : Sig} {Ks : SS → Prop} {ld1 st1 ld st : List Nat}, (∀ o, o ∈ l → isPlainOp o.op = true) → SR C.P base H0 ν σ S F H → FootR ν H ld1 st1 ld st → symC C srun ops l S ld1 st1 Ks →
    ∃ F' H', stepC (callA C.P G run) C.P ops l F H ld st = some (F', H') ∧ ∃ S' ν' σ', Ks S' ∧ SR C.P base H0 ν' σ' S' F' H' ∧ XNn S.nx ν ν' ∧ XS σ σ' ∧ Keeps S S' ∧ Same (wOps ops l) S S'
  | [], S, F, H, ν, σ, Ks, ld1, st1, ld, st, _, hr, hft, h => by
    have h : cond (ld1.all fun b => st1.all fun b' => !Nat.beq b b') (Ks S) False := h
    cases hc : (ld1.all fun b => st1.all fun b' => !Nat.beq b b') with
    | false => rw [hc] at h; exact h.elim
    | true =>
      rw [hc] at h
      refine ⟨F, H, ?_, S, ν, σ, h, hr, .refl _, .refl _, .refl _, .refl _ _⟩
      have : (ld.all fun i => st.all fun j => !Nat.beq i j) = true := by
        refine List.all_eq_true.2 fun x hx => List.all_eq_true.2 fun y hy => ?_
        have hne : x ≠ y := by
          rcases hft.st y hy with ⟨b', hb', z', hν'⟩ | ⟨_, h2⟩
          · obtain ⟨b, hb, z, hν⟩ := hft.ld x hx
            intro e
            subst e
            have hbb := hr.inj b b' x z z' hν hν'
            have := List.all_eq_true.1 (List.all_eq_true.1 hc b hb) b' hb'
            rw [hbb, Nat.beq_refl] at this; cases this
          · exact h2 x hx
        rw [beqF hne]; rfl
      simp only [stepC, this, cond_true]
  | o :: l, S, F, H, ν, σ, Ks, ld1, st1, ld, st, hpl, hr, hft, h => by
    obtain ⟨S1, hr1, hk1, hs1, h | h⟩ := symFetch_ok hr (show symFetch S ops o (fun S => cond (ld1.all fun b => isBox S b) (symFoot S o.op fun l1 s1 => symOp C srun o.op S fun v S1 => S1.put o.dst (some v) fun S2 => symC C srun ops l S2 (l1 ++ ld1) (s1 ++ st1) Ks) False) (fun S => S.put o.dst (some (.val undef)) fun S2 => symC C srun ops l S2 ld1 st1 Ks) from h)
    · obtain ⟨hf, h⟩ := h
      cases hbx : (ld1.all fun b => isBox S1 b) with
      | false => rw [hbx] at h; exact h.elim
      | true =>
      rw [hbx] at h
      simp only [cond_true] at h
      obtain ⟨l1, s1, l0, s0, h, hfoot, hfl, hfs⟩ := symFoot_ok hr1 h
      obtain ⟨v', H2, hop, v, S2, ν2, σ2, h, hr2, hv, hxn, hxs, hfr, hk2⟩ := symOp_ok E (type := o.type) hr1 h
      obtain ⟨F3, S3, hput, h, hr3, hk3, hs3⟩ := SS.put_ok hr2 h (v' := v') (fun u hu => by cases hu; exact hv)
      obtain ⟨_, e2, e3, _, e5⟩ := plain_eff (hpl o List.mem_cons_self) hfoot hop
      have nu2 : ∀ b x z, ν b = some (x, z) → ν2 b = some (x, z) := fun b x z hz => by
        by_cases hb : b < S1.nx
        · rw [hxn b hb]; exact hz
        · have := hr1.dom b (by omega); rw [this] at hz; cases hz
      have boxed : ∀ b, isBox S1 b = true → ∃ k, S1.hp.get b = some k ∧ ∀ x z, ν b = some (x, z) → H.get x ≠ none := fun b hb => by
        unfold isBox at hb
        split at hb
        · rename_i e cs hg
          refine ⟨_, hg, fun x z hz => ?_⟩
          obtain ⟨i, z', hν', hB⟩ := hr1.blk _ _ hg
          rw [hz] at hν'; cases hν'
          obtain ⟨cs', m, hgi, _⟩ := hB
          rw [hgi]; simp
        · cases hb
      have hld : ∀ x, x ∈ l0 ++ ld → ∃ b, b ∈ l1 ++ ld1 ∧ (∃ z, ν b = some (x, z)) ∧ isBox S1 b = true := fun x hx => by
        rcases List.mem_append.1 hx with h1 | h1
        · obtain ⟨b, q1, q2, q3⟩ := hfl x h1; exact ⟨b, List.mem_append_left _ q1, q2, q3⟩
        · obtain ⟨b, q1, q2⟩ := hft.ld x h1; exact ⟨b, List.mem_append_right _ q1, q2, List.all_eq_true.1 hbx b q1⟩
      have hft3 : FootR ν2 H2 (l1 ++ ld1) (s1 ++ st1) (l0 ++ ld) (s0 ++ st) := by
        refine ⟨fun x hx => ?_, fun y hy => ?_⟩
        · obtain ⟨b, q1, ⟨z, q2⟩, q3⟩ := hld x hx
          exact ⟨b, q1, z, nu2 b x z q2⟩
        · rcases List.mem_append.1 hy with h1 | h1
          · rcases hfs with e | ⟨hso, b, i, z, q1, q2, q3, q4⟩
            · rw [e] at h1; simp at h1
            · obtain ⟨k, hg, _⟩ := boxed b q2
              by_cases hyi : y = i
              · subst hyi; exact .inl ⟨b, List.mem_append_left _ q1, z, nu2 b y z q3⟩
              · have hym : y ∈ (H.mate i).toList := by
                  rw [q4] at h1
                  rcases List.mem_cons.1 h1 with e | e
                  · exact absurd e hyi
                  · exact e
                obtain ⟨_, _, _, q8⟩ := hr1.mates b _ i z y hg q3 (by simpa using hym)
                refine .inr ⟨e5 hso i _ q4 y hym hyi, fun x hx e => ?_⟩
                obtain ⟨b', _, ⟨z', hz'⟩, hbb⟩ := hld x hx
                obtain ⟨k', hg', _⟩ := boxed b' hbb
                exact q8 b' _ z' hg' (by rw [← e]; exact hz')
          · rcases hft.st y h1 with ⟨b, q1, z, q2⟩ | ⟨q1, q2⟩
            · exact .inl ⟨b, List.mem_append_right _ q1, z, nu2 b y z q2⟩
            · refine .inr ⟨e3 y q1, fun x hx e => ?_⟩
              obtain ⟨b, _, ⟨z, q5⟩, q6⟩ := hld x hx
              obtain ⟨_, _, q7⟩ := boxed b q6
              exact q7 x z q5 (by rw [e]; exact q1)
      obtain ⟨F4, H4, hst, S4, ν4, σ4, h, hr4, hxn4, hxs4, hk4, hs4⟩ := symC_ok E l (fun o ho => hpl o (List.mem_cons_of_mem _ ho)) hr3 hft3 h
      refine ⟨F4, H4, ?_, S4, ν4, σ4, h, hr4, (hxn.mono hk1.nx).trans hxn4 (Nat.le_trans hk1.nx (Nat.le_trans hk2.nx hk3.nx)), hxs.trans hxs4, hk1.trans (hk2.trans (hk3.trans hk4)), ?_⟩
      · simp only [stepC, hf, cond_true, hfoot, hop, forceV_eq, hput, hst]
      · refine (hs1.mono (wOps_g List.mem_cons_self)).trans (.trans (fun t _ => by rw [hfr]) ((hs3.mono (wOps_dst List.mem_cons_self)).trans (hs4.mono (wOps_sub fun o ho => List.mem_cons_of_mem _ ho))))
    · obtain ⟨hf, h⟩ := h
      obtain ⟨F3, S3, hput, h, hr3, hk3, hs3⟩ := SS.put_ok hr1 h (v' := undef) (fun u hu => by cases hu; exact .undef)
      obtain ⟨F4, H4, hst, S4, ν4, σ4, h, hr4, hxn4, hxs4, hk4, hs4⟩ := symC_ok E l (fun o ho => hpl o (List.mem_cons_of_mem _ ho)) hr3 hft h
      refine ⟨F4, H4, ?_, S4, ν4, σ4, h, hr4, hxn4.mono (Nat.le_trans hk1.nx hk3.nx), hxs4, hk1.trans (hk3.trans hk4), ?_⟩
      · simp only [stepC, hf, cond_false, hput, hst]
      · refine (hs1.mono (wOps_g List.mem_cons_self)).trans ((hs3.mono (wOps_dst List.mem_cons_self)).trans (hs4.mono (wOps_sub fun o ho => List.mem_cons_of_mem _ ho)))

theorem symRegion_ok {C : Ctx} {G : Msk} {srun : SRun} {run : Run} (E : Env C G srun run) {ops : Array Oper} {draw : Bool} {Q : SQ} (hr : SR C.P base H0 ν σ S F H) (h : symRegion C srun ops draw S Q) :
    ∃ F' H', evRegion C.P G run ops draw F H = some (.normal, F', H') ∧ ∃ S' ν' σ', Q .normal S' ∧ SR C.P base H0 ν' σ' S' F' H' ∧ XNn S.nx ν ν' ∧ XS σ σ' ∧ Keeps S S' ∧ Same (wOps ops ops.toList) S S' := by
  unfold symRegion at h
  unfold evRegion
  cases draw with
  | false =>
    obtain ⟨F', H', h1, S', ν', σ', h2⟩ := symOps_ok E ops.toList hr h
    exact ⟨F', H', by simp only [cond_false, h1], S', ν', σ', h2⟩
  | true =>
    simp only [cond_true] at h ⊢
    generalize tailFrom (freeOf ops) (masks ops.toList []) ops.size = W at h ⊢
    unfold symDraw at h
    unfold evDrawW
    generalize tailFrom (softOf ops) (masks ops.toList []) W = T at h ⊢
    cases hb : wantB ops T W with
    | true =>
      rw [hb] at h
      simp only [cond_true] at h ⊢
      unfold evDrawB
      cases hd : drawOKB ops (masks ops.toList []) T W with
      | false => rw [hd] at h; exact h.elim
      | true =>
        rw [hd] at h
        simp only [cond_true] at h ⊢
        obtain ⟨F1, H1, h1, hw1, S1, ν1, σ1, h, hr1, hro1, hn1, hxn1, hxs1, hk1, hs1⟩ := symEarly_ok E (base := base) (Hs := H) (σs := σ) (n0 := S.nx) (νs := ν) (fun b i z _ hν => hr.lt b i z hν) _ (hr.rebase (Nat.le_refl _)) rfl (Nat.le_refl _) (.refl _) hr.wl hr.nxt h
        obtain ⟨F2, H2, h2, hw2, S2, ν2, σ2, h, hr2, hro2, hn2, hxn2, hxs2, hk2, hs2⟩ := symEarly_ok E (base := base) (Hs := H) (σs := σ) (n0 := S.nx) (νs := ν) (fun b i z _ hν => hr.lt b i z hν) _ hr1 hro1 hn1 hxn1 hw1 hr.nxt h
        obtain ⟨hr2', hk2'⟩ := hr.unbase hr2 (hxn1.trans hxn2 hn1) (hk1.trans hk2) hw2
        obtain ⟨F3, H3, h3, S3, ν3, σ3, h, hr3, hxn3, hxs3, hk3, hs3⟩ := symOps_ok E _ hr2' h
        refine ⟨F3, H3, by simp only [h1, h2, h3], S3, ν3, σ3, h, hr3, (hxn1.trans hxn2 hn1).trans hxn3 hk2'.nx, (hxs1.trans hxs2).trans hxs3, hk2'.trans hk3, ?_⟩
        refine (Same.trans (hs1.mono (wOps_sub fun o ho => List.mem_of_mem_take ho)) (hs2.mono (wOps_sub fun o ho => List.mem_of_mem_take (List.mem_of_mem_drop ho)))).trans ?_
        exact Same.trans (fun t _ => rfl) (hs3.mono (wOps_sub fun o ho => List.mem_of_mem_drop ho))
    | false =>
      rw [hb] at h
      simp only [cond_false] at h ⊢
      cases hcw : wantC ops W with
      | true =>
        rw [hcw] at h
        simp only [cond_true] at h ⊢
        unfold evDrawC
        cases hd : drawOKC ops (masks ops.toList []) with
        | false => rw [hd] at h; exact h.elim
        | true =>
          rw [hd] at h
          simp only [cond_true] at h ⊢
          unfold wantC at hcw
          simp only [Bool.and_eq_true] at hcw
          obtain ⟨F1, H1, h1, S1, ν1, σ1, h, hr1, hxn1, hxs1, hk1, hs1⟩ := symC_ok E ops.toList (ld := []) (st := []) (fun o ho => List.all_eq_true.1 hcw.2 o ho) hr ⟨fun x hx => by simp at hx, fun y hy => by simp at hy⟩ h
          exact ⟨F1, H1, by simp only [h1], S1, ν1, σ1, h, hr1, hxn1, hxs1, hk1, hs1⟩
      | false =>
      rw [hcw] at h
      simp only [cond_false] at h ⊢
      unfold evDraw
      cases hd : drawOK ops (masks ops.toList []) W with
      | false => rw [hd] at h; exact h.elim
      | true =>
        rw [hd] at h
        simp only [cond_true] at h ⊢
        obtain ⟨F1, H1, h1, S1, ν1, σ1, h, hr1, hxn1, hxs1, hk1, hs1⟩ := symPre_ok E _ hr h
        obtain ⟨F2, H2, h2, S2, ν2, σ2, h, hr2, hxn2, hxs2, hk2, hs2⟩ := symOps_ok E _ hr1 h
        refine ⟨F2, H2, by simp only [h1, h2], S2, ν2, σ2, h, hr2, hxn1.trans hxn2 hk1.nx, hxs1.trans hxs2, hk1.trans hk2, ?_⟩
        exact (hs1.mono (wOps_sub fun o ho => List.mem_of_mem_take ho)).trans (hs2.mono (wOps_sub fun o ho => List.mem_of_mem_drop ho))
end
end Go.Ev

end

section

namespace Go.Ev
section
variable {P : Program} {base : Nat} {H0 : AHeap × Sig} {ν : Nu} {σ : Sig} {F : AFrame} {H : AHeap}

theorem T.all_node {α : Type} {p : Nat → α → Bool} (l : T α) (v0 : Option α) (r : T α) (f : Nat → Nat) : T.all p (.node l v0 r) f = ((match v0 with | some a => p (f 0) a | none => true) && T.all p l (fun n => f (2 * n + 1)) && T.all p r (fun n => f (2 * n + 2))) := rfl
theorem bMatch_cons (ren : Nat → Nat) (v v0 : V) (cs cs0 : List V) : bMatch.vs ren (v :: cs) (v0 :: cs0) = (vMatchR ren v v0 ∧ bMatch.vs ren cs cs0) := rfl
theorem T.all_get {α : Type} {p : Nat → α → Bool} : ∀ (t : T α) (f : Nat → Nat), T.all p t f = true → ∀ n v, t.get n = some v → p (f n) v = true
  | .leaf, f, _, n, v, h => by cases h
  | .node l v0 r, f, hp, n, v, h => by
    rw [T.all_node] at hp
    simp only [Bool.and_eq_true] at hp
    rw [T.get_node] at h
    by_cases h0 : n = 0
    · rw [if_pos h0] at h; subst h h0; exact hp.1.1
    · rw [if_neg h0] at h
      by_cases h1 : n % 2 = 1
      · rw [if_pos h1] at h
        have := T.all_get l _ hp.1.2 _ _ h
        rwa [show 2 * (n / 2) + 1 = n by omega] at this
      · rw [if_neg h1] at h
        have := T.all_get r _ hp.2 _ _ h
        rwa [show 2 * (n / 2 - 1) + 2 = n by omega] at this

theorem refs_mem : ∀ {l : List V} {v : V} {r : Nat}, v ∈ l → r ∈ v.refs → r ∈ V.refs.refsL l
  | w :: l, v, r, hv, hr => by
    simp only [V.refs.refsL, List.mem_append]
    rcases List.mem_cons.1 hv with rfl | hv
    · exact .inl hr
    · exact .inr (refs_mem hv hr)

/-- What a value says depends on where its blocks stand. -/
theorem VRel.renu {v : V} {v' : Value} (h : VRel P σ ν v v') {ν2 : Nu} (hr : ∀ r, r ∈ v.refs → ν2 r = ν r) : VRel P σ ν2 v v' := by
  induction h with
  | val h => exact .val h
  | undef => exact .undef
  | int => exact .int
  | prop => exact .prop
  | str => exact .str
  | agg h1 _ ih => exact .agg h1 fun j v v' a b => ih j v v' a b fun r hm => hr r (by simp only [V.refs]; exact refs_mem (List.mem_of_getElem? a) hm)
  | tup h1 _ ih => exact .tup h1 fun j v v' a b => ih j v v' a b fun r hm => hr r (by simp only [V.refs]; exact refs_mem (List.mem_of_getElem? a) hm)
  | ptr h => exact .ptr (by rw [hr _ (by simp [V.refs])]; exact h)
  | ept h => exact .ept (by rw [hr _ (by simp [V.refs])]; exact h)
  | slcU h => exact .slcU (by rw [hr _ (by simp [V.refs])]; exact h)
  | slc h hc hn ho => exact .slc (by rw [hr _ (by simp [V.refs])]; exact h) hc hn ho
  | dat a b => exact .dat a b
  | dpt a b c d e => exact .dpt a b c d e
  | fn h1 _ h3 _ ih2 ih4 =>
    exact .fn h1 (fun j v v' a b => ih2 j v v' a b fun r hm => hr r (by simp only [V.refs, List.mem_append]; exact .inl (refs_mem (List.mem_of_getElem? a) hm)))
      h3 (fun j v v' a b => ih4 j v v' a b fun r hm => hr r (by simp only [V.refs, List.mem_append]; exact .inr (refs_mem (List.mem_of_getElem? a) hm)))
theorem BRel.renu {z : Nat} {k : SB} {bk : Option ABk} (h : BRel P σ ν z k bk) {ν2 : Nu} (hr : ∀ r, r ∈ k.refs → ν2 r = ν r) : BRel P σ ν2 z k bk := by
  cases k with
  | box e cs =>
    obtain ⟨cs', m, h1, h2⟩ := h
    exact ⟨cs', m, h1, h2.1, fun j v v' a b => (h2.2 j v v' a b).renu fun r hm => hr r (by simp only [SB.refs]; exact refs_mem (List.mem_of_getElem? a) hm)⟩
  | arr e l => exact h

theorem clearAll_get {α : Type} : ∀ (l : List Nat) (t : T α) (n : Nat), (clearAll l t).get n = if n ∈ l then none else t.get n
  | [], t, n => by simp [clearAll]
  | a :: l, t, n => by
    show (clearAll l (t.put a none)).get n = _
    rw [clearAll_get l, T.get_put]
    by_cases h1 : n ∈ l
    · simp [h1]
    · by_cases h2 : n = a <;> simp [h1, h2]
theorem setAll_get {α : Type} : ∀ (l : List (Nat × α)) (t : T α) (n : Nat), (∃ v, (n, v) ∈ l ∧ (setAll l t).get n = some v) ∨ ((∀ v, (n, v) ∉ l) ∧ (setAll l t).get n = t.get n)
  | [], t, n => .inr ⟨by simp, rfl⟩
  | (a, u) :: l, t, n => by
    rcases setAll_get l (t.put a (some u)) n with ⟨v, h1, h2⟩ | ⟨h1, h2⟩
    · exact .inl ⟨v, List.mem_cons_of_mem _ h1, h2⟩
    · by_cases e : n = a
      · subst e
        refine .inl ⟨u, List.mem_cons_self, ?_⟩
        show (setAll l (t.put n (some u))).get n = _
        rw [h2, T.get_put, if_pos rfl]
      · refine .inr ⟨fun v hv => ?_, ?_⟩
        · rcases List.mem_cons.1 hv with h | h
          · cases h; exact e rfl
          · exact h1 v h
        · show (setAll l (t.put a (some u))).get n = _
          rw [h2, T.get_put, if_neg e]
theorem maxId_ge : ∀ (l : List (Nat × SB)) (n : Nat), n ≤ maxId l n ∧ ∀ x ∈ l, x.1 < maxId l n
  | [], n => ⟨Nat.le_refl _, by simp⟩
  | x :: l, n => by
    simp only [maxId]
    cases h : Nat.ble n x.1 with
    | true =>
      have := Nat.le_of_ble_eq_true h
      obtain ⟨q1, q2⟩ := maxId_ge l (Nat.succ x.1)
      simp only [cond_true]
      refine ⟨by omega, fun y hy => ?_⟩
      rcases List.mem_cons.1 hy with rfl | hy
      · omega
      · exact q2 y hy
    | false =>
      have : ¬ n ≤ x.1 := fun hle => by rw [Nat.ble_eq_true_of_le hle] at h; cases h
      obtain ⟨q1, q2⟩ := maxId_ge l n
      simp only [cond_false]
      refine ⟨q1, fun y hy => ?_⟩
      rcases List.mem_cons.1 hy with rfl | hy
      · omega
      · exact q2 y hy

theorem vMatch1_ok {v v0 : V} {v' : Value} (hm : vMatch1 v v0) (h : VRel P σ ν v v') (hns : ∀ b o n c, v0 ≠ .slc b o n c) {ν2 : Nu} (hr : ∀ r, r ∈ v0.refs → ν2 r = ν r) : VRel P σ ν2 v0 v' := by
  unfold vMatch1 at hm
  split at hm
  · split at hm
    · rename_i k0 n0 _ k n hi
      cases hk : (k == k0) with
      | false => rw [hk] at hm; exact hm.elim
      | true =>
        rw [hk] at hm
        have := eq_of_beq hk
        subst this
        rw [intOf_ok hi h, show n = n0 from hm]
        exact .int
    · exact hm.elim
  · split at hm
    · rename_i p0 _ p hp
      rw [propOf_ok hp h, dec_eq (p := p) (b := dec p0)]
      · exact .prop
      · have : p ↔ p0 := hm
        by_cases h0 : p0
        · simp [dec_true h0, this.2 h0]
        · exact ⟨fun h => (by rw [dec_false h0] at h; cases h), fun hp => absurd (this.1 hp) h0⟩
    · exact hm.elim
  · split at hm
    · rename_i s hs
      rw [strOf_ok hs h, show s = _ from hm]
      exact .str
    · exact hm.elim
  · split at hm
    · rename_i t0 d0 _ t d
      cases ht : Nat.beq t t0 with
      | false => rw [ht] at hm; exact hm.elim
      | true =>
        rw [ht] at hm
        rw [← Nat.eq_of_beq_eq_true ht, ← show d = d0 from hm]
        exact h.renu fun r hm => by simp [V.refs] at hm
    · exact hm.elim
  · split at hm
    · rename_i t0 d0 _ t d
      cases ht : Nat.beq t t0 with
      | false => rw [ht] at hm; exact hm.elim
      | true =>
        rw [ht] at hm
        rw [← Nat.eq_of_beq_eq_true ht, ← show d = d0 from hm]
        exact h.renu fun r hm => by simp [V.refs] at hm
    · exact hm.elim
  · split at hm
    · exact h.renu fun r hm => by simp [V.refs] at hm
    · exact hm.elim
  · split at hm
    · exact h.renu fun r hm => by simp [V.refs] at hm
    · exact hm.elim
  · split at hm
    · rename_i b0 o0 _ b o
      cases hb : (Nat.beq b b0 && Nat.beq o o0) with
      | false => rw [hb] at hm; exact hm.elim
      | true =>
        simp only [Bool.and_eq_true] at hb
        rw [← Nat.eq_of_beq_eq_true hb.1, ← Nat.eq_of_beq_eq_true hb.2] at hr ⊢
        exact h.renu hr
    · exact hm.elim
  · rename_i b o n c
    exact absurd rfl (hns b o n c)
  · exact hm.elim

theorem sameNL_ok {c c0 : Option NL} (h : sameNL c c0) : (c = none ∧ c0 = none) ∨ ∃ a b, c = some a ∧ c0 = some b ∧ a.v = b.v := by
  cases c <;> cases c0 <;> simp [sameNL] at h
  · exact .inl ⟨rfl, rfl⟩
  · exact .inr ⟨_, _, rfl, rfl, h⟩

theorem slcMatch_ok {b b0 : Nat} {o n o0 n0 : NL} {c c0 : Option NL} {v' : Value} (hm : vMatch1 (.slc b o n c) (.slc b0 o0 n0 c0)) (h : VRel P σ ν (.slc b o n c) v') {ν2 : Nu} (hν : ν2 b0 = ν b) : VRel P σ ν2 (.slc b0 o0 n0 c0) v' := by
  obtain ⟨h1, h2, h3⟩ := (show o.v = o0.v ∧ n.v = n0.v ∧ sameNL c c0 from hm)
  rcases sameNL_ok h3 with ⟨rfl, rfl⟩ | ⟨a, b, rfl, rfl, hab⟩
  · cases h with
    | slcU hq =>
      have := VRel.slcU (P := P) (σ := σ) (ν := ν2) (o := o0) (n := n0) (b := b0) (hν.trans hq)
      rw [← h1, ← h2] at this; exact this
  · cases h with
    | slc hq hc hn ho =>
      have := VRel.slc (P := P) (σ := σ) (ν := ν2) (o := o0) (n := n0) (b := b0) (c := b) (hν.trans hq) (by rw [← hab]; exact hc) (by rw [← h2, ← hab]; exact hn) (by rw [← h1, ← hab]; exact ho)
      rw [← h2, ← hab] at this; exact this

/-- What a listed block's values ask of the way that blocks turn. -/
def RefR (ν ν2 : Nu) (ren : Nat → Nat) (v : V) : Prop := match v with | .slc b _ _ _ => ν2 b = ν (ren b) | v => ∀ r, r ∈ v.refs → ν2 r = ν r
theorem vMatchR_ok {ren : Nat → Nat} {v v0 : V} {v' : Value} (hm : vMatchR ren v v0) (h : VRel P σ ν v v') {ν2 : Nu} (hr : RefR ν ν2 ren v0) : VRel P σ ν2 v0 v' := by
  unfold vMatchR at hm
  split at hm
  · rename_i b0 o0 n0 c0
    split at hm
    · rename_i b o n c
      cases hb : Nat.beq (ren b0) b with
      | false => rw [hb] at hm; exact hm.elim
      | true =>
        rw [hb] at hm
        exact slcMatch_ok hm h (by rw [← Nat.eq_of_beq_eq_true hb]; exact hr)
    · exact hm.elim
  · rename_i hns
    refine vMatch1_ok hm h (fun b o n c e => hns b o n c e) ?_
    unfold RefR at hr
    split at hr
    · rename_i b o n c; exact absurd rfl (hns b o n c)
    · exact hr
theorem bMatch_ok {z : Nat} {k k0 : SB} {bk : Option ABk} {ren : Nat → Nat} (hm : bMatch ren k k0) (h : BRel P σ ν z k bk) {ν2 : Nu} (hr : ∀ e cs, k0 = .box e cs → ∀ v, v ∈ cs → RefR ν ν2 ren v) : BRel P σ ν2 z k0 bk := by
  unfold bMatch at hm
  split at hm
  · rename_i e l e0 l0
    cases he : Nat.beq e e0 with
    | false => rw [he] at hm; exact hm.elim
    | true => rw [he] at hm; rw [← Nat.eq_of_beq_eq_true he, ← show l = l0 from hm]; exact h
  · rename_i e cs e0 cs0
    cases he : Nat.beq e e0 with
    | false => rw [he] at hm; exact hm.elim
    | true =>
    rw [he] at hm
    replace hm : bMatch.vs ren cs cs0 := hm
    rw [← Nat.eq_of_beq_eq_true he] at hr ⊢
    obtain ⟨cs', m, h1, h2⟩ := h
    refine ⟨cs', m, h1, ?_⟩
    clear h1
    have hr' : ∀ v, v ∈ cs0 → RefR ν ν2 ren v := hr e cs0 rfl
    clear hr
    induction cs generalizing cs0 cs' with
    | nil =>
      cases cs0 with
      | nil => rw [h2.nil_inv]; exact .nil
      | cons a b => exact hm.elim
    | cons v cs ih =>
      cases cs0 with
      | nil => exact hm.elim
      | cons v0 cs0 =>
        obtain ⟨v', r, rfl, a, b⟩ := h2.cons_inv
        rw [bMatch_cons] at hm
        obtain ⟨m1, m2⟩ := hm
        exact .cons (vMatchR_ok m1 a (hr' v0 List.mem_cons_self)) (ih cs0 m2 r b fun v hv => hr' v (List.mem_cons_of_mem _ hv))
  · exact hm.elim
end
end Go.Ev

end

section

namespace Go.Ev
section
variable {P : Program} {base : Nat} {H0 : AHeap × Sig} {ν : Nu} {σ : Sig} {F : AFrame} {H : AHeap}

theorem slots_get {S1 : SS} {ren : Nat → Nat} : ∀ {slots : List (Tmp × V)}, slotsMatch S1 ren slots → ∀ t v0, (t, v0) ∈ slots → ∃ v, S1.fr.get t = some v ∧ ((∃ b o n c b0 o0 n0 c0, v = .slc b o n c ∧ v0 = .slc b0 o0 n0 c0 ∧ ren b0 = b ∧ vMatch1 v v0) ∨ ((∀ b o n c, v0 ≠ .slc b o n c) ∧ vMatch1 v v0))
  | [], _, t, v0, h => by simp at h
  | (t1, u0) :: l, hm, t, v0, h => by
    simp only [slotsMatch] at hm
    rcases List.mem_cons.1 h with e | h
    · cases e
      obtain ⟨hm, _⟩ := hm
      split at hm
      · rename_i v hv
        refine ⟨v, hv, ?_⟩
        split at hm
        · rename_i b o n c b0 o0 n0 c0
          cases hb : Nat.beq (ren b0) b with
          | false => rw [hb] at hm; exact hm.elim
          | true => rw [hb] at hm; exact .inl ⟨b, o, n, c, b0, o0, n0, c0, rfl, rfl, Nat.eq_of_beq_eq_true hb, hm⟩
        · rename_i hns
          refine .inr ⟨fun b o n c e => ?_, hm⟩
          subst e
          -- a slice against something else
          cases v with
          | slc b1 o1 n1 c1 => exact hns _ _ _ _ _ _ _ _ rfl rfl
          | _ => exact hm.elim
      · exact hm.elim
    · exact slots_get hm.2 t v0 h

theorem blks_get {S1 : SS} {ren : Nat → Nat} : ∀ {blks : List (Nat × SB)}, blksMatch S1 ren blks → ∀ b k0, (b, k0) ∈ blks → ∃ k, S1.hp.get (ren b) = some k ∧ bMatch ren k k0
  | [], _, b, k0, h => by simp at h
  | (b1, u0) :: l, hm, b, k0, h => by
    simp only [blksMatch] at hm
    rcases List.mem_cons.1 h with e | h
    · cases e
      obtain ⟨hm, _⟩ := hm
      split at hm
      · rename_i k hk; exact ⟨k, hk, hm⟩
      · exact hm.elim
    · exact blks_get hm.2 b k0 h

theorem renOf_not {ren : List (Nat × Nat)} {b : Nat} (h : ∀ x ∈ ren, x.1 ≠ b) : renOf ren b = b := by
  induction ren with
  | nil => rfl
  | cons x l ih =>
    obtain ⟨x1, x2⟩ := x
    simp only [renOf]
    rw [beqF (h _ List.mem_cons_self)]
    exact ih fun x hx => h x (List.mem_cons_of_mem _ hx)
theorem renOf_mem {ren : List (Nat × Nat)} {b : Nat} : renOf ren b = b ∨ ∃ x ∈ ren, x.1 = b ∧ renOf ren b = x.2 := by
  induction ren with
  | nil => exact .inl rfl
  | cons x l ih =>
    obtain ⟨x1, x2⟩ := x
    simp only [renOf]
    cases h : Nat.beq x1 b with
    | true => exact .inr ⟨_, List.mem_cons_self, Nat.eq_of_beq_eq_true h, rfl⟩
    | false =>
      rcases ih with h1 | ⟨x, hx, h1, h2⟩
      · exact .inl h1
      · exact .inr ⟨x, List.mem_cons_of_mem _ hx, h1, h2⟩

theorem rens_mem {S1 : SS} : ∀ {slots : List (Tmp × V)} {t : Tmp} {b o n c b0 o0 n0 c0}, (t, V.slc b0 o0 n0 c0) ∈ slots → S1.fr.get t = some (.slc b o n c) → (b0, b) ∈ rens S1 slots
  | [], t, _, _, _, _, _, _, _, _, h, _ => by simp at h
  | (t1, u) :: l, t, b, o, n, c, b0, o0, n0, c0, h, hv => by
    simp only [rens, List.mem_append]
    rcases List.mem_cons.1 h with e | h
    · cases e; left; rw [hv]; simp [renV]
    · exact .inr (rens_mem h hv)

/-- A state that fits the loop's head stands for it. -/
theorem match_ok {S0 S1 : SS} {b : Code} {slots : List (Tmp × V)} {blks : List (Nat × SB)} (hr : SR P base H0 ν σ S1 F H) (hsz : S1.sz = S0.sz) (hro : S1.ro = S0.ro) (hnx : S0.nx ≤ S1.nx) (hfl : S0.fl ≤ S0.nx)
    (hsame : Same (writesOf b) S0 S1) (hhp : ∀ c, c < S0.nx → c ∉ S1.wr → S1.hp.get c = S0.hp.get c) (hdom0 : ∀ c k, S0.hp.get c = some k → c < S0.nx) (hrn : S0.ro ≤ S0.nx) (hm : matchS S0 S1 b slots blks) :
    ∃ ν2, SR P base H0 ν2 σ (headS S0 b slots blks) F H ∧ XNn S0.fl ν ν2 := by
  unfold matchS at hm
  generalize hren : rensA S1 slots blks = ren at hm
  cases hc : (allListed S0.nx blks S1.wr && blks.all (fun y => Nat.ble S0.ro y.1) && slots.all (fun x => (writesOf b).any fun t => Nat.beq t x.1) && renOK S0 ren blks slots (clearAll (writesOf b) S0.fr)) with
  | false => rw [hc] at hm; exact hm.elim
  | true =>
    rw [hc] at hm
    obtain ⟨hs, hb⟩ := hm
    simp only [Bool.and_eq_true] at hc
    obtain ⟨⟨⟨c1, c2⟩, c3⟩, c4⟩ := hc
    unfold renOK at c4
    simp only [Bool.and_eq_true] at c4
    obtain ⟨d1, d2, d3, d4, d5, d6, d7⟩ := c4
    -- what is listed
    have listed : ∀ c, c < S0.nx → c ∈ S1.wr → ∃ k, (c, k) ∈ blks := fun c hc hw => by
      have := List.all_eq_true.1 c1 c hw
      simp only [Bool.or_eq_true] at this
      rcases this with h | h
      · have := Nat.le_of_ble_eq_true h; omega
      · obtain ⟨y, hy, he⟩ := List.any_eq_true.1 h
        rw [← Nat.eq_of_beq_eq_true he]
        exact ⟨y.2, hy⟩
    have renfl : ∀ c, renOf ren c ≠ c → S0.fl ≤ c ∧ S0.nx ≤ renOf ren c ∧ (∃ k, (c, k) ∈ blks) ∧ ∀ y ∈ blks, y.1 ≠ c → renOf ren y.1 ≠ renOf ren c := fun c hne => by
      rcases renOf_mem (ren := ren) (b := c) with h | ⟨x, hx, h1, h2⟩
      · exact absurd h hne
      · have e1 := List.all_eq_true.1 d2 x hx
        obtain ⟨y, hy, he⟩ := List.any_eq_true.1 (List.all_eq_true.1 d1 x hx)
        have hyc : y.1 = c := by rw [Nat.eq_of_beq_eq_true he, h1]
        simp only [Bool.or_eq_true, Bool.and_eq_true] at e1
        rcases e1 with e1 | ⟨⟨e1, e2⟩, e3⟩
        · exact absurd (by rw [h2, ← Nat.eq_of_beq_eq_true e1, h1]) hne
        · rw [h2]
          refine ⟨by rw [← h1]; exact Nat.le_of_ble_eq_true e1, Nat.le_of_ble_eq_true e2, ⟨y.2, by rw [← hyc]; exact hy⟩, fun y hy hyne he => ?_⟩
          have := List.all_eq_true.1 e3 y hy
          simp only [Bool.or_eq_true, Bool.not_eq_true'] at this
          rcases this with h | h
          · exact hyne (by rw [Nat.eq_of_beq_eq_true h, h1])
          · rw [he, Nat.beq_refl] at h; cases h
    let ok : Nat → Prop := fun c => c < S0.nx ∨ ∃ k, (c, k) ∈ blks
    have renInj : ∀ c c', ok c → ok c' → renOf ren c = renOf ren c' → c = c' := fun c c' hc hc' he => by
      by_cases h1 : renOf ren c = c <;> by_cases h2 : renOf ren c' = c'
      · rw [← h1, he, h2]
      · obtain ⟨q1, q2, ⟨k, q3⟩, q4⟩ := renfl c' h2
        rcases hc with hc | ⟨k', hc⟩
        · omega
        · by_cases e : c = c'
          · exact e
          · exact absurd he (q4 _ hc e)
      · obtain ⟨q1, q2, ⟨k, q3⟩, q4⟩ := renfl c h1
        rcases hc' with hc' | ⟨k', hc'⟩
        · omega
        · by_cases e : c' = c
          · exact e.symm
          · exact absurd he.symm (q4 _ hc' e)
      · obtain ⟨q1, q2, ⟨k, q3⟩, q4⟩ := renfl c h1
        obtain ⟨_, _, ⟨k', q3'⟩, _⟩ := renfl c' h2
        by_cases e : c' = c
        · exact e.symm
        · exact absurd he.symm (q4 _ q3' e)
    open Classical in
    let ν2 : Nu := fun c => if ok c then ν (renOf ren c) else none
    have ν2ok : ∀ c, ok c → ν2 c = ν (renOf ren c) := fun c hc => if_pos hc
    have ν2no : ∀ c, ¬ ok c → ν2 c = none := fun c hc => if_neg hc
    have ν2some : ∀ c x, ν2 c = some x → ok c ∧ ν (renOf ren c) = some x := fun c x h => by
      by_cases hc : ok c
      · exact ⟨hc, by rw [← ν2ok c hc]; exact h⟩
      · rw [ν2no c hc] at h; cases h
    have refok : ∀ {rs : List Nat}, (rs.all fun r => Nat.blt r S0.nx && Nat.beq (renOf ren r) r) = true → ∀ r, r ∈ rs → ν2 r = ν r := fun h r hrm => by
      have := List.all_eq_true.1 h r hrm
      simp only [Bool.and_eq_true] at this
      rw [ν2ok r (.inl (blt_lt this.1)), Nat.eq_of_beq_eq_true this.2]
    have refokB : ∀ {c : Nat} {v : SB}, (c, v) ∈ blks → ∀ e cs, v = .box e cs → ∀ w, w ∈ cs → RefR ν ν2 (renOf ren) w := fun {c v} hm e cs he w hw => by
      subst he
      have h1 : cs.all (refOK S0 ren blks) = true := List.all_eq_true.1 d7 _ hm
      have h2 := List.all_eq_true.1 h1 w hw
      unfold refOK at h2
      unfold RefR
      split at h2
      · obtain ⟨y, hy, he⟩ := List.any_eq_true.1 h2
        exact ν2ok _ (.inr ⟨y.2, by rw [← Nat.eq_of_beq_eq_true he]; exact hy⟩)
      · rename_i hns
        split
        · rename_i b o n c; exact absurd rfl (hns b o n c)
        · exact refok h2
    have hidk : ∀ c k0, (c, k0) ∈ blks → (headS S0 b slots blks).nx > c := fun c k0 hc => (maxId_ge blks S0.nx).2 _ hc
    have hnx2 : S0.nx ≤ (headS S0 b slots blks).nx := (maxId_ge blks S0.nx).1
    -- the blocks of the head
    have hblk : ∀ c k0, (headS S0 b slots blks).hp.get c = some k0 → ok c ∧ ∃ k, S1.hp.get (renOf ren c) = some k ∧ ∀ i z, ν (renOf ren c) = some (i, z) → BRel P σ ν z k (H.get i) → BRel P σ ν2 z k0 (H.get i) := fun c k0 hc => by
      rcases setAll_get blks S0.hp c with ⟨v, h1, h2⟩ | ⟨h1, h2⟩
      · have : v = k0 := by have := h2.symm.trans hc; exact Option.some.inj this
        subst this
        obtain ⟨k, hk, hmk⟩ := blks_get hb c v h1
        exact ⟨.inr ⟨v, h1⟩, k, hk, fun i z _ hB => bMatch_ok hmk hB (refokB h1)⟩
      · have hc0 : S0.hp.get c = some k0 := h2.symm.trans hc
        have hlt := hdom0 c k0 hc0
        have hnl : ∀ k, (c, k) ∉ blks := h1
        have hnw : c ∉ S1.wr := fun hw => by obtain ⟨k, hk⟩ := listed c hlt hw; exact hnl k hk
        have hrc : renOf ren c = c := by
          by_cases h : renOf ren c = c
          · exact h
          · obtain ⟨_, _, ⟨k, q⟩, _⟩ := renfl c h; exact absurd q (hnl k)
        have hrefs := T.all_get _ _ d5 c k0 hc0
        simp only [Bool.or_eq_true] at hrefs
        refine ⟨.inl hlt, k0, by rw [hrc, hhp c hlt hnw]; exact hc0, fun i z _ hB => hB.renu ?_⟩
        rcases hrefs with h | h
        · obtain ⟨y, hy, he⟩ := List.any_eq_true.1 h
          exact absurd (by rw [← Nat.eq_of_beq_eq_true he]; exact hy) (hnl y.2)
        · exact refok h
    refine ⟨ν2, ⟨?_, hsz.symm.trans hr.fsz, hr.top, hr.nomk, ?_, ?_, ?_, ?_, ?_, hr.sig, ?_, ?_, hr.wl, hr.old, hr.nxt, ?_, hr.sb⟩, ?_⟩
    · intro t v hv
      rcases setAll_get slots (clearAll (writesOf b) S0.fr) t with ⟨v0, h1, h2⟩ | ⟨h1, h2⟩
      · have : v0 = v := by have := h2.symm.trans hv; exact Option.some.inj this
        subst this
        obtain ⟨u, hu, hcase⟩ := slots_get hs t v0 h1
        have huv := hr.fr t u hu
        rcases hcase with ⟨b1, o, n, c, b0, o0, n0, c0, rfl, rfl, hrb, hmv⟩ | ⟨hns, hmv⟩
        · refine slcMatch_ok hmv huv ?_
          -- the block is listed
          have : (b0, b1) ∈ ren := by
            rw [← hren]; exact List.mem_append_left _ (rens_mem h1 hu)
          obtain ⟨y, hy, he⟩ := List.any_eq_true.1 (List.all_eq_true.1 d1 _ this)
          have hy1 : y.1 = b0 := Nat.eq_of_beq_eq_true he
          rw [ν2ok b0 (.inr ⟨y.2, by rw [← hy1]; exact hy⟩), hrb]
        · refine vMatch1_ok hmv huv hns (refok ?_)
          have := List.all_eq_true.1 d6 _ h1
          split at this
          · rename_i b0 o0 n0 c0 heq; exact absurd heq (hns _ _ _ _)
          · exact this
      · have hcl : (clearAll (writesOf b) S0.fr).get t = some v := h2.symm.trans hv
        have hcl2 := hcl
        rw [clearAll_get] at hcl
        split at hcl
        · cases hcl
        · rename_i hnw
          have h1t : S1.fr.get t = some v := by rw [hsame t hnw]; exact hcl
          exact (hr.fr t v h1t).renu (refok (T.all_get _ _ d4 t v hcl2))
    · intro c k0 hc
      obtain ⟨hok, k, hk, hB⟩ := hblk c k0 hc
      obtain ⟨i, z, h1, h2⟩ := hr.blk _ _ hk
      exact ⟨i, z, by rw [ν2ok c hok]; exact h1, hB i z h1 h2⟩
    · intro c i z h; exact hr.lt _ i z (ν2some c _ h).2
    · intro c hc
      refine ν2no c fun hok => ?_
      rcases hok with h | ⟨k, h⟩
      · omega
      · have := hidk c k h; omega
    · intro c c' i z z' h h'
      obtain ⟨o1, h1⟩ := ν2some c _ h
      obtain ⟨o2, h2⟩ := ν2some c' _ h'
      exact renInj c c' o1 o2 (hr.inj _ _ _ _ _ h1 h2)
    · intro c i z hc h
      obtain ⟨o1, h1⟩ := ν2some c _ h
      have hc' : S0.ro ≤ c := hc
      refine hr.own _ i z ?_ h1
      rw [hro]
      by_cases e : renOf ren c = c
      · rw [e]; exact hc'
      · have := (renfl c e).2.1; omega
    · intro c k0 i z hc h
      obtain ⟨hok, k, hk, _⟩ := hblk c k0 hc
      exact hr.apart _ k i z hk (ν2some c _ h).2
    · intro c k0 i z m hc h hmt
      obtain ⟨hok, k, hk, _⟩ := hblk c k0 hc
      obtain ⟨q1, q2, q3, q4⟩ := hr.mates _ k i z m hk (ν2some c _ h).2 hmt
      refine ⟨fun hroc => q1 ?_, q2, q3, fun b' k' z' hb' hν' => ?_⟩
      · rw [hro]
        by_cases e : renOf ren c = c
        · rw [e]; exact hroc
        · have := (renfl c e).2.1; omega
      · obtain ⟨hok', k'', hk'', _⟩ := hblk b' k' hb'
        exact q4 _ k'' z' hk'' (ν2some b' _ hν').2
    · show S0.ro ≤ (headS S0 b slots blks).nx
      omega
    · intro c hc
      have hcn : c < S0.nx := by omega
      rw [ν2ok c (.inl hcn)]
      by_cases e : renOf ren c = c
      · rw [e]
      · have := (renfl c e).1; omega

/-! ### Code -/
/-- Symbolic runs of code in one activation, and the evaluator's. -/
def RunI (P : Program) (srun : Code → SS → SQ → Prop) (run : Run) : Prop := ∀ c S Q, srun c S Q → S.fl ≤ S.nx → ∀ base H0 ν σ F H, SR P base H0 ν σ S F H →
  ∃ e F' H', run none c F H = some (e, F', H') ∧ ∃ S' ν' σ', Q e S' ∧ SR P base H0 ν' σ' S' F' H' ∧ XNn S.fl ν ν' ∧ XS σ σ' ∧ Keeps S S' ∧ Same (writesOf c) S S'

theorem orN_ok {p : Nat → Prop} : ∀ {n : Nat}, orN n p → ∃ i, i < n ∧ p i
  | 0, h => h.elim
  | 1, h => ⟨0, Nat.zero_lt_one, h⟩
  | n + 2, h => by
    rcases h with h | h
    · obtain ⟨i, h1, h2⟩ := orN_ok h; exact ⟨i, by omega, h2⟩
    · exact ⟨n + 1, by omega, h⟩
theorem andN_ok {p : Nat → Prop} : ∀ {n : Nat}, andN n p → ∀ i, i < n → p i
  | 0, _, i, h => by omega
  | 1, h, i, hi => by have : i = 0 := by omega
                      subst this; exact h
  | n + 2, h, i, hi => by
    rcases Nat.lt_or_ge i (n + 1) with h1 | h1
    · exact andN_ok h.1 i h1
    · have : i = n + 1 := by omega
      subst this; exact h.2

theorem SR.wr {S : SS} (hr : SR P base H0 ν σ S F H) (w : List Nat) : SR P base H0 ν σ { S with wr := w } F H :=
  ⟨hr.fr, hr.fsz, hr.top, hr.nomk, hr.blk, hr.lt, hr.dom, hr.inj, hr.own, hr.sig, hr.apart, hr.mates, hr.wl, hr.old, hr.nxt, hr.role, hr.sb⟩
theorem SR.hpdom {S : SS} (hr : SR P base H0 ν σ S F H) : ∀ c k, S.hp.get c = some k → c < S.nx := fun c k h => by
  obtain ⟨i, z, h1, _⟩ := hr.blk c k h
  rcases Nat.lt_or_ge c S.nx with hl | hl
  · exact hl
  · rw [hr.dom c hl] at h1; cases h1

theorem match_conds {S0 S1 : SS} {b : Code} {slots : List (Tmp × V)} {blks : List (Nat × SB)} (hm : matchS S0 S1 b slots blks) : (∀ y, y ∈ blks → S0.ro ≤ y.1) ∧ ∀ x, x ∈ slots → x.1 ∈ writesOf b := by
  unfold matchS at hm
  cases hc : (allListed S0.nx blks S1.wr && blks.all (fun y => Nat.ble S0.ro y.1) && slots.all (fun x => (writesOf b).any fun t => Nat.beq t x.1) && renOK S0 (rensA S1 slots blks) blks slots (clearAll (writesOf b) S0.fr)) with
  | false => rw [hc] at hm; exact hm.elim
  | true =>
    simp only [Bool.and_eq_true] at hc
    refine ⟨fun y hy => Nat.le_of_ble_eq_true (List.all_eq_true.1 hc.1.1.2 y hy), fun x hx => ?_⟩
    obtain ⟨t, h1, h2⟩ := List.any_eq_true.1 (List.all_eq_true.1 hc.1.2 x hx)
    rw [← Nat.eq_of_beq_eq_true h2]; exact h1

theorem head_fr {S : SS} {b : Code} {slots : List (Tmp × V)} {blks : List (Nat × SB)} (hsl : ∀ x, x ∈ slots → x.1 ∈ writesOf b) : Same (writesOf b) S (headS S b slots blks) := fun t ht => by
  rcases setAll_get slots (clearAll (writesOf b) S.fr) t with ⟨v, h1, _⟩ | ⟨_, h2⟩
  · exact absurd (hsl _ h1) ht
  · show (setAll slots (clearAll (writesOf b) S.fr)).get t = _
    rw [h2, clearAll_get, if_neg ht]
theorem head_hp {S : SS} {b : Code} {slots : List (Tmp × V)} {blks : List (Nat × SB)} {c : Nat} (hc : c ∉ blks.map (·.1)) : (headS S b slots blks).hp.get c = S.hp.get c := by
  rcases setAll_get blks S.hp c with ⟨v, h1, _⟩ | ⟨_, h2⟩
  · exact absurd (List.mem_map.2 ⟨_, h1, rfl⟩) hc
  · exact h2

/-- A loop with its head's forms. -/
theorem symLoop_ok {A : Ann} {ih : Code → SS → SQ → Prop} {run : Nat → Run} {P' : Program} {G : Msk} {out : Run} {N : Nat} (hstep : ∀ k, run (k + 1) = evStep P' G out (run k)) (hih : ∀ k, N ≤ k → RunI P ih (run k)) {b : Code} {S : SS} {Q : SQ} (hfl : S.fl ≤ S.nx) (hro : S.ro ≤ S.nx) (hpd : ∀ c k, S.hp.get c = some k → c < S.nx)
    (hbody : andN A.hs fun i => ∀ x, A.inv S i x → A.meas S i x < LIM ∧ ih b (headS S b (A.slots S i x) (A.blks S i x)) fun e S1 =>
      match e with
      | .normal => orN A.hs fun i' => ∃ y, A.inv S i' y ∧ A.meas S i' y < A.meas S i x ∧ matchS S { S1 with wr := S1.wr ++ (A.blks S i x).map (·.1) } b (A.slots S i' y) (A.blks S i' y)
      | e => Q e { S1 with wr := S1.wr ++ ((A.blks S i x).map (·.1) ++ S.wr) }) :
    ∀ (n i : Nat) (x : A.τ), i < A.hs → A.inv S i x → A.meas S i x ≤ n → (∀ y, y ∈ A.blks S i x → S.ro ≤ y.1) → (∀ y, y ∈ A.slots S i x → y.1 ∈ writesOf b) → ∀ k, N + n + 1 ≤ k → ∀ base H0 ν σ F H, SR P base H0 ν σ (headS S b (A.slots S i x) (A.blks S i x)) F H →
      ∃ e F' H', run k none (.loop b) F H = some (e, F', H') ∧ ∃ S' ν' σ', Q e S' ∧ SR P base H0 ν' σ' S' F' H' ∧ XNn S.fl ν ν' ∧ XS σ σ' ∧ Keeps S S' ∧ Same (writesOf b) S S' := by
  intro n
  induction n using Nat.strongRecOn with
  | ind n ihn =>
    intro i x hi hinv hm hbro hsl k hk base H0 ν σ F H hr
    obtain ⟨k0, rfl⟩ : ∃ k0, k = k0 + 1 := ⟨k - 1, by omega⟩
    obtain ⟨hlim, hb⟩ := andN_ok hbody i hi x hinv
    have hnx : S.nx ≤ (headS S b (A.slots S i x) (A.blks S i x)).nx := (maxId_ge _ _).1
    obtain ⟨e1, F1, H1, hrun, S1, ν1, σ1, hq, hr1, hxn1, hxs1, hk1, hs1⟩ := hih k0 (by omega) _ _ _ hb (Nat.le_trans hfl hnx) _ _ _ _ _ _ hr
    have hsame : Same (writesOf b) S S1 := (head_fr hsl).trans hs1
    have hhp : ∀ c, c < S.nx → c ∉ S1.wr → c ∉ (A.blks S i x).map (·.1) → S1.hp.get c = S.hp.get c := fun c hc h1 h2 => (hk1.hp c (Nat.lt_of_lt_of_le hc hnx) h1).trans (head_hp h2)
    have hstp : run (k0 + 1) none (.loop b) F H = (match (generalizing := false) e1 with | .normal => run k0 none (.loop b) F1 H1 | e => some (e, F1, H1)) := by
      rw [hstep]
      show evSeq (run k0) none b (.loop b) F H = _
      unfold evSeq
      rw [hrun]
      cases e1 <;> rfl
    rw [hstp]
    have fin : (∀ (h : e1 ≠ .normal), Q e1 { S1 with wr := S1.wr ++ ((A.blks S i x).map (·.1) ++ S.wr) } → ∃ e F' H', some (e1, F1, H1) = some (e, F', H') ∧ ∃ S' ν' σ', Q e S' ∧ SR P base H0 ν' σ' S' F' H' ∧ XNn S.fl ν ν' ∧ XS σ σ' ∧ Keeps S S' ∧ Same (writesOf b) S S') := by
      intro _ hq
      refine ⟨e1, F1, H1, rfl, _, ν1, σ1, hq, hr1.wr _, hxn1, hxs1, ⟨Nat.le_trans hnx hk1.nx, hk1.sz, hk1.ro, hk1.fl, fun c hc => by simp [hc], fun c hc hn => ?_, fun c hc hcn => ?_⟩, hsame⟩
      · simp only [List.mem_append, not_or] at hn
        exact hhp c hc hn.1 hn.2.1
      · have h1 := hk1.rb c hc (Nat.lt_of_lt_of_le hcn hnx)
        refine h1.trans (head_hp fun hmem => ?_)
        obtain ⟨y, hy, rfl⟩ := List.mem_map.1 hmem
        have := hbro y hy; omega
    cases e1 with
    | normal =>
      simp only at hq ⊢
      obtain ⟨i', hi', y, hinv', hmeas, hmt⟩ := orN_ok hq
      obtain ⟨cb, cs⟩ := match_conds hmt
      obtain ⟨ν2, hr2, hxn2⟩ := match_ok (S0 := S) (hr1.wr (S1.wr ++ (A.blks S i x).map (·.1))) (hk1.sz) (hk1.ro) (Nat.le_trans hnx hk1.nx) hfl hsame
        (fun c hc hn => by simp only [List.mem_append, not_or] at hn; exact hhp c hc hn.1 hn.2) hpd hro hmt
      obtain ⟨e, F', H', h1, S', ν', σ', h2, h3, h4, h5, h6, h7⟩ := ihn (A.meas S i' y) (by omega) i' y hi' hinv' (Nat.le_refl _) cb cs k0 (by omega) base H0 ν2 σ1 F1 H1 hr2
      exact ⟨e, F', H', h1, S', ν', σ', h2, h3, (hxn1.trans hxn2 (Nat.le_refl _)).trans h4 (Nat.le_refl _), hxs1.trans h5, h6, h7⟩
    | exit id => exact fin (by simp) hq
    | ret => exact fin (by simp) hq

theorem symCond_ok {C : Ctx} {S : SS} {c : Operand} {yes no : SS → Prop} (hr : SR C.P base H0 ν σ S F H) (h : symCond S c yes no) :
    ∃ S' t, aeval F c = .bool t ∧ SR C.P base H0 ν σ S' F H ∧ Keeps S S' ∧ Same (condT c) S S' ∧ (cond t (yes S') (no S')) := by
  unfold symCond at h
  split at h
  · rename_i t
    split at h
    · rename_i b hv
      have hvr := hr.fr t _ hv
      have hb : F.get t = .bool b := by generalize F.get t = x at hvr; cases hvr; rfl
      exact ⟨S, b, hb, hr, .refl _, .refl _ _, h⟩
    · rename_i p hv
      have hvr := hr.fr t _ hv
      have hb : F.get t = .bool (dec p) := by generalize F.get t = x at hvr; cases hvr; rfl
      have same : ∀ (u : V), Same [t] S { S with fr := S.fr.put t (some u) } := fun u t' ht => by
        show (S.fr.put t (some u)).get t' = _
        rw [T.get_put, if_neg (fun e => ht (by simp [e]))]
      by_cases hp : p
      · have hd1 := dec_true hp
        exact ⟨_, true, by show F.get t = _; rw [hb, hd1], hr.setFr (v := .val (.bool true)) (by rw [hb, hd1]; exact .val rfl), .fr _ _, same _, h.1 hp⟩
      · have hd1 := dec_false hp
        exact ⟨_, false, by show F.get t = _; rw [hb, hd1], hr.setFr (v := .val (.bool false)) (by rw [hb, hd1]; exact .val rfl), .fr _ _, same _, h.2 hp⟩
    · exact h.elim
  · rename_i b; exact ⟨S, b, rfl, hr, .refl _, .refl _ _, h⟩
  · exact h.elim

theorem Keeps.fle {S S' : SS} (h : Keeps S S') (hf : S.fl ≤ S.nx) : S'.fl ≤ S'.nx := by rw [h.fl]; exact Nat.le_trans hf h.nx

theorem symStep_ok {C : Ctx} {G : Msk} {sout : SRun} {out : Run} (E : Env C G sout out) {g : FuncId} {ih : Code → SS → SQ → Prop} {run : Nat → Run} {N : Nat} (hstep : ∀ k, run (k + 1) = evStep C.P G out (run k)) (hih : ∀ k, N ≤ k → RunI C.P ih (run k)) :
    ∀ k, N + LIM + 2 ≤ k → RunI C.P (symStep C sout g ih) (run k) := by
  intro k hk c S Q h hfl base H0 ν σ F H hr
  obtain ⟨k0, rfl⟩ : ∃ k0, k = k0 + 1 := ⟨k - 1, by omega⟩
  have hN : N ≤ k0 := by omega
  unfold symStep at h
  rw [hstep]
  split at h
  · exact ⟨_, F, H, rfl, S, ν, σ, h, hr, .refl _, .refl _, .refl _, .refl _ _⟩
  · exact ⟨_, F, H, rfl, S, ν, σ, h, hr, .refl _, .refl _, .refl _, .refl _ _⟩
  · rename_i a b
    obtain ⟨e1, F1, H1, h1, S1, ν1, σ1, hq, hr1, hx1, hs1, hk1, hf1⟩ := hih k0 hN _ _ _ h hfl _ _ _ _ _ _ hr
    have hfa : Same (writesOf (.seq a b)) S S1 := hf1.mono fun t ht => by simp only [writesOf, List.mem_append]; exact .inl ht
    show ∃ e F' H', evSeq (run k0) none a b F H = some (e, F', H') ∧ _
    unfold evSeq
    rw [h1]
    cases e1 with
    | normal =>
      simp only at hq ⊢
      obtain ⟨e2, F2, H2, h2, S2, ν2, σ2, hq2, hr2, hx2, hs2, hk2, hf2⟩ := hih k0 hN _ _ _ hq (hk1.fle hfl) _ _ _ _ _ _ hr1
      rw [hk1.fl] at hx2
      exact ⟨e2, F2, H2, h2, S2, ν2, σ2, hq2, hr2, hx1.trans hx2 (Nat.le_refl _), hs1.trans hs2, hk1.trans hk2, hfa.trans (hf2.mono fun t ht => by simp only [writesOf, List.mem_append]; exact .inr ht)⟩
    | exit id => exact ⟨_, F1, H1, rfl, S1, ν1, σ1, hq, hr1, hx1, hs1, hk1, hfa⟩
    | ret => exact ⟨_, F1, H1, rfl, S1, ν1, σ1, hq, hr1, hx1, hs1, hk1, hfa⟩
  · rename_i c a b
    obtain ⟨S1, t, hc, hr1, hk1, hf1, h⟩ := symCond_ok hr h
    show ∃ e F' H', evCond (run k0) none (aeval F c) a b F H = some (e, F', H') ∧ _
    rw [hc]
    have hcw : ∀ t, t ∈ condT c → t ∈ writesOf (.cond c a b) := fun t ht => by simp only [writesOf, List.mem_append]; exact .inl ht
    cases t with
    | true =>
      obtain ⟨e2, F2, H2, h2, S2, ν2, σ2, hq2, hr2, hx2, hs2, hk2, hf2⟩ := hih k0 hN _ _ _ h (hk1.fle hfl) _ _ _ _ _ _ hr1
      rw [hk1.fl] at hx2
      exact ⟨e2, F2, H2, h2, S2, ν2, σ2, hq2, hr2, hx2, hs2, hk1.trans hk2, (hf1.mono hcw).trans (hf2.mono fun t ht => by simp only [writesOf, List.mem_append]; exact .inr (.inl ht))⟩
    | false =>
      obtain ⟨e2, F2, H2, h2, S2, ν2, σ2, hq2, hr2, hx2, hs2, hk2, hf2⟩ := hih k0 hN _ _ _ h (hk1.fle hfl) _ _ _ _ _ _ hr1
      rw [hk1.fl] at hx2
      exact ⟨e2, F2, H2, h2, S2, ν2, σ2, hq2, hr2, hx2, hs2, hk1.trans hk2, (hf1.mono hcw).trans (hf2.mono fun t ht => by simp only [writesOf, List.mem_append]; exact .inr (.inr ht))⟩
  · rename_i id b
    obtain ⟨e1, F1, H1, h1, S1, ν1, σ1, hq, hr1, hx1, hs1, hk1, hf1⟩ := hih k0 hN _ _ _ h hfl _ _ _ _ _ _ hr
    show ∃ e F' H', evBlock (run k0) none id b F H = some (e, F', H') ∧ _
    unfold evBlock
    rw [h1]
    cases e1 with
    | normal => exact ⟨_, F1, H1, rfl, S1, ν1, σ1, hq, hr1, hx1, hs1, hk1, hf1⟩
    | ret => exact ⟨_, F1, H1, rfl, S1, ν1, σ1, hq, hr1, hx1, hs1, hk1, hf1⟩
    | exit id' =>
      simp only at hq ⊢
      cases hb : Nat.beq id' id with
      | true => rw [hb] at hq; exact ⟨_, F1, H1, rfl, S1, ν1, σ1, hq, hr1, hx1, hs1, hk1, hf1⟩
      | false => rw [hb] at hq; exact ⟨_, F1, H1, rfl, S1, ν1, σ1, hq, hr1, hx1, hs1, hk1, hf1⟩
  · rename_i b
    split at h
    · rename_i A _
      obtain ⟨hentry, hbody⟩ := h
      obtain ⟨i, hi, x, hinv, hmt⟩ := orN_ok hentry
      obtain ⟨cb, cs⟩ := match_conds hmt
      obtain ⟨ν2, hr2, hxn2⟩ := match_ok (S0 := S) (hr.wr []) rfl rfl (Nat.le_refl _) hfl (.refl _ _) (fun c _ _ => rfl) hr.hpdom hr.role hmt
      obtain ⟨hlim, _⟩ := andN_ok hbody i hi x hinv
      obtain ⟨e, F', H', h1, S', ν', σ', h2, h3, h4, h5, h6, h7⟩ := symLoop_ok hstep hih hfl hr.role hr.hpdom hbody (A.meas S i x) i x hi hinv (Nat.le_refl _) cb cs (k0 + 1) (by omega) base H0 ν2 σ F H hr2
      rw [hstep] at h1
      exact ⟨e, F', H', h1, S', ν', σ', h2, h3, hxn2.trans h4 (Nat.le_refl _), h5, h6, h7⟩
    · obtain ⟨e1, F1, H1, h1, S1, ν1, σ1, hq, hr1, hx1, hs1, hk1, hf1⟩ := hih k0 hN _ _ _ h hfl _ _ _ _ _ _ hr
      show ∃ e F' H', evSeq (run k0) none b (.loop b) F H = some (e, F', H') ∧ _
      unfold evSeq
      rw [h1]
      cases e1 with
      | normal =>
        simp only at hq ⊢
        obtain ⟨e2, F2, H2, h2, S2, ν2, σ2, hq2, hr2, hx2, hs2, hk2, hf2⟩ := hih k0 hN _ _ _ hq (hk1.fle hfl) _ _ _ _ _ _ hr1
        rw [hk1.fl] at hx2
        exact ⟨e2, F2, H2, h2, S2, ν2, σ2, hq2, hr2, hx1.trans hx2 (Nat.le_refl _), hs1.trans hs2, hk1.trans hk2, hf1.trans hf2⟩
      | exit id => exact ⟨_, F1, H1, rfl, S1, ν1, σ1, hq, hr1, hx1, hs1, hk1, hf1⟩
      | ret => exact ⟨_, F1, H1, rfl, S1, ν1, σ1, hq, hr1, hx1, hs1, hk1, hf1⟩
  · exact ⟨_, F, H, rfl, S, ν, σ, h, hr, .refl _, .refl _, .refl _, .refl _ _⟩
  · exact ⟨_, F, H, rfl, S, ν, σ, h, hr, .refl _, .refl _, .refl _, .refl _ _⟩
  · exact hih k0 hN _ _ _ h hfl _ _ _ _ _ _ hr
  · rename_i id ops draw
    obtain ⟨F', H', h1, S', ν', σ', h2, h3, h4, h5, h6, h7⟩ := symRegion_ok E hr h
    exact ⟨_, F', H', h1, S', ν', σ', h2, h3, h4.mono hfl, h5, h6, h7⟩
  · exact h.elim

theorem symIn_ok {C : Ctx} {G : Msk} {sout : SRun} {out : Run} (E : Env C G sout out) (g : FuncId) (j : Nat) : ∀ k, j * (LIM + 2) ≤ k → RunI C.P (symIn C sout j g) (evIn C.P G out k) := by
  generalize hL : LIM + 2 = L
  induction j with
  | zero => intro k _ c S Q h; exact h.elim
  | succ j ihj =>
    intro k hk
    rw [Nat.succ_mul] at hk
    refine symStep_ok (g := g) (ih := symIn C sout j g) (run := evIn C.P G out) (N := j * L) E (fun k => rfl) ihj k (by omega)

/-! ### Functions -/
/-- The whole run, calls walked into. -/
theorem symRun_ok {C : Ctx} {G : Msk} {B : Nat} (hfast : G.fast = false) (hbits : G.bits = C.bits) (hora : G.ora = C.ora) (htab : ∀ g, TabOK C.P (G.tab g) (C.tab g)) (hsrt : G.srt = C.srt) (hcon : ∀ d, B ≤ d → ∀ g c, C.con g = some c → Valid C.P G (ev C.P G d) g c) : ∀ m d, B + m ≤ d → RunS C.P (symRun C m) (ev C.P G d)
  | 0, _, _ => fun _ _ _ _ h => h.elim
  | m + 1, d, hd => by
    obtain ⟨d0, rfl⟩ : ∃ d0, d = d0 + 1 := ⟨d - 1, by omega⟩
    intro g c S Q h hfl base H0 ν σ F H hr
    have E : Env C G (symRun C m) (ev C.P G d0) := ⟨hfast, hbits, hora, htab, hsrt, symRun_ok hfast hbits hora htab hsrt hcon m d0 (by omega), hcon d0 (by omega)⟩
    obtain ⟨e, F', H', h1, S', ν', σ', h2, h3, h4, h5, h6, _⟩ := symIn_ok E g 100000 1000000000000000 (by decide) c S Q h hfl base H0 ν σ F H hr
    exact ⟨e, F', H', h1, S', ν', σ', h2, h3, h4, h5, h6⟩

theorem callF_wl {G : Msk} (hfast : G.fast = false) {run : Run} {g : FuncId} {args : Array Value} {n : Nat} {v : Value} {H' : AHeap} (h : callF P G run g args { H with wlow := n } = some (v, H')) :
    ∃ h2 : AHeap, H' = { h2 with wlow := cond (Nat.ble n h2.wlow) n h2.wlow } ∧ callF P G run g args H = some (v, { h2 with wlow := cond (Nat.ble H.wlow h2.wlow) H.wlow h2.wlow }) := by
  unfold callF at h ⊢
  split at h
  · rename_i fn hf
    split at h
    · rename_i body hb
      try simp only [hb]
      cases hc : (Nat.blt fn.ntmps args.size || Nat.blt 1000000 fn.ntmps) with
      | true => rw [hc] at h; cases h
      | false =>
        rw [hc] at h
        simp only [cond_false] at h ⊢
        cases hr : run none body (frameOf fn.ntmps args) { t := H.t, next := H.next, wlow := H.next } with
        | none => rw [hr] at h; cases h
        | some x =>
          obtain ⟨e, F1, h1⟩ := x
          rw [hr] at h
          have key : (match endMarks h1 F1.marks with | some h2 => (match resultsA P h2 F1 fn with | some v => some (v, leave G.fast { H with wlow := n } h2 v) | none => none) | none => none) = some (v, H') →
              ∃ h2 : AHeap, H' = { h2 with wlow := cond (Nat.ble n h2.wlow) n h2.wlow } ∧ (match endMarks h1 F1.marks with | some h2 => (match resultsA P h2 F1 fn with | some v => some (v, leave G.fast H h2 v) | none => none) | none => none) = some (v, { h2 with wlow := cond (Nat.ble H.wlow h2.wlow) H.wlow h2.wlow }) := by
            intro h
            split at h
            · rename_i h2 he
              split at h
              · rename_i u hu
                simp only [Option.some.injEq, Prod.mk.injEq] at h
                obtain ⟨rfl, rfl⟩ := h
                refine ⟨h2, by unfold leave; rw [hfast]; rfl, ?_⟩
                unfold leave; rw [hfast]; rfl
              · cases h
            · cases h
          cases e with
          | exit id => cases h
          | normal => exact key h
          | ret => exact key h
    · cases h
  · cases h

theorem free_refs {r : V} (h : r.free = true) : r.refs = [] := by
  cases r <;> simp [V.free, V.plain] at h <;> rfl
theorem ret1_ok {S : SS} (hr : SR P base H0 ν σ S F H) {v r : V} {v' : Value} (h : ret1 P S v r) (hv : VRel P σ ν v v') : VRel P (lentS S ν σ H) (fun _ => none) r v' := by
  have gen : ∀ r : V, r.free = true → vMatch1 v r → VRel P (lentS S ν σ H) (fun _ => none) r v' := fun r hf hm => by
    refine (vMatch1_ok (ν2 := fun _ => none) hm hv (fun b o n c e => by subst e; simp [V.free, V.plain] at hf) (fun x hx => by rw [free_refs hf] at hx; cases hx)).mono (lent_xs (S := S) (ν := ν) (H := H)) (.refl _)
  unfold ret1 at h
  split at h
  · rename_i t d
    split at h
    · rename_i b o n c
      split at h
      · rename_i e l hb
        cases hso : isSliceOf P t e with
        | false => rw [hso] at h; exact h.elim
        | true =>
          rw [hso] at h
          obtain ⟨hle, hd⟩ := h
          subst hd
          obtain ⟨u, hu, hvr, _⟩ := lend_ok (t := t) hr (v := .slc b o n c) (v' := v') (Kv := fun u => u = .dat t (.list ((l.drop o.v).take n.v))) (by unfold lend; simp only [hb, hso, cond_true]; exact ⟨hle, trivial⟩) hv
          subst hu
          exact hvr
      · exact h.elim
    · cases hc : (isSliceT P t && sizeIs P t 1) with
      | false => rw [hc] at h; exact h.elim
      | true =>
        rw [hc] at h
        simp only [Bool.and_eq_true] at hc
        subst h
        obtain ⟨e, hu⟩ : ∃ e, P.underlying t = some (.slice e) := by have := hc.1; unfold isSliceT at this; split at this <;> simp_all
        cases hv with
        | val _ => exact .dat hu (.nil hu (sizeIs_ok hc.2))
    · exact gen _ rfl h
  · cases hf : r.free with
    | false => rw [hf] at h; exact h.elim
    | true => rw [hf] at h; exact gen r hf h
theorem rets_ok {S : SS} (hr : SR P base H0 ν σ S F H) : ∀ {vs rs : List V} {vs' : List Value}, rets P S vs rs → LRel P σ ν vs vs' → LRel P (lentS S ν σ H) (fun _ => none) rs vs'
  | [], [], vs', _, hl => by rw [hl.nil_inv]; exact .nil
  | [], _ :: _, _, h, _ => h.elim
  | _ :: _, [], _, h, _ => h.elim
  | v :: vs, r :: rs, vs', h, hl => by
    obtain ⟨v', q, rfl, h1, h2⟩ := hl.cons_inv
    exact .cons (ret1_ok hr h.1 h1) (rets_ok hr h.2 h2)
theorem retMatch_ok {S : SS} (hr : SR P base H0 ν σ S F H) {v r : V} {v' : Value} (h : retMatch P S v r) (hv : VRel P σ ν v v') : VRel P (lentS S ν σ H) (fun _ => none) r v' := by
  unfold retMatch at h
  split at h
  · split at h
    · cases hv with
      | tup h1 h2 => have := rets_ok hr h ⟨h1, h2⟩; exact .tup this.1 this.2
    · exact h.elim
  · split at h
    · cases hv with
      | agg h1 h2 => have := rets_ok hr h ⟨h1, h2⟩; exact .agg this.1 this.2
    · exact h.elim
  · exact ret1_ok hr h hv

/-- A contract is proved by a symbolic run. -/
theorem valid_of_sym {C : Ctx} {G : Msk} {B : Nat} (hfast : G.fast = false) (hbits : G.bits = C.bits) (hora : G.ora = C.ora) (hcon : ∀ d, B ≤ d → ∀ g c, C.con g = some c → Valid C.P G (ev C.P G d) g c) {m : Nat} {g : FuncId} {c : Con}
    (h : ∀ as p r, c as = some (p, r) → p → (∀ t d, V.dat t d ∈ as → d = .nil ∨ ∃ l, d = .list l) → symFun C m g as r) (htab : ∀ g, TabOK C.P (G.tab g) (C.tab g) := by exact fun _ _ => rfl) (hsrt : G.srt = C.srt := by rfl) : ∀ d, B + m ≤ d → Valid C.P G (ev C.P G d) g c := by
  intro d hd as p r hc hp σ H vs hst hl
  have hS := h as p r hc hp fun t d hm => by
    obtain ⟨j, hj⟩ := List.mem_iff_getElem?.1 hm
    obtain ⟨v', _, hv⟩ := hl.get hj
    cases hv with
    | dat ht hrd =>
      rcases hrd.sliceInv ht with ⟨h, _⟩ | ⟨l, _, _, _, _, _, h, _⟩
      · exact .inl h
      · exact .inr ⟨l, h⟩
  have hr : SR C.P H.next (H, σ) (fun _ => none) σ { fr := .leaf, sz := 0, hp := .leaf, nx := 0, ro := 0, fl := 0, wr := [] } { size := 0, t := .leaf, marks := [] } { H with wlow := H.next } :=
    ⟨fun t v h => (by cases h), rfl, Nat.zero_le _, rfl, fun b k h => (by cases h), fun b i z h => (by cases h), fun _ _ => rfl, fun b b' i z z' h => (by cases h), fun b i z _ h => (by cases h), hst, fun b k i z h => (by cases h), fun b k i z m h => (by cases h), Nat.le_refl _, fun _ _ => rfl, Nat.le_refl _, Nat.le_refl _, fun _ _ h _ => h⟩
  obtain ⟨v', H', hcall, v, S', ν', σ', hret, hr', hv, _, hx, _, hk⟩ := callF_sym (C := C) (G := G) (srun := symRun C m) (run := ev C.P G d) hfast hbits (symRun_ok hfast hbits hora htab hsrt hcon m d hd) hr hS hl
  obtain ⟨h2, rfl, hc2⟩ := callF_wl hfast hcall
  have hw : H.next ≤ h2.wlow := by
    have := hr'.wl
    cases hb : Nat.ble H.next h2.wlow with
    | true => exact Nat.le_of_ble_eq_true hb
    | false => rw [show (AHeap.wlow { t := h2.t, next := h2.next, wlow := cond (Nat.ble H.next h2.wlow) H.next h2.wlow }) = cond (Nat.ble H.next h2.wlow) H.next h2.wlow from rfl, hb] at this; exact this
  have hstab := lent_stab hr'
  refine ⟨v', _, lentS S' ν' σ' _, hc2, hx.trans lent_xs, hstab, fun i c hc => ?_, hr'.nxt, hr'.old, fun n h1 h2' => ?_, retMatch_ok hr' hret hv⟩
  · rcases Nat.lt_or_ge i H.next with h | h
    · unfold lentS at hc
      split at hc
      · rename_i c' hc'
        simp only [Option.some.injEq] at hc
        subst hc
        exact .inl (hr'.sb i _ hc' h)
      · split at hc
        · rename_i hex
          obtain ⟨b, e, l, z, hb, hν⟩ := hex
          have := hr'.own b i z (by rw [hk.ro]; exact Nat.zero_le _) hν
          omega
        · cases hc
    · exact .inr h
  · show n ≤ cond (Nat.ble H.wlow h2.wlow) H.wlow h2.wlow
    cases Nat.ble H.wlow h2.wlow
    · exact Nat.le_trans h2' hw
    · exact h1
#print axioms valid_of_sym
end
end Go.Ev

end

section
open Go.Proofs
namespace Go.Ev

def atI (d : D) (k : Nat) : Int := (nthD d.asList k).asInt
def isPermD (d : D) : Prop := ∀ w : Nat, w < d.len → ∃ k, k < d.len ∧ atI d k = w
def goodD (d : D) : Prop := (∀ i, i < d.len → 0 ≤ atI d i ∧ atI d i < d.len) ∧ ∀ i j, i < j → j < d.len → atI d i ≠ atI d j
/-- The marks after k elements. -/
def seenL (d : D) (k : Nat) : List D := (List.range d.len).map fun (x : Nat) => D.bool (∃ i, i < k ∧ atI d i = x)
/-- Where a number was seen last among the first k. -/
def lastAt (d : D) (x : Nat) : Nat → Int
  | 0 => 0
  | k + 1 => if atI d k = x then k else lastAt d x k
def backL (d : D) (k : Nat) : List D := (List.range d.len).map fun (x : Nat) => D.int (lastAt d x k)
open Classical in
noncomputable def invD (d : D) : D := if goodD d then .list (backL d d.len) else .nil
def compL (p q : D) (n k : Nat) : List D := (List.range n).map fun (x : Nat) => D.int (if x < k then atI p (atI q x).toNat else 0)
def compA (p q : D) (k : Nat) : List D := (List.range k).map fun (x : Nat) => D.int (atI p (atI q x).toNat)
open Classical in
noncomputable def compD (p q : D) : D := if p.len = q.len ∧ goodD p ∧ goodD q then .list (compA p q q.len) else .nil
def eqD (a b : D) : Prop := a.len = b.len ∧ ∀ i, i < a.len → atI a i = atI b i

noncomputable def con80 : Con := fun | [.dat 29 d] => some (d.len ≤ 100, .prop (isPermD d)) | _ => none
noncomputable def con103 : Con := fun | [.dat 29 d] => some (d.len ≤ 100, .prop (goodD d)) | _ => none
noncomputable def con46 : Con := fun | [.dat 29 d] => some (d.len ≤ 100, .dat 29 d) | _ => none
noncomputable def con43 : Con := fun | [.dat 29 a, .dat 29 b] => some (a.len ≤ 100, .prop (eqD a b)) | _ => none
noncomputable def con42 : Con := fun | [.dat 29 d] => some (d.len ≤ 100, .dat 29 (invD d)) | _ => none
noncomputable def con44 : Con := fun | [.dat 29 p, .dat 29 q] => some (p.len ≤ 100 ∧ q.len ≤ 100, .dat 29 (compD p q)) | _ => none
noncomputable def con25 : Con := fun | [.dat 29 p, .dat 29 q] => some (p.len ≤ 60 ∧ q.len ≤ 60, .prop True) | _ => none
noncomputable def con7 : Con := fun | [.dat 29 _, .dat 29 _] => some (True, .prop True) | _ => none

noncomputable def permAnn : FuncId → Nat → Option Ann
  | 80, 2 => some { τ := Nat, slots := fun _ _ i => [(3, .int .i64 i)], blks := fun _ _ _ => [], inv := fun S _ i => i ≤ (slD S 0).len ∧ ∀ w : Nat, w < i → ∃ k, k < (slD S 0).len ∧ atI (slD S 0) k = w, meas := fun S _ i => (slD S 0).len - i }
  | 80, 6 => some { τ := Nat × Prop, slots := fun _ _ x => [(5, .int .i64 x.1), (4, .prop x.2)], blks := fun _ _ _ => [], inv := fun S _ x => x.1 ≤ (slD S 0).len ∧ (x.2 ↔ ∃ k, k < x.1 ∧ atI (slD S 0) k = slI S 3), meas := fun S _ x => (slD S 0).len - x.1 }
  | 103, 3 => some { τ := Nat, slots := fun _ _ x => [(11, .int .i64 x)], blks := fun S _ x => [(0, .arr 4 (seenL (slD S 0) x))], inv := fun S _ x => x ≤ (slD S 0).len ∧ (∀ i, i < x → 0 ≤ atI (slD S 0) i ∧ atI (slD S 0) i < (slD S 0).len) ∧ ∀ i j, i < j → j < x → atI (slD S 0) i ≠ atI (slD S 0) j, meas := fun S _ x => (slD S 0).len - x }
  | 43, 4 => some { τ := Nat, slots := fun _ _ x => [(13, .int .i64 x)], blks := fun _ _ _ => [], inv := fun S _ x => x ≤ (slD S 0).len ∧ ∀ i, i < x → atI (slD S 0) i = atI (slD S 1) i, meas := fun S _ x => (slD S 0).len - x }
  | 42, 5 => some { τ := Nat, slots := fun _ _ x => [(14, .int .i64 x)], blks := fun S _ x => [(0, .arr 3 (backL (slD S 0) x))], inv := fun S _ x => x ≤ (slD S 0).len, meas := fun S _ x => (slD S 0).len - x }
  | _, _ => none
noncomputable def annComp (p q : D) : FuncId → Nat → Option Ann
  | 104, 3 => some { τ := Nat, slots := fun _ _ x => [(11, .int .i64 x)], blks := fun _ _ x => [(2, .arr 3 (compL p q q.len x))], inv := fun _ _ x => x ≤ q.len, meas := fun _ _ x => q.len - x }
  | _, _ => none
noncomputable def annLaw (p q : D) : FuncId → Nat → Option Ann
  | 25, 6 => some { τ := Nat, slots := fun _ _ x => [(24, .int .i64 x)], blks := fun _ _ x => [(0, .arr 3 (backL p x))], inv := fun _ _ x => x ≤ p.len, meas := fun _ _ x => p.len - x }
  | 25, 12 => some { hs := 2, τ := Nat, slots := fun _ i x => match i with | 0 => [(45, .int .i64 0), (7, .val (.slice none 0 0))] | _ => [(45, .int .i64 x), (7, .slc 40 (.lit 0) (.sym x) none)],
                     blks := fun _ i x => match i with | 0 => [] | _ => [(40, .arr 3 (compA p q x))], inv := fun _ i x => match i with | 0 => x = 0 | _ => 0 < x ∧ x ≤ q.len, meas := fun _ _ x => q.len - x }
  | _, _ => none
noncomputable def ctx (con : FuncId → Option Con) (ann : FuncId → Nat → Option Ann) : Ctx := { P := Tryz.prog, con := con, ora := fun g => cond (Nat.beq g 21) (some (.bool true)) none, bits := 8148143480379123944539124198372026339899032286168269601245373172583125750031685756655763455, ann := ann, srt := rowsF }
noncomputable def conA : FuncId → Option Con
  | 80 => some con80
  | 103 => some con103
  | 46 => some con46
  | 43 => some con43
  | _ => none
noncomputable def conB : FuncId → Option Con
  | 42 => some con42
  | 44 => some con44
  | g => conA g
noncomputable def conC : FuncId → Option Con
  | 25 => some con25
  | _ => none
end Go.Ev

end

section
open Go.Proofs
namespace Go.Ev

/-! ### Tables as data -/
def el (l : D) (i : Nat) : D := nthD l.asList i
def tName (d : D) : List UInt8 := (d.fld 0).asStr
def tShape (d : D) : Int := (d.fld 1).asInt
def tA (d : D) : Int := (d.fld 2).asInt
def tB (d : D) : Int := (d.fld 3).asInt
def tOpen (d : D) : D := d.fld 4
def tX (d : D) : Int := (d.fld 5).asInt
def tY (d : D) : Int := (d.fld 6).asInt

structure nameP (s : List UInt8) : Prop where
  out : 1 ≤ s.length ∧ s.length ≤ 12 ∧ ∀ i, i < s.length → 97 ≤ byteAt s i ∧ byteAt s i ≤ 122
open Classical in
noncomputable def sizeZ (sh a b : Int) : Int :=
  if sh = 1 ∧ (1 ≤ a ∧ a ≤ 24) ∧ b = 0 then a
  else if sh = 2 ∧ (1 ≤ a ∧ a ≤ 11) ∧ 0 ≤ b ∧ b ≤ 2 then 2 * a + b
  else if sh = 3 ∧ (1 ≤ a ∧ a ≤ 8) ∧ 1 ≤ b ∧ b ≤ 8 then a + 2 * b
  else if sh = 4 ∧ (1 ≤ a ∧ a ≤ 24) ∧ 0 ≤ b ∧ b ≤ a then a else 0
structure risingP (o : D) (n : Int) : Prop where
  out : ∀ i, i < o.len → 0 ≤ atI o i ∧ atI o i < n ∧ (0 < i → atI o (i - 1) < atI o i)
def placeP (x : Int) : Prop := 0 ≤ x ∧ x ≤ 1000
open Classical in
noncomputable def errZ (nm : List UInt8) (sh a b : Int) (o : D) (x y : Int) : Int :=
  if ¬ nameP nm then 4 else if sizeZ sh a b = 0 then 10 else if ¬ risingP o (sizeZ sh a b) then 11 else if ¬ (placeP x ∧ placeP y) then 2 else 0
noncomputable def errT (d : D) : Int := errZ (tName d) (tShape d) (tA d) (tB d) (tOpen d) (tX d) (tY d)
noncomputable def sizeT' (d : D) : Int := sizeZ (tShape d) (tA d) (tB d)
open Classical in
/-- The first table of a name, from i on. -/
noncomputable def idxZ (l : D) (s : List UInt8) : Nat → Nat → Int
  | 0, _ => -1
  | f + 1, i => if tName (el l i) = s then i else idxZ l s f (i + 1)
structure twiceP (l : D) (i : Nat) : Prop where
  out : ∃ k, k < i ∧ tName (el l k) = tName (el l i)
open Classical in
noncomputable def err1 (l : D) (i : Nat) : Int := if errT (el l i) ≠ 0 then errT (el l i) else if twiceP l i then 5 else 0
open Classical in
noncomputable def scanZ (l : D) : Nat → Nat → Int × Int
  | 0, _ => (0, 0)
  | f + 1, i => if err1 l i ≠ 0 then ((i : Nat), err1 l i) else scanZ l f (i + 1)
open Classical in
noncomputable def badZ (l : D) : Int × Int := if 16 < l.len then (0, 7) else scanZ l l.len 0
noncomputable def sumZ (l : D) : Nat → Int
  | 0 => 0
  | n + 1 => sumZ l n + sizeT' (el l n)
def listD (l : List D) : D := match l with | [] => .nil | l => .list l
def seatRow (i n : Nat) : List D := (List.range n).map fun (k : Nat) => D.sct [.int (i : Int), .int (k : Int)]
noncomputable def seatsL (l : D) : Nat → List D
  | 0 => []
  | n + 1 => seatsL l n ++ seatRow n (sizeT' (el l n)).toNat
def copyT (d : D) : D := .sct [.str (tName d), .int (tShape d), .int (tA d), .int (tB d), .list (tOpen d).asList, .int (tX d), .int (tY d)]
def copyL (l : D) (n : Nat) : List D := (List.range n).map fun i => copyT (el l i)
def copyD (l : D) : D := listD (copyL l l.len)
structure sameT (a b : D) : Prop where
  out : tName a = tName b ∧ tShape a = tShape b ∧ tA a = tA b ∧ tB a = tB b ∧ tX a = tX b ∧ tY a = tY b ∧ eqD (tOpen a) (tOpen b)
structure sameAll (a b : D) : Prop where
  out : a.len = b.len ∧ ∀ i, i < a.len → sameT (el a i) (el b i)
structure fewT (d : D) : Prop where
  out : (tName d).length ≤ 40 ∧ (tOpen d).len ≤ 40
structure fewD (l : D) : Prop where
  out : l.len ≤ 20 ∧ ∀ i, i < l.len → fewT (el l i)
structure smallD (l : D) : Prop where
  out : l.len ≤ 100 ∧ ∀ i, i < l.len → (tOpen (el l i)).len ≤ 100

structure seatedD (l : D) : Prop where
  out : l.len ≤ 100 ∧ ∀ i, i < l.len → sizeT' (el l i) ≠ 0

/-! ### Readable forms -/
theorem f_toNat (n : Nat) : ((n : Int)).toNat = n := rfl
theorem f_el (l : D) (i : Nat) : nthD l.asList i = el l i := rfl
theorem f_tName (d : D) : (d.fld 0).asStr = tName d := rfl
theorem f_tShape (d : D) : (d.fld 1).asInt = tShape d := rfl
theorem f_tA (d : D) : (d.fld 2).asInt = tA d := rfl
theorem f_tB (d : D) : (d.fld 3).asInt = tB d := rfl
theorem f_tOpen (d : D) : d.fld 4 = tOpen d := rfl
theorem f_tX (d : D) : (d.fld 5).asInt = tX d := rfl
theorem f_tY (d : D) : (d.fld 6).asInt = tY d := rfl
theorem f_errT (d : D) : errZ (tName d) (tShape d) (tA d) (tB d) (tOpen d) (tX d) (tY d) = errT d := rfl
theorem f_sizeT (d : D) : sizeZ (tShape d) (tA d) (tB d) = sizeT' d := rfl
theorem f_succ1 : Nat.succ 0 = 1 := rfl
theorem f_succ2 : Nat.succ 1 = 2 := rfl
theorem f_succ3 : Nat.succ 2 = 3 := rfl
theorem f_succ4 : Nat.succ 3 = 4 := rfl
theorem f_succ5 : Nat.succ 4 = 5 := rfl
theorem f_succ6 : Nat.succ 5 = 6 := rfl
theorem f_take1 (d : D) : List.take 1 (List.drop 0 [d]) = [d] := rfl
theorem f_drop0 (l : List D) : List.drop 0 l = l := rfl

/-! ### Contracts -/
noncomputable def con126 : Con := fun | [.str s] => some (True, .prop (nameP s)) | _ => none
noncomputable def con127 : Con := fun | [.dat 29 o, .int .i64 n] => some (o.len ≤ 100, .prop (risingP o n)) | _ => none
noncomputable def con63 : Con := fun | [.agg [.str nm, .int .u8 sh, .int .i64 a, .int .i64 b, .dat 29 o, .int .i64 x, .int .i64 y]] => some (o.len ≤ 100, .int .i64 (errZ nm sh a b o x y)) | _ => none
noncomputable def con28 : Con := fun | [.agg [.str _, .int .u8 sh, .int .i64 a, .int .i64 b, .dat 29 _, .int .i64 _, .int .i64 _]] => some (True, .int .i64 (sizeZ sh a b)) | _ => none
noncomputable def con93 : Con := fun | [.agg [.str _, .int .u8 sh, .int .i64 a, .int .i64 b, .dat 29 _, .int .i64 _, .int .i64 _]] => some (sizeZ sh a b ≠ 0, .int .i64 (sizeZ sh a b)) | _ => none
noncomputable def con114 : Con := fun | [.dat 22 l, .str s] => some (l.len ≤ 100, .int .i64 (idxZ l s l.len 0)) | _ => none
noncomputable def con62 : Con := fun | [.dat 22 l] => some (smallD l, .tup [.int .i64 (badZ l).1, .int .i64 (badZ l).2]) | _ => none
noncomputable def con92 : Con := fun | [.dat 22 l, .int .i64 n] => some (0 ≤ n ∧ n ≤ l.len ∧ seatedD l, .int .i64 (sumZ l n.toNat)) | _ => none
noncomputable def con70 : Con := fun | [.dat 22 l, .int .i64 n] => some (0 ≤ n ∧ n ≤ l.len ∧ l.len ≤ 100, .int .i64 (sumZ l n.toNat)) | _ => none
noncomputable def con69 : Con := fun | [.dat 22 l] => some (l.len ≤ 100, .dat 91 (listD (seatsL l l.len))) | _ => none
noncomputable def con66 : Con := fun | [.dat 22 l] => some (smallD l, .dat 22 (copyD l)) | _ => none
noncomputable def con79 : Con := fun
  | [.agg [.str n1, .int .u8 s1, .int .i64 a1, .int .i64 b1, .dat 29 o1, .int .i64 x1, .int .i64 y1], .agg [.str n2, .int .u8 s2, .int .i64 a2, .int .i64 b2, .dat 29 o2, .int .i64 x2, .int .i64 y2]] => some (o1.len ≤ 100, .prop (n1 = n2 ∧ s1 = s2 ∧ a1 = a2 ∧ b1 = b2 ∧ x1 = x2 ∧ y1 = y2 ∧ eqD o1 o2))
  | _ => none
noncomputable def con60 : Con := fun | [.dat 22 a, .dat 22 b] => some (smallD a, .prop (sameAll a b)) | _ => none
noncomputable def con19 : Con := fun | [.dat 22 l] => some (True, .prop (fewD l)) | _ => none
noncomputable def con20 : Con := fun | [.dat 22 l, .str _, .int .i64 _] => some (fewD l, .prop True) | _ => none
noncomputable def con3 : Con := fun | [.dat 22 _, .str _, .int .i64 _] => some (True, .prop True) | _ => none

noncomputable def chk1 : FuncId → Option Con
  | 43 => some con43
  | 126 => some con126
  | 130 => some con126
  | 127 => some con127
  | 28 => some con28
  | 114 => some con114
  | _ => none
noncomputable def chk2 : FuncId → Option Con
  | 63 => some con63
  | 68 => some con63
  | 93 => some con93
  | 79 => some con79
  | g => chk1 g
noncomputable def chk3 : FuncId → Option Con
  | 62 => some con62
  | 67 => some con62
  | 92 => some con92
  | 70 => some con70
  | 69 => some con69
  | 66 => some con66
  | 60 => some con60
  | 19 => some con19
  | g => chk2 g
noncomputable def chk4 : FuncId → Option Con
  | 20 => some con20
  | g => chk3 g

/-! ### Loops -/
noncomputable def lastZ (o : D) (k : Nat) : Int := match k with | 0 => -1 | k + 1 => atI o k
noncomputable def chkAnn : FuncId → Nat → Option Ann
  | 126, 4 => some { τ := Nat, slots := fun _ _ x => [(14, .int .i64 x)], blks := fun _ _ _ => [], inv := fun S _ x => x ≤ (slS S 0).length ∧ ∀ i, i < x → 97 ≤ byteAt (slS S 0) i ∧ byteAt (slS S 0) i ≤ 122, meas := fun S _ x => (slS S 0).length - x }
  | 130, 4 => some { τ := Nat, slots := fun _ _ x => [(3, .int .i64 x)], blks := fun _ _ _ => [], inv := fun S _ x => x ≤ (slS S 0).length ∧ ∀ i, i < x → 97 ≤ byteAt (slS S 0) i ∧ byteAt (slS S 0) i ≤ 122, meas := fun S _ x => (slS S 0).length - x }
  | 127, 3 => some { τ := Nat, slots := fun S _ x => [(10, .int .i64 x), (5, .int .i64 (lastZ (slD S 0) x))], blks := fun _ _ _ => [], inv := fun S _ x => x ≤ (slD S 0).len ∧ ∀ i, i < x → 0 ≤ atI (slD S 0) i ∧ atI (slD S 0) i < slI S 1 ∧ (0 < i → atI (slD S 0) (i - 1) < atI (slD S 0) i), meas := fun S _ x => (slD S 0).len - x }
  | 114, 2 => some { τ := Nat, slots := fun _ _ x => [(9, .int .i64 x)], blks := fun _ _ _ => [], inv := fun S _ x => x ≤ (slD S 0).len ∧ idxZ (slD S 0) (slS S 1) ((slD S 0).len - x) x = idxZ (slD S 0) (slS S 1) (slD S 0).len 0, meas := fun S _ x => (slD S 0).len - x }
  | 62, 4 => some { τ := Nat, slots := fun _ _ x => [(12, .int .i64 x)], blks := fun _ _ _ => [], inv := fun S _ x => x ≤ (slD S 0).len ∧ scanZ (slD S 0) ((slD S 0).len - x) x = scanZ (slD S 0) (slD S 0).len 0, meas := fun S _ x => (slD S 0).len - x }
  | 67, 4 => some { τ := Nat, slots := fun _ _ x => [(4, .int .i64 x)], blks := fun _ _ _ => [], inv := fun S _ x => x ≤ (slD S 0).len ∧ scanZ (slD S 0) ((slD S 0).len - x) x = scanZ (slD S 0) (slD S 0).len 0, meas := fun S _ x => (slD S 0).len - x }
  | 67, 10 => some { τ := Nat, slots := fun _ _ x => [(6, .int .i64 x)], blks := fun _ _ _ => [], inv := fun S _ x => x ≤ (slI S 4).toNat ∧ ∀ k, k < x → tName (el (slD S 0) k) ≠ tName (el (slD S 0) (slI S 4).toNat), meas := fun S _ x => (slI S 4).toNat - x }
  | 92, 3 => some { τ := Nat, slots := fun S _ x => [(12, .int .i64 x), (5, .int .i64 (sumZ (slD S 0) x))], blks := fun _ _ _ => [], inv := fun S _ x => x ≤ (slI S 1).toNat, meas := fun S _ x => (slI S 1).toNat - x }
  | 70, 3 => some { τ := Nat, slots := fun S _ x => [(6, .int .i64 x), (5, .int .i64 (sumZ (slD S 0) x))], blks := fun _ _ _ => [], inv := fun S _ x => x ≤ (slI S 1).toNat, meas := fun S _ x => (slI S 1).toNat - x }
  | 121, 4 => some { τ := Nat, slots := fun _ _ x => [(17, .int .i64 x)], blks := fun _ _ _ => [], inv := fun S _ x => x ≤ (slD S 0).len ∧ ∀ i, i < x → sameT (el (slD S 0) i) (el (slD S 1) i), meas := fun S _ x => (slD S 0).len - x }
  | 129, 2 => some { τ := Nat, slots := fun _ _ x => [(8, .int .i64 x)], blks := fun _ _ _ => [], inv := fun S _ x => x ≤ (slD S 0).len ∧ ∀ i, i < x → fewT (el (slD S 0) i), meas := fun S _ x => (slD S 0).len - x }
  | 66, 3 => some { hs := 2, τ := Nat, slots := fun _ i x => match i with | 0 => [(8, .int .i64 0), (3, .val (.slice none 0 0))] | _ => [(8, .int .i64 x), (3, .slc 60 (.lit 0) (.sym x) none)],
                    blks := fun S i x => match i with | 0 => [] | _ => [(60, .arr 31 (copyL (slD S 0) x))], inv := fun S i x => match i with | 0 => x = 0 | _ => 0 < x ∧ x ≤ (slD S 0).len, meas := fun S _ x => (slD S 0).len - x }
  | 69, 3 => some { hs := 2, τ := Nat, slots := fun S i x => match i with | 0 => [(4, .int .i64 x), (3, .val (.slice none 0 0))] | _ => [(4, .int .i64 x), (3, .slc 60 (.lit 0) (.sym (seatsL (slD S 0) x).length) none)],
                    blks := fun S i x => match i with | 0 => [] | _ => [(60, .arr 151 (seatsL (slD S 0) x))], inv := fun S i x => match i with | 0 => x ≤ (slD S 0).len ∧ seatsL (slD S 0) x = [] | _ => x ≤ (slD S 0).len ∧ seatsL (slD S 0) x ≠ [], meas := fun S _ x => (slD S 0).len - x }
  | 69, 6 => some { hs := 2, τ := Nat, slots := fun S i k => match i with | 0 => [(5, .int .i64 k), (3, .val (.slice none 0 0))] | _ => [(5, .int .i64 k), (3, .slc 60 (.lit 0) (.sym (seatsL (slD S 0) (slI S 4).toNat ++ seatRow (slI S 4).toNat k).length) none)],
                    blks := fun S i k => match i with | 0 => [] | _ => [(60, .arr 151 (seatsL (slD S 0) (slI S 4).toNat ++ seatRow (slI S 4).toNat k))],
                    inv := fun S i k => k ≤ (sizeT' (el (slD S 0) (slI S 4).toNat)).toNat ∧ match i with | 0 => seatsL (slD S 0) (slI S 4).toNat ++ seatRow (slI S 4).toNat k = [] | _ => seatsL (slD S 0) (slI S 4).toNat ++ seatRow (slI S 4).toNat k ≠ [], meas := fun S _ k => (sizeT' (el (slD S 0) (slI S 4).toNat)).toNat - k }
  | 20, 7 => some { τ := Nat, slots := fun _ _ x => [(44, .int .i64 x)], blks := fun _ _ _ => [], inv := fun S _ x => x ≤ (slD S 0).len, meas := fun S _ x => (slD S 0).len - x }
  | 20, 22 => some { τ := Nat × Int × Prop, slots := fun _ _ x => [(94, .int .i64 x.1), (17, .int .i64 x.2.1), (18, .prop x.2.2)], blks := fun _ _ _ => [],
                     inv := fun S _ x => x.1 ≤ (slD S 0).len ∧ ((x.2.2 ∧ ∃ k : Nat, k < x.1 ∧ x.2.1 = k ∧ tName (el (slD S 0) k) = slS S 1) ∨ (¬ x.2.2 ∧ x.2.1 = 0 ∧ ∀ k, k < x.1 → tName (el (slD S 0) k) ≠ slS S 1)), meas := fun S _ x => (slD S 0).len - x.1 }
  | _, _ => none
noncomputable def chk68 (o : D) (n : Int) : FuncId → Nat → Option Ann
  | 68, 7 => some { τ := Nat, slots := fun _ _ x => [(4, .int .i64 x)], blks := fun _ _ _ => [], inv := fun _ _ x => x ≤ o.len ∧ ∀ i, i < x → 0 ≤ atI o i ∧ atI o i < n ∧ (0 < i → atI o (i - 1) < atI o i), meas := fun _ _ x => o.len - x }
  | _, _ => none
end Go.Ev

end

section
namespace Go.Ev
open Go.Lib
/-- Of a row that does not fall the kept elements rise. -/
theorem compactUpTo_rises (d : Array Int) (hs : ∀ j, 0 < j → j < d.size → d[j - 1]! ≤ d[j]!) : ∀ m, m ≤ d.size → (compactUpTo d m).Pairwise (· < ·) ∧ ∀ y ∈ compactUpTo d m, 0 < m ∧ y ≤ d[m - 1]! ∧ ∃ j, j < m ∧ y = d[j]!
  | 0, _ => ⟨by simp [compactUpTo], fun y hy => by simp [compactUpTo] at hy⟩
  | m + 1, hm => by
    obtain ⟨h1, h2⟩ := compactUpTo_rises d hs m (by omega)
    rw [compactUpTo_succ]
    by_cases hk : keeps d m = true
    · rw [if_pos hk]
      have hlt : ∀ y ∈ compactUpTo d m, y < d[m]! := fun y hy => by
        obtain ⟨hp, hle, _⟩ := h2 y hy
        have := hs m hp (by omega)
        have hne : d[m]! ≠ d[m - 1]! := by
          unfold keeps at hk
          have := of_decide_eq_true hk
          omega
        omega
      refine ⟨List.pairwise_append.2 ⟨h1, by simp, fun a ha b hb => ?_⟩, fun y hy => ?_⟩
      · rw [List.mem_singleton.1 hb]; exact hlt a ha
      · rcases List.mem_append.1 hy with h | h
        · obtain ⟨_, _, j, hj, e⟩ := h2 y h
          exact ⟨by omega, by have := hlt y h; simp only [Nat.add_sub_cancel]; omega, j, by omega, e⟩
        · rw [List.mem_singleton.1 h]; exact ⟨by omega, by simp, m, by omega, rfl⟩
    · rw [if_neg hk, List.append_nil]
      refine ⟨h1, fun y hy => ?_⟩
      obtain ⟨hp, hle, j, hj, e⟩ := h2 y hy
      have := hs m hp (by omega)
      exact ⟨by omega, by simp only [Nat.add_sub_cancel]; omega, j, by omega, e⟩
theorem compact_rises (l : List Int) (hs : l.Pairwise (· ≤ ·)) : (compact l).Pairwise (· < ·) ∧ ∀ y ∈ compact l, y ∈ l := by
  have h := compactUpTo_rises l.toArray (fun j hj hl => by
    have hl' : j < l.length := by simpa using hl
    have := List.pairwise_iff_getElem.1 hs (j - 1) j (by omega) hl' (by omega)
    rw [getElem!_pos l.toArray (j - 1) (by simp; omega), getElem!_pos l.toArray j hl]
    simpa using this) l.length (by simp)
  refine ⟨h.1, fun y hy => ?_⟩
  obtain ⟨_, _, j, hj, e⟩ := h.2 y hy
  rw [e, getElem!_pos l.toArray j (by simpa using hj)]
  simp
theorem sorted_rises (l : List Int) : (compact (l.mergeSort fun x y => decide (x ≤ y))).Pairwise (· < ·) ∧ (∀ y ∈ compact (l.mergeSort fun x y => decide (x ≤ y)), y ∈ l) := by
  have h := compact_rises (l.mergeSort fun x y => decide (x ≤ y)) (by
    have := List.pairwise_mergeSort (le := fun x y => decide (x ≤ y)) (by intro a b c; simp; omega) (by intro a b; simp; omega) l
    exact this.imp fun h => of_decide_eq_true h)
  exact ⟨h.1, fun y hy => List.mem_mergeSort.1 (h.2 y hy)⟩
end Go.Ev

end

section
open Go.Proofs
namespace Go.Ev

/-! ### Tables that are made of numbers -/
def cSh (d : D) : Int := (d.fld 0).asInt
def cA (d : D) : Int := (d.fld 1).asInt
def cB (d : D) : Int := (d.fld 2).asInt
def cO (d : D) : D := d.fld 3
def mSh (sh : Int) : Int := 1 + sh.tmod 4
def mA (sh a : Int) : Int := if mSh sh = 1 then 1 + a.tmod 24 else if mSh sh = 2 then 1 + a.tmod 11 else if mSh sh = 3 then 1 + a.tmod 8 else 1 + a.tmod 24
def mB (sh a b : Int) : Int := if mSh sh = 1 then 0 else if mSh sh = 2 then b.tmod 3 else if mSh sh = 3 then 1 + b.tmod 8 else b.tmod (1 + a.tmod 24 + 1)
def mN (sh a b : Int) : Int := if mSh sh = 1 then mA sh a else if mSh sh = 2 then 2 * mA sh a + mB sh a b else if mSh sh = 3 then mA sh a + 2 * mB sh a b else mA sh a
def openI (o : D) (n : Int) (x : Nat) : List Int := (List.range x).map fun i => (atI o i).tmod n
def openL (o : D) (n : Int) (x : Nat) : List D := (openI o n x).map .int
def openZ (o : D) (n : Int) : List Int := Lib.compact ((openI o n (min o.len 24)).mergeSort fun x y => decide (x ≤ y))
def openD (o : D) (n : Int) : D := listD ((openZ o n).map .int)
structure byteP (n : Int) : Prop where
  out : 0 ≤ n ∧ n < 256
structure bytesP (o : D) : Prop where
  out : ∀ i, i < o.len → 0 ≤ atI o i ∧ atI o i < 256
noncomputable def con108 : Con := fun
  | [.agg [.int .u8 sh, .int .u8 a, .int .u8 b, .dat 39 o], .str nm] => some (byteP sh ∧ byteP a ∧ byteP b ∧ bytesP o, .agg [.str nm, .int .u8 (mSh sh), .int .i64 (mA sh a), .int .i64 (mB sh a b), .dat 29 (openD o (mN sh a b)), .int .i64 0, .int .i64 0])
  | _ => none
noncomputable def annMade (nm : List UInt8) (o : D) : FuncId → Nat → Option Ann
  | 108, 17 => some { hs := 2, τ := Nat, slots := fun _ i x => match i with | 0 => [(90, .int .i64 0)] | _ => [(90, .int .i64 x)], blks := fun S i x => match i with | 0 => [] | _ => [(2, .box 31 [.str nm, .int .u8 (bkI S 2 1), .int .i64 (bkI S 2 2), .int .i64 (bkI S 2 3), .slc 40 (.lit 0) (.sym x) none, .int .i64 0, .int .i64 0]), (40, .arr 3 (openL o (slI S 6) x))], inv := fun _ i x => match i with | 0 => x = 0 | _ => 0 < x ∧ x ≤ min o.len 24, meas := fun _ _ x => 24 - x }
  | _, _ => none
theorem f_openL (o : D) (n : Int) (x : Nat) : openL o n x = openL o n x := rfl
end Go.Ev

end

section

namespace Go.Ev
open Go.ChangeShapes Go.WideShapes Go.ChangeAt Go.RowKit

section
variable {P : Program} {W : World} {μ : Nat → Option Loc} {H : AHeap} {σ : Sig}

/-- The evaluator's heap stands for what the call reads of the world. -/
structure Link (W : World) (μ : Nat → Option Loc) (H : AHeap) (σ : Sig) : Prop where
  rel : Rel μ H W
  stab : Stab σ H
  low : H.next ≤ H.wlow
  ros : ∀ i, H.get i ≠ none → H.ro i = true
  sig : ∀ i, H.next ≤ i → σ i = none

theorem Link.empty (W : World) : Link W (fun _ => none) { t := .leaf, next := 0, wlow := UNK } (fun _ => none) where
  rel := Rel.empty W
  stab i c h := by cases h
  low := Nat.zero_le _
  ros i hi := absurd (by simp [AHeap.get, T.get_leaf]) hi
  sig i _ := rfl

/-- One more block. -/
theorem Link.push (L : Link W μ H σ) (cs : List Value) (e : TypeId) (z : Nat) (loc : Option Loc) (hc : ∀ p, loc = some p → CellsAt μ W p cs e z true) :
    ∃ μ' H' σ', Link W μ' H' σ' ∧ Ext μ μ' ∧ XS σ σ' ∧ μ' H.next = loc ∧ σ' H.next = some (cs, z) := by
  have hx : Ext μ (fun j => if j = H.next then loc else μ j) := fun i p hi => by
    have : i ≠ H.next := fun e => by rw [e, L.rel.fresh _ (Nat.le_refl _)] at hi; cases hi
    simp [this, hi]
  refine ⟨fun j => if j = H.next then loc else μ j, { (H.alloc (.cells cs e z none true)) with wlow := H.next + 1 }, fun j => if j = H.next then some (cs, z) else σ j, ?_, hx, ?_, by simp, by simp⟩
  · have hget : ∀ i, AHeap.get { (H.alloc (.cells cs e z none true)) with wlow := H.next + 1 } i = if i = H.next then some (.cells cs e z none true) else H.get i := fun i => AHeap.get_alloc (h := H)
    have hro : ∀ i, AHeap.get { (H.alloc (.cells cs e z none true)) with wlow := H.next + 1 } i ≠ none → AHeap.ro { (H.alloc (.cells cs e z none true)) with wlow := H.next + 1 } i = true := fun i hi => by
      by_cases h : i = H.next
      · unfold AHeap.ro; rw [hget, if_pos h]
      · have hg := hget i
        rw [if_neg h] at hg
        rw [AHeap.ro_congr hg]
        exact L.ros i (by rw [← hg]; exact hi)
    refine ⟨⟨?_, ?_, trivial, trivial, ?_, ?_, ?_, ?_⟩, ?_, Nat.le_refl _, hro, ?_⟩
    · intro i hi
      have hi' : H.next + 1 ≤ i := hi
      have h1 : i ≠ H.next := by omega
      simp only [h1, if_false]
      exact L.rel.fresh i (by omega)
    · intro i hi
      show i < H.next + 1
      by_cases h : i = H.next
      · omega
      · rw [hget, if_neg h] at hi
        have := L.rel.below i hi
        omega
    · intro i cs' e' esz m ro p hg hp
      rw [hget] at hg
      by_cases h : i = H.next
      · rw [if_pos h] at hg
        cases hg
        simp only [h, if_true] at hp
        obtain ⟨arr, fz, a1, a2, a3, a4, a5, a6⟩ := hc p hp
        exact ⟨arr, fz, a1, a2, a3, a4, fun j v hj => by obtain ⟨u, hu, hv⟩ := a5 j v hj; exact ⟨u, hu, hv.mono hx⟩, a6⟩
      · rw [if_neg h] at hg
        simp only [h, if_false] at hp
        obtain ⟨arr, fz, a1, a2, a3, a4, a5, a6⟩ := L.rel.cells i cs' e' esz m ro p hg hp
        exact ⟨arr, fz, a1, a2, a3, a4, fun j v hj => by obtain ⟨u, hu, hv⟩ := a5 j v hj; exact ⟨u, hu, hv.mono hx⟩, a6⟩
    · intro i st pend F ps as_ bd p hg hp
      rw [hget] at hg
      by_cases h : i = H.next
      · rw [if_pos h] at hg; cases hg
      · rw [if_neg h] at hg
        have := L.ros i (by rw [hg]; simp)
        unfold AHeap.ro at this
        rw [hg] at this
        cases this
    · intro i p hg hp
      rw [hget] at hg
      by_cases h : i = H.next
      · rw [if_pos h] at hg; cases hg
      · rw [if_neg h] at hg
        have := L.ros i (by rw [hg]; simp)
        unfold AHeap.ro at this
        rw [hg] at this
        cases this
    · intro i j p q _ hi hj _ _ _
      exact Or.inl ⟨hro i hi, hro j hj⟩
    · intro i c hi
      by_cases h : i = H.next
      · simp only [h, if_true, Option.some.injEq] at hi
        subst hi
        refine ⟨?_, e, none, true, ?_⟩
        · show i < H.next + 1; omega
        · rw [hget, if_pos h]
      · simp only [h, if_false] at hi
        obtain ⟨h1, e', m, ro, h2⟩ := L.stab i c hi
        refine ⟨?_, e', m, ro, ?_⟩
        · show i < H.next + 1; omega
        · rw [hget, if_neg h, h2]
    · intro i hi
      have hi' : H.next + 1 ≤ i := hi
      have h1 : i ≠ H.next := by omega
      simp only [h1, if_false]
      exact L.sig i (by omega)
  · intro i c hi
    have : i ≠ H.next := fun e => by rw [e, L.sig _ (Nat.le_refl _)] at hi; cases hi
    simp [this, hi]

/-- What one argument reads as: the evaluator's value for it. -/
def Reads (P : Program) (μ : Nat → Option Loc) (σ : Sig) (t : TypeId) (v : Value) : Prop := ∃ v0 d, VR μ v0 v ∧ ReadsA P σ t d [v0] ∧ (d = .nil ∨ ∃ l, d = .list l)

variable {Hh : Type} {enc : TypeId × Value → Hh} {base : Nat} {held : Bool}

theorem ints_arg {r : Reach} {b0 : Nat} {t e : TypeId} {k : IntKind} {v : Value} {d : DataW Hh} {ps : List MemPlace} (ht : P.underlying t = some (.slice e)) (he : P.underlying e = some (.int k)) (hc1 : P.cellsOf e = 1) (hs1 : sizeT P t = some 1) (hz : sizeT P e = some 1)
    (L : Link W μ H σ) (hval : Value.okWide P W r b0 t v) (hd : DataW.Trod enc P W base (fun _ => true) held t v d ps) :
    ∃ μ' H' σ' v0 D, Link W μ' H' σ' ∧ Ext μ μ' ∧ XS σ σ' ∧ VR μ' v0 v ∧ ReadsA P σ' t D [v0] ∧ (D = .nil ∨ ∃ l, D = .list l) := by
  obtain ⟨a0, len0, cap0, rfl⟩ := okWide_slice ht hval
  obtain ⟨fuel, hf⟩ := hd
  rcases open_ints ht he hc1 hf with ⟨h0, _⟩ | ⟨a, len, cap, zs, h0, _, hl, _, hlen, _, hcell, _⟩
  · simp only [Value.cells, List.cons.injEq, and_true] at h0
    rw [h0]
    exact ⟨μ, H, σ, .slice none 0 0, .nil, L, Ext.refl _, XS.refl _, .flat rfl, .nil ht hs1, Or.inl rfl⟩
  · simp only [Value.cells, List.cons.injEq, and_true] at h0
    simp only [if_true] at hlen
    rw [h0] at hval ⊢
    have hspot : a.spot = none := by
      simp only [Value.okWide, ht, Cell.okWide, Cell.ok, World.has] at hval
      exact hval.2.2.2.1
    obtain ⟨ab, ao, as_⟩ := a
    simp only at hspot
    subst hspot
    have hread : ∀ σ' : Sig, σ' H.next = some (zs.map (.int k), 1) → ReadsA P σ' t (.list ((zs.take len).map .int)) [.slice (some ⟨H.next, 0, none⟩) len UNK] := fun σ' hσ => by
      have e1 : ((zs.take len).map D.int).length = len := by simp; omega
      have := ReadsA.list (P := P) (σ := σ') (l := (zs.take len).map D.int) (i := H.next) (o := 0) (c := UNK) ht hs1 hz hσ (by rw [e1]; simp; omega) (Or.inl rfl) (fun j d hj => by
        simp only [List.getElem?_map, Option.map_eq_some_iff] at hj
        obtain ⟨n, hn, rfl⟩ := hj
        have hn' : zs[j]? = some n := by
          rw [List.getElem?_take] at hn
          split at hn
          · exact hn
          · cases hn
        have : ((zs.map (Value.int k)).drop (0 + j * 1)).take 1 = [.int k n] := by
          obtain ⟨hj1, hj2⟩ := List.getElem?_eq_some_iff.1 hn'
          rw [Nat.zero_add, Nat.mul_one, List.drop_eq_getElem_cons (by simpa using hj1)]
          simp [hj2]
        rw [this]
        exact .int he hz)
      rw [e1] at this
      exact this
    by_cases hcap : cap = 0
    · have hl0 : len = 0 := by omega
      obtain ⟨μ', H', σ', L', hx, hxs, _, hσ⟩ := L.push (zs.map (.int k)) 0 1 none (fun p h => by cases h)
      subst hl0; subst hcap
      exact ⟨μ', H', σ', _, _, L', hx, hxs, .slice0, hread σ' hσ, Or.inr ⟨_, rfl⟩⟩
    · have hat : ∀ i, i < cap → W.cell? ⟨ab, ao + i, none⟩ = some (.int k (zs.getD i 0)) := fun i hi => by
        have := hcell i (by omega)
        by_cases hi0 : i = 0
        · subst hi0; simpa [Addr.add] using this
        · simpa [Addr.add, hi0] using this
      have hblk : ∃ arr e' fz, W.heap[ab]? = some (.cells arr e' fz) := by
        have := hat 0 (by omega)
        unfold World.cell? at this
        split at this
        · rename_i c e' fz hh; exact ⟨c, e', fz, hh⟩
        · cases this
      obtain ⟨arr, e', fz, hb⟩ := hblk
      have hat' : ∀ i, i < cap → arr[ao + i]? = some (.int k (zs.getD i 0)) := fun i hi => by
        have := hat i hi
        unfold World.cell? at this
        simpa [hb] using this
      obtain ⟨μ', H', σ', L', hx, hxs, hμ, hσ⟩ := L.push (zs.map (.int k)) e' 1 (some ⟨ab, ao, cap, 1⟩) (fun p hp => by
        cases hp
        refine ⟨arr, fz, hb, ?_, by simp; omega, ⟨rfl, fun h => by cases h⟩, fun j v hj => ?_, fun h => by cases h⟩
        · have h1 := (Array.getElem?_eq_some_iff.1 (hat' (cap - 1) (by omega))).1
          show ao + cap ≤ arr.size
          omega
        · simp only [List.getElem?_map, Option.map_eq_some_iff] at hj
          obtain ⟨n, hn, rfl⟩ := hj
          have hj1 := (List.getElem?_eq_some_iff.1 hn).1
          refine ⟨_, hat' j (by omega), ?_⟩
          rw [List.getD_eq_getElem?_getD, hn]
          exact .flat rfl)
      refine ⟨μ', H', σ', _, _, L', hx, hxs, ?_, hread σ' hσ, Or.inr ⟨_, rfl⟩⟩
      have := VR.sliceU (i := H.next) (o := 0) (l := len) (c := cap) hμ hl (by simp)
      simpa using this

end
end Go.Ev

namespace Go.Ev
open Go.ChangeShapes Go.WideShapes Go.ChangeAt Go.RowKit

section
variable {P : Program} {W : World} {Hh : Type} {enc : TypeId × Value → Hh} {base : Nat} {held : Bool}

/-- Where a struct's fields end. -/
noncomputable def endOff (P : Program) : List Field → Nat → Option Nat
  | [], o => some o
  | fd :: fs, o => cond (Nat.beq fd.offset o && sizeIs P fd.type (P.cellsOf fd.type)) (endOff P fs (o + P.cellsOf fd.type)) none
/-- Types that are linked. -/
noncomputable def linkB (P : Program) : Nat → TypeId → Bool
  | 0, _ => false
  | f + 1, t =>
    match P.underlying t with
    | some (.int _) | some .bool | some .string => sizeIs P t 1
    | some (.slice e) => sizeIs P t 1 && linkB P f e && posT P e && sizeIs P e (P.cellsOf e)
    | some (.struct fs) => fs.toList.all (fun fd => linkB P f fd.type) && sizeIs P t (P.cellsOf t) && (match endOff P fs.toList 0 with | some o => Nat.beq o (P.cellsOf t) | none => false)
    | _ => false

def VRs (μ : Nat → Option Loc) (l l' : List Value) : Prop := l.length = l'.length ∧ ∀ (j : Nat) (v v' : Value), l[j]? = some v → l'[j]? = some v' → VR μ v v'
theorem VRs.mono {μ μ' : Nat → Option Loc} {l l' : List Value} (h : VRs μ l l') (hx : Ext μ μ') : VRs μ' l l' := ⟨h.1, fun j v v' a b => (h.2 j v v' a b).mono hx⟩
theorem VRs.nil {μ : Nat → Option Loc} : VRs μ [] [] := ⟨rfl, fun j v v' h _ => by simp at h⟩
theorem VRs.one {μ : Nat → Option Loc} {v v' : Value} (h : VR μ v v') : VRs μ [v] [v'] := ⟨rfl, fun j u u' a b => by
  cases j with
  | zero => simp at a b; subst a; subst b; exact h
  | succ j => simp at a⟩
theorem VRs.append {μ : Nat → Option Loc} {a b a' b' : List Value} (h : VRs μ a a') (k : VRs μ b b') : VRs μ (a ++ b) (a' ++ b') := ⟨by simp [h.1, k.1], fun j v v' x y => by
  by_cases hj : j < a.length
  · rw [List.getElem?_append_left hj] at x
    rw [List.getElem?_append_left (h.1 ▸ hj)] at y
    exact h.2 j v v' x y
  · rw [List.getElem?_append_right (by omega)] at x
    rw [List.getElem?_append_right (by have := h.1; omega), ← h.1] at y
    exact k.2 _ v v' x y⟩

/-- Data of a type: integers within their kinds, lengths that there are. -/
def okD (P : Program) : Nat → TypeId → D → Prop
  | 0, _, _ => False
  | f + 1, t, d =>
    match P.underlying t with
    | some (.int k) => ∃ n, d = .int n ∧ inR k n
    | some .bool => ∃ p, d = .bool p
    | some .string => ∃ s, d = .str s ∧ s.length ≤ maxLen
    | some (.slice e) => d = .nil ∨ ∃ l, d = .list l ∧ l.length ≤ maxLen ∧ ∀ (j : Nat) (x : D), l[j]? = some x → okD P f e x
    | some (.struct fs) => ∃ ds, d = .sct ds ∧ ds.length = fs.size ∧ ∀ (j : Nat) (fd : Field) (x : D), fs[j]? = some fd → ds[j]? = some x → okD P f fd.type x
    | _ => False
theorem inR_of {k : IntKind} {n : Int} (h : (Lit.int k n).wf = true) : inR k n := by
  simp only [Lit.wf, Bool.and_eq_true, decide_eq_true_eq] at h
  obtain ⟨h1, h2⟩ := h
  cases k <;> simp [IntKind.min, IntKind.max, IntKind.signed, IntKind.bits] at h1 h2 <;> simp only [inR] <;> omega
/-- What reads is linked. -/
def LinkR (P : Program) (W : World) (μ : Nat → Option Loc) (σ : Sig) (f : Nat) (t : TypeId) (cs : List Value) : Prop :=
  ∃ (μ' : Nat → Option Loc) (H' : AHeap) (σ' : Sig) (cs0 : List Value) (D : D), Link W μ' H' σ' ∧ Ext μ μ' ∧ XS σ σ' ∧ VRs μ' cs0 cs ∧ ReadsA P σ' t D cs0 ∧ okD P f t D
/-- Each link goes on. -/
def LinkAll (P : Program) (W : World) (f : Nat) (t : TypeId) (cs : List Value) : Prop := ∀ μ H σ, Link W μ H σ → LinkR P W μ σ f t cs

theorem link_fields {n f0 : Nat} : ∀ (fs : List Field) (o oe : Nat) (cs : List Value), endOff P fs o = some oe → cs.length = oe →
    (∀ (j : Nat) (fd : Field), fs[j]? = some fd → LinkAll P W f0 fd.type ((cs.drop fd.offset).take (P.cellsOf fd.type))) → ∀ μ H σ, Link W μ H σ →
    ∃ (μ' : Nat → Option Loc) (H' : AHeap) (σ' : Sig) (css : List (List Value)) (ds : List D), Link W μ' H' σ' ∧ Ext μ μ' ∧ XS σ σ' ∧ VRs μ' css.flatten (cs.drop o) ∧ css.length = fs.length ∧ ds.length = fs.length ∧ o ≤ oe ∧
      ∀ (j : Nat) (f : Field) (d : D) (c : List Value), fs[j]? = some f → ds[j]? = some d → css[j]? = some c → ReadsA P σ' f.type d c ∧ okD P f0 f.type d
  | [], o, oe, cs, he, hl, _, μ, H, σ, L => by
    simp only [endOff, Option.some.injEq] at he
    refine ⟨μ, H, σ, [], [], L, .refl _, .refl _, ?_, rfl, rfl, by omega, fun j f d c h => by simp at h⟩
    rw [List.drop_eq_nil_of_le (by omega)]; exact .nil
  | fd :: fs, o, oe, cs, he, hl, hf, μ, H, σ, L => by
    simp only [endOff] at he
    cases hc : (Nat.beq fd.offset o && sizeIs P fd.type (P.cellsOf fd.type)) with
    | false => rw [hc] at he; cases he
    | true =>
      rw [hc] at he
      simp only [Bool.and_eq_true] at hc
      have ho := Nat.eq_of_beq_eq_true hc.1
      obtain ⟨μ1, H1, σ1, c0, d0, L1, x1, s1, v1, r1, k1⟩ := hf 0 fd rfl μ H σ L
      obtain ⟨μ2, H2, σ2, css, ds, L2, x2, s2, v2, l1, l2, hle, r2⟩ := link_fields (n := n) fs _ oe cs he hl (fun j g hg => hf (j + 1) g hg) μ1 H1 σ1 L1
      refine ⟨μ2, H2, σ2, c0 :: css, d0 :: ds, L2, x1.trans x2, s1.trans s2, ?_, by simp [l1], by simp [l2], by omega, fun j f d c a b c' => ?_⟩
      · have e : cs.drop o = (cs.drop fd.offset).take (P.cellsOf fd.type) ++ cs.drop (o + P.cellsOf fd.type) := by
          rw [ho, ← List.drop_drop, List.take_append_drop]
        rw [List.flatten_cons, e]
        exact (v1.mono x2).append v2
      · cases j with
        | zero => simp at a b c'; subst a; subst b; subst c'; exact ⟨r1.mono s2, k1⟩
        | succ j => exact r2 j f d c (by simpa using a) (by simpa using b) (by simpa using c')

theorem link_elems {f0 : Nat} {e : TypeId} {z : Nat} (hz : sizeT P e = some z) (css' : Nat → List Value) : ∀ (k : Nat), (∀ j, j < k → LinkAll P W f0 e (css' j)) → ∀ μ H σ, Link W μ H σ →
    ∃ (μ' : Nat → Option Loc) (H' : AHeap) (σ' : Sig) (css : List (List Value)) (ds : List D), Link W μ' H' σ' ∧ Ext μ μ' ∧ XS σ σ' ∧ css.length = k ∧ ds.length = k ∧ (∀ c ∈ css, c.length = z) ∧ (∀ (j : Nat) (c : List Value), css[j]? = some c → VRs μ' c (css' j)) ∧ ∀ (j : Nat) (d : D) (c : List Value), ds[j]? = some d → css[j]? = some c → ReadsA P σ' e d c ∧ okD P f0 e d
  | 0, _, μ, H, σ, L => ⟨μ, H, σ, [], [], L, .refl _, .refl _, rfl, rfl, fun c hc => by simp at hc, fun j c h => by simp at h, fun j d c h => by simp at h⟩
  | k + 1, hk, μ, H, σ, L => by
    obtain ⟨μ1, H1, σ1, css, ds, L1, x1, s1, l1, l2, hl, hv, hr⟩ := link_elems hz css' k (fun j hj => hk j (by omega)) μ H σ L
    obtain ⟨μ2, H2, σ2, c0, d0, L2, x2, s2, v2, r2, k2⟩ := hk k (by omega) μ1 H1 σ1 L1
    refine ⟨μ2, H2, σ2, css ++ [c0], ds ++ [d0], L2, x1.trans x2, s1.trans s2, by simp [l1], by simp [l2], fun c hc => ?_, fun j c h => ?_, fun j d c a b => ?_⟩
    · rcases List.mem_append.1 hc with h | h
      · exact hl c h
      · have : c = c0 := by simpa using h
        subst this
        have := r2.size; rw [hz] at this; exact (Option.some.inj this).symm
    · by_cases hj : j < css.length
      · rw [List.getElem?_append_left hj] at h; exact (hv j c h).mono x2
      · rw [List.getElem?_append_right (by omega)] at h
        have hj0 : j - css.length = 0 := by
          have := (List.getElem?_eq_some_iff.1 h).1
          simp at this; omega
        rw [hj0] at h
        simp at h; subst h
        have : j = k := by omega
        rw [this]; exact v2
    · by_cases hj : j < css.length
      · rw [List.getElem?_append_left (by omega)] at a
        rw [List.getElem?_append_left hj] at b
        exact ⟨(hr j d c a b).1.mono s2, (hr j d c a b).2⟩
      · rw [List.getElem?_append_right (by omega)] at a b
        have hj0 : j - css.length = 0 := by
          have := (List.getElem?_eq_some_iff.1 b).1
          simp at this; omega
        have hj1 : j - ds.length = 0 := by omega
        rw [hj0] at b; rw [hj1] at a
        simp at a b; subst a; subst b; exact ⟨r2, k2⟩

theorem add_off {a : Addr} (hs : a.spot = none) (n : Nat) : a.add n = ⟨a.block, a.off + n, none⟩ := by
  obtain ⟨b, o, s⟩ := a
  simp only at hs
  subst hs
  unfold Addr.add
  split
  · rename_i h; subst h; rfl
  · rfl

theorem trod_link : ∀ (f : Nat) (t : TypeId), linkB P f t = true → ∀ (fuel : Nat) (cs : List Value) (x : DataW Hh × List MemPlace), DataW.trod enc P W base (fun _ => true) held fuel t cs = some x → LinkAll P W f t cs
  | 0, t, h, _, _, _, _ => by cases h
  | f + 1, t, h, fuel, cs, x, hx => by
    intro μ H σ L
    unfold linkB at h
    split at h
    · rename_i k hu
      obtain ⟨n, rfl, _, hwf⟩ := DataW.trod_int hu hx
      exact ⟨μ, H, σ, [.int k n], .int n, L, .refl _, .refl _, .one (.flat rfl), .int hu (sizeIs_ok h), by unfold okD; rw [hu]; exact ⟨n, rfl, inR_of hwf⟩⟩
    · rename_i hu
      obtain ⟨b, rfl, _⟩ := DataW.trod_bool hu hx
      refine ⟨μ, H, σ, [.bool b], .bool (b = true), L, .refl _, .refl _, .one (.flat rfl), ?_, by unfold okD; rw [hu]; exact ⟨_, rfl⟩⟩
      have := ReadsA.bool (P := P) (σ := σ) (t := t) (p := b = true) hu (sizeIs_ok h)
      rw [dec_eq (b := b) Iff.rfl] at this
      exact this
    · rename_i hu
      obtain ⟨s, rfl, _, hsl⟩ := DataW.trod_string hu hx
      refine ⟨μ, H, σ, [.string s], .str s.data.toList, L, .refl _, .refl _, .one (.flat rfl), ?_, by unfold okD; rw [hu]; exact ⟨_, rfl, by simpa using hsl⟩⟩
      have := ReadsA.str (P := P) (σ := σ) (t := t) (s := s.data.toList) hu (sizeIs_ok h)
      exact this
    · rename_i e hu
      simp only [Bool.and_eq_true] at h
      obtain ⟨⟨⟨h1, h2⟩, h3⟩, h4⟩ := h
      have hs1 := sizeIs_ok h1
      have hze := sizeIs_ok h4
      generalize hzz : P.cellsOf e = z at *
      have hz0 : 0 < z := by
        unfold posT at h3
        rw [hze] at h3
        exact blt_lt h3
      rcases DataW.trod_slice hu hx with ⟨rfl, _⟩ | ⟨a, len, cap, elems, rest, n, rfl, rfl, _, _, hle, hmx, hel, h5, h6, _⟩
      · exact ⟨μ, H, σ, _, .nil, L, .refl _, .refl _, .one (.flat rfl), .nil hu hs1, by unfold okD; rw [hu]; exact .inl rfl⟩
      · obtain ⟨hrl, h6⟩ := h6 rfl
        rw [hzz] at h5 h6
        have each : ∀ i, i < cap → ∃ c y, W.cells? base (a.add (i * z)) z = some c ∧ DataW.trod enc P W base (fun _ => true) held n e c = some y := fun i hi => by
          have : ∃ y, (W.cells? base (a.add (i * z)) z).bind (DataW.trod enc P W base (fun _ => true) held n e) = some y := by
            by_cases hil : i < len
            · rw [h5 i hil]; exact ⟨_, List.getElem?_eq_getElem (by omega)⟩
            · have := h6 (i - len) (by omega)
              rw [show len + (i - len) = i by omega] at this
              rw [this]; exact ⟨_, List.getElem?_eq_getElem (by omega)⟩
          obtain ⟨y, hy⟩ := this
          obtain ⟨c, h1, h2⟩ := Option.bind_eq_some_iff.1 hy
          exact ⟨c, y, h1, h2⟩
        let css' : Nat → List Value := fun i => (W.cells? base (a.add (i * z)) z).getD []
        obtain ⟨μ1, H1, σ1, css, ds, L1, x1, s1, l1, l2, hl, hv, hr⟩ := link_elems hze css' len (fun j hj => by
          obtain ⟨c, y, h1, h2'⟩ := each j (by omega)
          have : css' j = c := by show (W.cells? base (a.add (j * z)) z).getD [] = c; rw [h1]; rfl
          rw [this]
          exact trod_link f e h2 n c y h2') μ H σ L
        have hflen : css.flatten.length = len * z := by rw [rows_len hl, l1]
        have hread : ∀ (σ' : Sig) (c : Nat), XS σ1 σ' → σ' H1.next = some (css.flatten, z) → (c = UNK ∨ (ds.length ≤ c ∧ c < UNK)) → ReadsA P σ' t (.list ds) [.slice (some ⟨H1.next, 0, none⟩) ds.length c] := fun σ' c hxs hσ hc => by
          refine ReadsA.list (sz := z) hu hs1 hze hσ (by rw [l2, hflen]; omega) hc fun j d hj => ?_
          rw [Nat.zero_add, rows_get hl]
          have hjl : j < css.length := by have := (List.getElem?_eq_some_iff.1 hj).1; omega
          rw [List.getElem?_eq_getElem hjl]
          exact (hr j d _ hj (List.getElem?_eq_getElem hjl)).1.mono hxs
        have hokd : okD P (f + 1) t (.list ds) := by
          unfold okD; rw [hu]
          refine .inr ⟨ds, rfl, by omega, fun j x hj => ?_⟩
          have hjl : j < css.length := by have := (List.getElem?_eq_some_iff.1 hj).1; omega
          exact (hr j x _ hj (List.getElem?_eq_getElem hjl)).2
        by_cases hcap : cap = 0
        · have hl0 : len = 0 := by omega
          obtain ⟨μ2, H2, σ2, L2, x2, s2, _, hσ⟩ := L1.push css.flatten e z none (fun p h => by cases h)
          have := hread σ2 UNK s2 hσ (.inl rfl)
          rw [l2, hl0] at this
          refine ⟨μ2, H2, σ2, _, _, L2, x1.trans x2, s1.trans s2, .one ?_, this, hokd⟩
          rw [hl0, hcap]
          exact .slice0
        · obtain ⟨c0, y0, hc0, _⟩ := each 0 (by omega)
          obtain ⟨_, q2, q3⟩ := World.cells?_some hc0
          have hcell0 : W.cell? a = c0[0]? := by simpa [Addr.add] using q3 0 hz0
          have hsome : ∃ u, W.cell? a = some u := by rw [hcell0]; exact ⟨_, List.getElem?_eq_getElem (by omega)⟩
          have hspot : a.spot = none := by
            obtain ⟨u, hu'⟩ := hsome
            unfold World.cell? at hu'
            split at hu'
            · cases hsp : a.spot with
              | none => rfl
              | some s => rw [hsp] at hu'; simp at hu'
            · cases hu'
          obtain ⟨arr, e', fz, hb⟩ : ∃ arr e' fz, W.heap[a.block]? = some (.cells arr e' fz) := by
            obtain ⟨u, hu'⟩ := hsome
            unfold World.cell? at hu'
            split at hu'
            · rename_i c e' fz hh; exact ⟨c, e', fz, hh⟩
            · cases hu'
          have hcell : ∀ i, i < cap → ∀ c, W.cells? base (a.add (i * z)) z = some c → c.length = z ∧ ∀ r, r < z → arr[a.off + (i * z + r)]? = c[r]? := fun i hi c hc => by
            obtain ⟨_, q2, q3⟩ := World.cells?_some hc
            refine ⟨q2, fun r hr => ?_⟩
            have := q3 r hr
            rw [add_off hspot, add_off (a := ⟨a.block, a.off + i * z, none⟩) rfl] at this
            unfold World.cell? at this
            rw [hb] at this
            rw [← this]
            simp [Nat.add_assoc]
          have hsize : a.off + cap * z ≤ arr.size := by
            obtain ⟨c, y, hc, _⟩ := each (cap - 1) (by omega)
            obtain ⟨g1, g2⟩ := hcell (cap - 1) (by omega) c hc
            have := g2 (z - 1) (by omega)
            rw [List.getElem?_eq_getElem (by omega)] at this
            have := (Array.getElem?_eq_some_iff.1 this).1
            have e1 : (cap - 1) * z + z = cap * z := by rw [← Nat.succ_mul]; congr 1; omega
            omega
          obtain ⟨μ2, H2, σ2, L2, x2, s2, hμ, hσ⟩ := L1.push css.flatten e' z (some ⟨a.block, a.off, cap * z, z⟩) (fun p hp => by
            cases hp
            refine ⟨arr, fz, hb, hsize, by rw [hflen]; exact Nat.mul_le_mul_right _ hle, ⟨rfl, fun h => by omega⟩, fun j v hj => ?_, fun h => by cases h⟩
            have hjl : j < len * z := by have := (List.getElem?_eq_some_iff.1 hj).1; omega
            have hq : j / z < len := (Nat.div_lt_iff_lt_mul hz0).2 hjl
            have hrm : j % z < z := Nat.mod_lt _ hz0
            have hdm : j / z * z + j % z = j := by rw [Nat.mul_comm]; exact Nat.div_add_mod j z
            obtain ⟨c, y, hc, _⟩ := each (j / z) (by omega)
            obtain ⟨g1, g2⟩ := hcell (j / z) (by omega) c hc
            have g3 := g2 (j % z) hrm
            rw [hdm] at g3
            have hcj : css[j / z]? = some (css[j / z]'(by omega)) := List.getElem?_eq_getElem (by omega)
            have hvv := hv _ _ hcj
            have e1 : css' (j / z) = c := by show (W.cells? base (a.add (j / z * z)) z).getD [] = c; rw [hc]; rfl
            rw [e1] at hvv
            have e2 : (css[j / z]'(by omega))[j % z]? = some v := by
              have := rows_get hl (j / z)
              rw [hcj] at this
              simp only [Option.getD_some] at this
              rw [← this, List.getElem?_take, if_pos hrm, List.getElem?_drop, hdm]
              exact hj
            refine ⟨c[j % z]'(by omega), ?_, hvv.2 _ _ _ e2 (List.getElem?_eq_getElem (by omega))⟩
            show arr[a.off + j]? = _
            rw [g3]; exact List.getElem?_eq_getElem (by omega))
          have := hread σ2 UNK s2 hσ (.inl rfl)
          rw [l2] at this
          refine ⟨μ2, H2, σ2, _, _, L2, x1.trans x2, s1.trans s2, .one ?_, this, hokd⟩
          have h7 := VR.sliceU (i := H1.next) (o := 0) (l := len) (c := cap) hμ hle (by simp)
          have ea : a = ⟨a.block, a.off, none⟩ := by
            obtain ⟨b, o, s⟩ := a
            simp only at hspot
            subst hspot; rfl
          rw [ea]
          simpa using h7
    · rename_i fs hu
      simp only [Bool.and_eq_true] at h
      obtain ⟨⟨h1, h2⟩, h3⟩ := h
      obtain ⟨xs, n, rfl, _, hlen, hxl, hfld⟩ := DataW.trod_struct hu hx
      split at h3
      · rename_i oe heo
        have hoe := Nat.eq_of_beq_eq_true h3
        obtain ⟨μ1, H1, σ1, css, ds, L1, x1, s1, v1, l1, l2, _, r1⟩ := link_fields (n := 0) fs.toList 0 oe cs heo (by rw [hlen, hoe]) (fun j fd hj => by
          have hj' : fs[j]? = some fd := by simpa using hj
          have hjl : j < fs.size := (Array.getElem?_eq_some_iff.1 hj').1
          have := hfld j fd hj'
          rw [List.getElem?_eq_getElem (by omega)] at this
          exact trod_link f fd.type (List.all_eq_true.1 h1 fd (List.mem_of_getElem? hj)) n _ _ this) μ H σ L
        rw [List.drop_zero] at v1
        refine ⟨μ1, H1, σ1, css.flatten, .sct ds, L1, x1, s1, v1, .sct hu (by simpa using l1) (by simpa using l2) (by rw [sizeIs_ok h2, v1.1, hlen]) fun j f d c a b c' => (r1 j f d c (by simpa using a) b c').1, ?_⟩
        unfold okD; rw [hu]
        refine ⟨ds, rfl, by simpa using l2, fun j fd x a b => ?_⟩
        have hjl : j < css.length := by have := (List.getElem?_eq_some_iff.1 b).1; omega
        exact (r1 j fd x _ (by simpa using a) b (List.getElem?_eq_getElem hjl)).2
      · cases h3
    · cases h
#print axioms trod_link
end
end Go.Ev

end

section

namespace Go.Ev
open Go.ChangeShapes Go.WideShapes Go.ChangeAt Go.RowKit

/-- What a law does: it answers true; nothing that was there is turned. -/
def Law (W : World) (e : Ending) (W' : World) : Prop := e = .returned (.bool true) ∧ Below W.heap.size W W'

section
variable {P : Program} {W : World} {μ : Nat → Option Loc} {H : AHeap} {σ : Sig}

/-- Out of the evaluator's call and its symbolic value: the call in the world. -/
theorem law_of_runP {G : Msk} (hG : GOK P G) (hm : P.follows .mixedOrders = true) {d : Nat} {g : FuncId} {vs : List Value} {args : Array Value} {con : Con} {us : List V} (L : Link W μ H σ)
    (hv : Valid P G (ev P G d) g con) {p : Prop} (hc : con us = some (p, .prop True)) (hp : p) (hl : LRel P σ (fun _ => none) us vs) (ha : AR μ ⟨vs⟩ args) : Calls P g args W (Law W) := by
  obtain ⟨v, H', σ', h1, _, _, _, _, _, hlow, hv'⟩ := hv us p _ hc hp σ H vs L.stab hl
  obtain ⟨_, c2⟩ := callF_ok hG (ev_ok hG hm d) h1 0 L.rel ha
  refine callsIn_wide.1 (CallsIn.mono (show CallsIn Fence.wide 0 P g _ W _ from c2) fun e w' he => ?_)
  obtain ⟨μ', v', rfl, hvr, hp⟩ := he
  obtain ⟨k1, _⟩ := Post.quiet L.rel hp (hlow _ L.low (Nat.le_refl _))
  have hb : v = .bool true := by
    cases hv' with
    | prop => rw [dec_true trivial]
  subst hb
  have := hvr.eq1 rfl
  subst this
  exact ⟨rfl, hp.os, hp.tape, hp.output, hp.size, k1⟩

theorem law_of_run {G : Msk} (hG : GOK P G) (hm : P.follows .mixedOrders = true) {d : Nat} {g : FuncId} {vs : List Value} {args : Array Value} {con : Con} {us : List V} (L : Link W μ H σ)
    (hv : Valid P G (ev P G d) g con) (hc : con us = some (True, .prop True)) (hl : LRel P σ (fun _ => none) us vs) (ha : AR μ ⟨vs⟩ args) : Calls P g args W (Law W) := law_of_runP hG hm L hv hc trivial hl ha

variable {Hh : Type} {enc : TypeId × Value → Hh}

theorem trodAll_below (hlo : laidOutB P = true) {W' : World} (hb : Below W.heap.size W W') : ∀ {ts : List TypeId} {vs : List Value} {ds : List (DataW Hh)} {ps : List MemPlace}, (∀ t ∈ ts, P.readableRec t = true ∧ t < P.types.size) →
    DataW.TrodAll enc P W 0 (fun _ => true) true ts vs ds ps → (∀ x ∈ ps, x.block < W.heap.size) → DataW.TrodAll enc P W' 0 (fun b => decide (b < W.heap.size)) true ts vs ds ps
  | [], [], [], _, _, h, _ => h
  | t :: _, _ :: _, _ :: _, _, hT, ⟨p, q, h1, h2, e⟩, hs =>
    ⟨p, q, Below.trod hlo (hT t (List.mem_cons.2 (Or.inl rfl))).1 (hT t (List.mem_cons.2 (Or.inl rfl))).2 h1 hb (fun x hx => hs x (by rw [e]; exact List.mem_append_left _ hx)),
      trodAll_below hlo hb (fun t ht => hT t (List.mem_cons.2 (Or.inr ht))) h2 (fun x hx => hs x (by rw [e]; exact List.mem_append_right _ hx)), e⟩

/-- A law's row: it answers true, each argument reads as it did. -/
theorem post_of_law (hlo : laidOutB P = true) {f : Func} {s : ChangeSpec} {args : Array Value} {ds : List (DataW Hh)} {before : List MemPlace} {W' : World} {tb : TypeId}
    (hW : DataW.Whole enc P f.params.toList s.vars false W args.toList ds [] before) (hsv : s.vars = []) (hfn : s.fn Hh (ds ++ []) = { results := [.lit (.bool true)], args := ds })
    (hT0 : (f.params.toList.all fun t => P.readableRec t && decide (t < P.types.size)) = true) (hr : f.resultTypes = #[tb]) (htb : P.underlying tb = some .bool) (hb : Below W.heap.size W W') :
    s.post enc P f false true false false W args (.bool true) W' := by
  have hT : ∀ t ∈ f.params.toList, P.readableRec t = true ∧ t < P.types.size := fun t ht => by
    have := List.all_eq_true.1 hT0 t ht
    simpa using this
  have hW' := hW
  obtain ⟨p, q, hA, hV, rfl, _, _⟩ := hW
  rw [hsv] at hV
  obtain ⟨_, rfl⟩ := trodVars_none hV
  have hv : (s.fn Hh (ds ++ [])).vars = [] := by rw [hfn]
  refine ⟨ds, [], _, [], p, [], hW', ?_, ?_, ?_, ?_, fun h => by cases h⟩
  · rw [hfn, hr]
    exact trodAll_mk1 (shut_bool htb true)
  · rw [hfn]
    exact trodAll_below hlo hb hT hA (fun x hx => hW'.lt x (by simpa using hx))
  · rw [hsv, hv]
    rfl
  · exact hb.frame _

/-- A law of two rows of integers. -/
theorem law_two_ints {G : Msk} (hG : GOK P G) (hm : P.follows .mixedOrders = true) {d : Nat} {g : FuncId} {con : Con} {t e : TypeId} {k : IntKind} (hv : Valid P G (ev P G d) g con)
    (hc : ∀ D0 D1, con [.dat t D0, .dat t D1] = some (True, .prop True)) (ht : P.underlying t = some (.slice e)) (he : P.underlying e = some (.int k)) (hc1 : P.cellsOf e = 1) (hs1 : sizeT P t = some 1) (hz : sizeT P e = some 1)
    {r : Reach} {b0 : Nat} {v0 v1 : Value} {d0 d1 : DataW Hh} {p0 p1 : List MemPlace} (h0 : Value.okWide P W r b0 t v0) (h1 : Value.okWide P W r b0 t v1)
    (t0 : DataW.Trod enc P W 0 (fun _ => true) true t v0 d0 p0) (t1 : DataW.Trod enc P W 0 (fun _ => true) true t v1 d1 p1) : Calls P g #[v0, v1] W (Law W) := by
  obtain ⟨μ1, H1, σ1, a0, D0, L1, _, _, r1, ra1, _⟩ := ints_arg ht he hc1 hs1 hz (Link.empty W) h0 t0
  obtain ⟨μ2, H2, σ2, a1, D1, L2, x2, s2, r2, ra2, _⟩ := ints_arg ht he hc1 hs1 hz L1 h1 t1
  have hl : LRel P σ2 (fun _ => none) [.dat t D0, .dat t D1] [a0, a1] := by
    refine ⟨rfl, fun j v v' hj hj' => ?_⟩
    match j, hj, hj' with
    | 0, hj, hj' => cases hj; cases hj'; exact .dat ht (ra1.mono s2)
    | 1, hj, hj' => cases hj; cases hj'; exact .dat ht ra2
    | j + 2, hj, _ => simp at hj
  have hA : AR μ2 ⟨[a0, a1]⟩ #[v0, v1] := by
    refine ⟨rfl, fun j v v' hj hj' => ?_⟩
    match j, hj, hj' with
    | 0, hj, hj' => cases hj; cases hj'; exact r1.mono x2
    | 1, hj, hj' => cases hj; cases hj'; exact r2
    | j + 2, hj, _ => simp at hj
  exact law_of_run hG hm L2 hv (hc D0 D1) hl hA

end
end Go.Ev

namespace Go.Ev
open Go.ChangeShapes Go.WideShapes Go.ChangeAt Go.RowKit
section
variable {P : Program} {W : World} {Hh : Type} {enc : TypeId × Value → Hh} {base : Nat} {held : Bool}

noncomputable def withArgs (P : Program) : List TypeId → List D → (List V → Prop) → Prop
  | [], [], K => K []
  | t :: ts, d :: ds, K => withCells P t d fun u => withArgs P ts ds fun us => K (u :: us)
  | _, _, _ => False

theorem okWide_one {r : Reach} {b0 : Nat} {t : TypeId} {v : Value} (hl : linkB P 20 t = true) (h : Value.okWide P W r b0 t v) : (∃ cs, v = .agg cs ∧ isAggT P t = some true) ∨ (v.cells = #[v] ∧ isAggT P t = some false) := by
  unfold linkB at hl
  split at hl
  · rename_i k hu; obtain ⟨n, rfl⟩ := okWide_int hu h; exact .inr ⟨rfl, by unfold isAggT; rw [hu]⟩
  · rename_i hu; obtain ⟨n, rfl⟩ := okWide_bool hu h; exact .inr ⟨rfl, by unfold isAggT; rw [hu]⟩
  · rename_i hu; obtain ⟨n, rfl⟩ := okWide_string hu h; exact .inr ⟨rfl, by unfold isAggT; rw [hu]⟩
  · rename_i e hu; obtain ⟨a, len, cap, rfl⟩ := okWide_slice hu h; exact .inr ⟨rfl, by unfold isAggT; rw [hu]⟩
  · rename_i fs hu; obtain ⟨cs, rfl, _⟩ := okWide_struct hu h; exact .inl ⟨cs, rfl, by unfold isAggT; rw [hu]⟩
  · cases hl

theorem arg_link {r : Reach} {b0 : Nat} {t : TypeId} {v : Value} {d : DataW Hh} {ps : List MemPlace} (hl : linkB P 20 t = true) (hval : Value.okWide P W r b0 t v) (hd : DataW.Trod enc P W base (fun _ => true) held t v d ps)
    {μ : Nat → Option Loc} {H : AHeap} {σ : Sig} (L : Link W μ H σ) :
    ∃ (μ' : Nat → Option Loc) (H' : AHeap) (σ' : Sig) (v0 : Value) (D : D), Link W μ' H' σ' ∧ Ext μ μ' ∧ XS σ σ' ∧ VR μ' v0 v ∧ okD P 20 t D ∧ (∀ Kv, withCells P t D Kv → ∃ u, Kv u ∧ VRel P σ' (fun _ => none) u v0) := by
  obtain ⟨fuel, hf⟩ := hd
  obtain ⟨μ', H', σ', cs0, D, L', hx, hs, hv, hr, hok⟩ := trod_link 20 t hl fuel _ _ hf μ H σ L
  rcases okWide_one hl hval with ⟨cs, rfl, hagg⟩ | ⟨hc, hagg⟩
  · refine ⟨μ', H', σ', .agg ⟨cs0⟩, D, L', hx, hs, .agg (by have := hv.1; simpa [Value.cells] using this) (fun j a b h1 h2 => hv.2 j a b (by simpa using h1) (by simpa [Value.cells] using h2)), hok, fun Kv h => ?_⟩
    unfold withCells at h
    split at h
    · rename_i vs h1 _
      have := cellsOf_ok (ν := fun _ => none) 20 t D cs0 vs hr h1
      exact ⟨_, h, .agg this.1 this.2⟩
    · rename_i h2; rw [hagg] at h2; cases h2
    · exact h.elim
  · rw [hc] at hv
    obtain ⟨v0, rfl⟩ : ∃ v0, cs0 = [v0] := by
      have h1 := hv.1
      match cs0, h1 with
      | [a], _ => exact ⟨a, rfl⟩
    refine ⟨μ', H', σ', v0, D, L', hx, hs, hv.2 0 v0 v rfl rfl, hok, fun Kv h => ?_⟩
    unfold withCells at h
    split at h
    · rename_i h2; rw [hagg] at h2; cases h2
    · rename_i u h1 _
      have := cellsOf_ok (ν := fun _ => none) 20 t D _ _ hr h1
      exact ⟨u, h, this.2 0 u v0 rfl rfl⟩
    · exact h.elim

/-- Data of types. -/
def okDs (P : Program) : List TypeId → List D → Prop
  | [], [] => True
  | t :: ts, d :: ds => okD P 20 t d ∧ okDs P ts ds
  | _, _ => False
theorem args_link {r : Reach} {b0 : Nat} : ∀ {ts : List TypeId} {vs : List Value} {ds : List (DataW Hh)} {ps : List MemPlace}, (ts.all fun t => linkB P 20 t) = true → (∀ (j : Nat) (t : TypeId) (v : Value), ts[j]? = some t → vs[j]? = some v → Value.okWide P W r b0 t v) →
    DataW.TrodAll enc P W base (fun _ => true) held ts vs ds ps → ∀ {μ : Nat → Option Loc} {H : AHeap} {σ : Sig}, Link W μ H σ →
    ∃ (μ' : Nat → Option Loc) (H' : AHeap) (σ' : Sig) (vs0 : List Value) (Ds : List D), Link W μ' H' σ' ∧ Ext μ μ' ∧ XS σ σ' ∧ VRs μ' vs0 vs ∧ Ds.length = ts.length ∧ okDs P ts Ds ∧ (∀ K, withArgs P ts Ds K → ∃ us, K us ∧ LRel P σ' (fun _ => none) us vs0)
  | [], [], [], _, _, _, _, μ, H, σ, L => ⟨μ, H, σ, [], [], L, .refl _, .refl _, .nil, rfl, trivial, fun K h => ⟨[], h, .nil⟩⟩
  | t :: ts, v :: vs, d :: ds, ps, hl, hv, ⟨p, q, h1, h2, _⟩, μ, H, σ, L => by
    simp only [List.all_cons, Bool.and_eq_true] at hl
    obtain ⟨μ1, H1, σ1, v0, D0, L1, x1, s1, r1, o1, k1⟩ := arg_link hl.1 (hv 0 t v rfl rfl) h1 L
    obtain ⟨μ2, H2, σ2, vs0, Ds, L2, x2, s2, r2, hlen, o2, k2⟩ := args_link hl.2 (fun j t v a b => hv (j + 1) t v (by simpa using a) (by simpa using b)) h2 L1
    refine ⟨μ2, H2, σ2, v0 :: vs0, D0 :: Ds, L2, x1.trans x2, s1.trans s2, (VRs.one (r1.mono x2)).append r2, by simp [hlen], ⟨o1, o2⟩, fun K h => ?_⟩
    obtain ⟨u, h, hu⟩ := k1 _ (show withCells P t D0 (fun u => withArgs P ts Ds fun us => K (u :: us)) from h)
    obtain ⟨us, h, hus⟩ := k2 _ h
    exact ⟨u :: us, h, .cons (hu.mono s2 (.refl _)) hus⟩
  | [], _ :: _, _, _, _, _, h, _, _, _, _ => h.elim
  | [], [], _ :: _, _, _, _, h, _, _, _, _ => h.elim
  | _ :: _, [], _, _, _, _, h, _, _, _, _ => h.elim
  | _ :: _, _ :: _, [], _, _, _, h, _, _, _, _ => h.elim

/-- A law, whatever its arguments are: they are data of their types. -/
theorem law_typed {G : Msk} (hG : GOK P G) (hm : P.follows .mixedOrders = true) {d : Nat} {g : FuncId} {con : Con} {ts : List TypeId} (hv : Valid P G (ev P G d) g con)
    (hc : ∀ Ds : List D, Ds.length = ts.length → okDs P ts Ds → withArgs P ts Ds fun us => ∃ p, con us = some (p, .prop True) ∧ p) (hl : (ts.all fun t => linkB P 20 t) = true)
    {r : Reach} {b0 : Nat} {vs : List Value} {ds : List (DataW Hh)} {ps : List MemPlace} (hok : ∀ (j : Nat) (t : TypeId) (v : Value), ts[j]? = some t → vs[j]? = some v → Value.okWide P W r b0 t v)
    (ht : DataW.TrodAll enc P W 0 (fun _ => true) true ts vs ds ps) : Calls P g ⟨vs⟩ W (Law W) := by
  obtain ⟨μ, H, σ, vs0, Ds, L, _, _, hr, hlen, hod, hk⟩ := args_link hl hok ht (Link.empty W)
  obtain ⟨us, ⟨p, h1, hp⟩, h2⟩ := hk _ (hc Ds hlen hod)
  exact law_of_runP hG hm L hv h1 hp h2 ⟨by have := hr.1; simpa using this, fun j v v' a b => hr.2 j v v' (by simpa using a) (by simpa using b)⟩
/-- A law, whatever its arguments are. -/
theorem law_any {G : Msk} (hG : GOK P G) (hm : P.follows .mixedOrders = true) {d : Nat} {g : FuncId} {con : Con} {ts : List TypeId} (hv : Valid P G (ev P G d) g con)
    (hc : ∀ Ds : List D, Ds.length = ts.length → withArgs P ts Ds fun us => con us = some (True, .prop True)) (hl : (ts.all fun t => linkB P 20 t) = true)
    {r : Reach} {b0 : Nat} {vs : List Value} {ds : List (DataW Hh)} {ps : List MemPlace} (hok : ∀ (j : Nat) (t : TypeId) (v : Value), ts[j]? = some t → vs[j]? = some v → Value.okWide P W r b0 t v)
    (ht : DataW.TrodAll enc P W 0 (fun _ => true) true ts vs ds ps) : Calls P g ⟨vs⟩ W (Law W) := by
  obtain ⟨μ, H, σ, vs0, Ds, L, _, _, hr, hlen, hod, hk⟩ := args_link hl hok ht (Link.empty W)
  obtain ⟨us, h1, h2⟩ := hk _ (hc Ds hlen)
  exact law_of_run hG hm L hv h1 h2 ⟨by have := hr.1; simpa using this, fun j v v' a b => hr.2 j v v' (by simpa using a) (by simpa using b)⟩
#print axioms law_any
#print axioms law_typed
end
end Go.Ev

namespace Go.Ev
/-- Plain values as what they are data of. -/
noncomputable def normV : V → V
  | .val (.int k n) => .int k n
  | .val (.bool b) => .prop (isProp b)
  | .val (.string b) => .str b.data.toList
  | v => v
theorem normV_rel {P : Program} {σ : Sig} {ν : Nu} {v : V} {v' : Value} (h : VRel P σ ν v v') : VRel P σ ν (normV v) v' := by
  cases h with
  | val hf =>
    cases v' <;> first | exact .int | exact .str | exact .val hf | skip
    rename_i b
    have := VRel.prop (P := P) (σ := σ) (ν := ν) (p := isProp b)
    have e : dec (isProp b) = b := dec_eq (b := b) (show isProp b ↔ b = true from Iff.rfl)
    rw [e] at this
    exact this
  | undef => exact .undef
  | int => exact .int
  | prop => exact .prop
  | str => exact .str
  | agg h1 h2 => exact .agg h1 h2
  | tup h1 h2 => exact .tup h1 h2
  | ptr h => exact .ptr h
  | ept h => exact .ept h
  | slcU h => exact .slcU h
  | slc h hc hn ho => exact .slc h hc hn ho
  | dat ht h => exact .dat ht h
  | dpt hi hs h0 hl h => exact .dpt hi hs h0 hl h
  | fn h1 h2 h3 h4 => exact .fn h1 h2 h3 h4
/-- A contract, of plain arguments too. -/
noncomputable def extC (c : Con) : Con := fun us => c (us.map normV)
theorem valid_ext {P : Program} {G : Msk} {run : Run} {g : FuncId} {c : Con} (h : Valid P G run g c) : Valid P G run g (extC c) := by
  intro as p r hc hp σ H vs hst hl
  refine h (as.map normV) p r hc hp σ H vs hst ⟨by simpa using hl.1, fun j v v' hj hj' => ?_⟩
  rw [List.getElem?_map] at hj
  cases ha : as[j]? with
  | none => rw [ha] at hj; cases hj
  | some u =>
    rw [ha] at hj
    simp only [Option.map_some, Option.some.injEq] at hj
    subst hj
    exact normV_rel (hl.2 j u v' ha hj')
end Go.Ev

end

section
open Go.Proofs
namespace Go.Ev

/-! ### Halls that are made of numbers -/
def letter (i : Nat) : List UInt8 := [UInt8.ofNat (97 + i)]
def madeRow (c : D) (i : Nat) : D := .sct [.str (letter i), .int (mSh (cSh c)), .int (mA (cSh c) (cA c)), .int (mB (cSh c) (cA c) (cB c)), openD (cO c) (mN (cSh c) (cA c) (cB c)), .int (7 * i), .int (100 - i)]
def madeL (l : D) (x : Nat) : List D := (List.range x).map fun i => madeRow (el l i) i
def madeD (l : D) : D := listD (madeL l (min l.len 16))
structure codeP (c : D) : Prop where
  out : byteP (cSh c) ∧ byteP (cA c) ∧ byteP (cB c) ∧ bytesP (cO c)
structure codesP (l : D) : Prop where
  out : ∀ i, i < l.len → codeP (el l i)
structure i64P (n : Int) : Prop where
  out : -9223372036854775808 ≤ n ∧ n < 9223372036854775808
structure okHall (l : D) : Prop where
  out : (badZ l).2 = 0
open Classical in
noncomputable def seatsZ (nm : List UInt8) (sh a b : Int) (o : D) (x y : Int) : Int := if errZ nm sh a b o x y = 0 then sizeZ sh a b else 0
open Classical in
noncomputable def countZ (l : D) : Int := if okHall l then sumZ l l.len else 0
open Classical in
noncomputable def firstZ (l : D) (t : Int) : Int := if (0 ≤ t ∧ t < l.len) ∧ okHall l then sumZ l t.toNat else 0
structure foundP (l : D) (s : List UInt8) : Prop where
  out : okHall l ∧ 0 ≤ idxZ l s l.len 0
open Classical in
noncomputable def findZ (l : D) (s : List UInt8) : Int := if foundP l s then idxZ l s l.len 0 else 0
/-- Where a seat is: the table, its number there, and whether there is one. -/
noncomputable def whereZ (l : D) : Nat → Nat → Int → Option (Int × Int)
  | 0, _, _ => none
  | f + 1, i, k => if k < sizeT' (el l i) then some (i, k) else whereZ l f (i + 1) (k - sizeT' (el l i))
open Classical in
noncomputable def whereO (l : D) (n : Int) : Option (Int × Int) := if n < 0 ∨ ¬ okHall l then none else whereZ l l.len 0 n
noncomputable def whereT (l : D) (n : Int) : Int := ((whereO l n).getD (0, 0)).1
noncomputable def whereK (l : D) (n : Int) : Int := ((whereO l n).getD (0, 0)).2
structure whereP (l : D) (n : Int) : Prop where
  out : whereO l n ≠ none
noncomputable def con49 : Con := fun | [.dat 65 l] => some (codesP l, .dat 22 (madeD l)) | _ => none
noncomputable def con113 : Con := fun | [.dat 22 l] => some (smallD l, .prop (okHall l)) | _ => none
noncomputable def con50 : Con := fun | [.agg [.str nm, .int .u8 sh, .int .i64 a, .int .i64 b, .dat 29 o, .int .i64 x, .int .i64 y]] => some (o.len ≤ 100, .int .i64 (seatsZ nm sh a b o x y)) | _ => none
noncomputable def con55 : Con := fun | [.dat 22 l] => some (smallD l, .int .i64 (countZ l)) | _ => none
noncomputable def con52 : Con := fun | [.dat 22 l, .int .i64 t] => some (smallD l, .int .i64 (firstZ l t)) | _ => none
noncomputable def con57 : Con := fun | [.dat 22 l, .str s] => some (smallD l, .tup [.int .i64 (findZ l s), .prop (foundP l s)]) | _ => none
noncomputable def con56 : Con := fun | [.dat 22 l, .int .i64 n] => some (smallD l ∧ i64P n, .tup [.int .i64 (whereT l n), .int .i64 (whereK l n), .prop (whereP l n)]) | _ => none
noncomputable def con16 : Con := fun | [.dat 65 l, .int .i64 n] => some (codesP l ∧ i64P n, .prop True) | _ => none
noncomputable def num1 : FuncId → Option Con
  | 108 => some con108
  | 113 => some con113
  | 50 => some con50
  | g => chk3 g
noncomputable def num2 : FuncId → Option Con
  | 49 => some con49
  | 55 => some con55
  | 52 => some (extC con52)
  | 57 => some (extC con57)
  | 56 => some (extC con56)
  | g => num1 g
noncomputable def numAnn : FuncId → Nat → Option Ann
  | 49, 3 => some { hs := 2, τ := Nat, slots := fun _ i x => match i with | 0 => [(13, .int .i64 0), (3, .val (.slice none 0 0))] | _ => [(13, .int .i64 x), (3, .slc 60 (.lit 0) (.sym x) none)],
                    blks := fun S i x => match i with | 0 => [] | _ => [(60, .arr 31 (madeL (slD S 0) x))], inv := fun S i x => match i with | 0 => x = 0 | _ => 0 < x ∧ x ≤ min (slD S 0).len 16, meas := fun _ _ x => 16 - x }
  | 56, 5 => some { τ := Nat × Int, slots := fun _ _ x => [(20, .int .i64 x.1), (5, .int .i64 x.2)], blks := fun _ _ _ => [], inv := fun S _ x => x.1 ≤ (slD S 0).len ∧ 0 ≤ x.2 ∧ x.2 ≤ slI S 1 ∧ whereZ (slD S 0) ((slD S 0).len - x.1) x.1 x.2 = whereZ (slD S 0) (slD S 0).len 0 (slI S 1), meas := fun S _ x => (slD S 0).len - x.1 }
  | 16, 4 => some { τ := Nat, slots := fun S _ x => [(27, .int .i64 x), (6, .int .i64 (sumZ (slD S 5) x))], blks := fun _ _ _ => [], inv := fun S _ x => x ≤ (slD S 5).len, meas := fun S _ x => (slD S 5).len - x }
  | 16, 7 => some { τ := Nat, slots := fun S _ k => [(34, .int .i64 k), (6, .int .i64 (sumZ (slD S 5) (slI S 27).toNat + k))], blks := fun _ _ _ => [], inv := fun S _ k => k ≤ (slI S 33).toNat, meas := fun S _ k => (slI S 33).toNat - k }
  | g, i => chkAnn g i

theorem f_cSh (d : D) : (d.fld 0).asInt = cSh d := rfl
end Go.Ev

end
