/-
  Part of the engine that the claim is proved with: it states nothing of the document by itself.
-/
import Derived.Test.YtlihfnfigclbmaaDoorCoreSeS

namespace Go.Ev
section
variable {P : Program} {base : Nat} {H0 : AHeap × Sig} {ν : Nu} {σ : Sig} {S : SS} {F : AFrame} {H : AHeap} {K : V → SS → Prop} {Kv : V → Prop}
theorem VRel.srcA (hr : SR P base H0 ν σ S F H) {e ts : TypeId} {inf : TypeInfo} {x : V} {x' : Value} {K : NL → List D → Prop} (hi : P.info? e = some inf) (h0 : 0 < inf.size) (hts : P.underlying ts = some (.slice e) ∨ P.underlying ts = some .string) (h : srcS P S e ts x K) (hx : VRel P σ ν x x') :
  ∃ n l row, K n l ∧ srcA H inf.size x' = some (n.v, row) ∧ RowR P σ e inf.size l row ∧ l.length = n.v := by
 have hst : sizeT P e = some inf.size := by unfold sizeT; rw [hi]; rfl
 unfold srcS at h
 have one : (isU8 P e && sizeIs1 P e) = true → P.underlying e = some (.int .u8) ∧ inf.size = 1 := fun hc => by
  simp only [Bool.and_eq_true] at hc
  refine ⟨by have := hc.1; unfold isU8 at this; split at this <;> simp_all, ?_⟩
  have := hc.2
  unfold sizeIs1 at this
  rw [hst] at this
  exact Nat.eq_of_beq_eq_true this
 have str : ∀ s : List UInt8, P.underlying e = some (.int .u8) ∧ inf.size = 1 → Ev.srcA H inf.size (.string ⟨⟨s⟩⟩) = some (s.length, s.map fun b => Value.int .u8 b.toNat) ∧ RowR P σ e inf.size (strD s) (s.map fun b => Value.int .u8 b.toNat) ∧ (strD s).length = s.length := fun s ⟨hu, h1⟩ => by
  refine ⟨by unfold Ev.srcA; rw [h1]; rfl, ⟨by simp [strD, h1], fun j d hj => ?_⟩, by simp [strD]⟩
  unfold strD at hj
  rw [List.getElem?_map] at hj
  cases hb : s[j]? with
  | none => rw [hb] at hj; cases hj
  | some b =>
   rw [hb] at hj
   cases hj
   have hd : (List.drop (j * inf.size) (s.map fun b => Value.int .u8 b.toNat)).take inf.size = [Value.int .u8 b.toNat] := by
    rw [h1, Nat.mul_one]
    have hl : j < s.length := (List.getElem?_eq_some_iff.1 hb).1
    rw [List.drop_eq_getElem_cons (by simpa using hl)]
    have : s[j] = b := (List.getElem?_eq_some_iff.1 hb).2
    simp [this]
   rw [hd]
   exact .int hu (by rw [hst, h1])
 split at h
 ·rename_i s
  cases hc : (isU8 P e && sizeIs1 P e) with
  | false => rw [hc] at h; exact h.elim
  | true =>
   rw [hc] at h
   cases hx with
   | str => obtain ⟨q1, q2, q3⟩ := str s (one hc); exact ⟨_, _, _, h, q1, q2, q3⟩
 ·rename_i s
  cases hc : (isU8 P e && sizeIs1 P e) with
  | false => rw [hc] at h; exact h.elim
  | true =>
   rw [hc] at h
   cases hx with
   | val _ => obtain ⟨q1, q2, q3⟩ := str s.data.toList (one hc); exact ⟨_, _, _, h, q1, q2, q3⟩
 ·cases hx with
  | val _ => exact ⟨_, _, [], h, by simp [Ev.srcA, NL.v], .nil, rfl⟩
 ·rename_i b o n c
  split at h
  ·rename_i e' l hb
   cases he : (Nat.beq e e' && true) with
   | false => simp only [Bool.and_true] at he; rw [he] at h; exact h.elim
   | true =>
    simp only [Bool.and_true] at he
    have := Nat.eq_of_beq_eq_true he
    subst this
    rw [he] at h
    obtain ⟨hle, h⟩ := h
    obtain ⟨i, z, hν, hB⟩ := hr.blk _ _ hb
    obtain ⟨cs, m, hg, hs, hz0, hlen, hrd⟩ := hB
    have hz : z = inf.size := by rw [hst] at hs; exact (Option.some.inj hs).symm
    subst hz
    have hrow : RowR P σ e inf.size l cs := ⟨hlen, hrd⟩
    have hmul : (o.v + n.v) * inf.size ≤ l.length * inf.size := Nat.mul_le_mul_right _ hle
    rw [Nat.add_mul] at hmul
    have hc : H.cells i = some cs := by unfold AHeap.cells; rw [hg]
    have key : ∀ cap off, (n.v ≠ 0 → off = o.v * inf.size) → Ev.srcA H inf.size (.slice (some ⟨i, off, none⟩) n.v cap) = some (n.v, ((cs.drop (o.v * inf.size)).take (n.v * inf.size))) := by
     intro cap off hoff
     unfold Ev.srcA
     cases hn : Nat.beq n.v 0 with
     | true => have := Nat.eq_of_beq_eq_true hn; simp [this]
     | false =>
      have hne : n.v ≠ 0 := fun e => by rw [e] at hn; cases hn
      simp only [hc]
      rw [hn, hoff hne, Nat.ble_eq_true_of_le (by omega)]; rfl
    refine ⟨n, _, (cs.drop (o.v * inf.size)).take (n.v * inf.size), h, ?_, (hrow.drop o.v).take n.v, by rw [List.length_take, List.length_drop]; omega⟩
    cases hx with
    | slcU hν' => rw [hν] at hν'; cases hν'; exact key _ _ (fun _ => rfl)
    | slc hν' hc' hn' ho =>
     rw [hν] at hν'; cases hν'
     exact key _ _ (fun hne => by rcases ho with ho | ho; exact ho; omega)
  ·exact h.elim
 ·rename_i t d
  cases ht : Nat.beq t ts with
  | false => rw [ht] at h; exact h.elim
  | true =>
   have := Nat.eq_of_beq_eq_true ht
   subst this
   rw [ht] at h
   cases hx with
   | dat hu hrd =>
    have hts : P.underlying t = some (.slice e) := by rcases hts with hts | hts; exact hts; rw [hu] at hts; cases hts
    rcases hrd.sliceInv hts with ⟨rfl, hcs⟩ | ⟨l, i, o, c, sz, cs', rfl, hcs, hsz, hσ, hle, hc, hel⟩
    ·cases hcs; exact ⟨_, _, [], h, by simp [Ev.srcA, NL.v, D.len, D.asList], .nil, rfl⟩
    ·cases hcs
     have hz : sz = inf.size := by rw [hst] at hsz; exact (Option.some.inj hsz).symm
     subst hz
     obtain ⟨_, e1, m, ro, hg⟩ := hr.sig _ _ hσ
     have hcl : H.cells i = some cs' := by unfold AHeap.cells; rw [hg]
     refine ⟨.sym l.length, l, (cs'.drop o).take (l.length * inf.size), h, ?_, ⟨by rw [List.length_take, List.length_drop]; omega, fun j d hj => ?_⟩, rfl⟩
     ·unfold Ev.srcA
      cases hn : Nat.beq l.length 0 with
      | true => have := Nat.eq_of_beq_eq_true hn; simp [this, NL.v]
      | false => simp only [hcl]; rw [hn, Nat.ble_eq_true_of_le hle]; rfl
     ·have hjl : j < l.length := (List.getElem?_eq_some_iff.1 hj).1
      have hm : (j + 1) * inf.size ≤ l.length * inf.size := Nat.mul_le_mul_right _ hjl
      rw [Nat.succ_mul] at hm
      have := hel j d hj
      rw [List.drop_take, List.drop_drop, List.take_take, Nat.min_eq_left (by omega)]
      exact this
 ·exact h.elim
theorem SR.push (hr : SR P base H0 ν σ S F H) {b i z : Nat} {k : SB} (hk : S.hp.get b = some k) (hν : ν b = some (i, z)) (hro : S.ro ≤ b) {k' : SB} {cs1 new : List Value} {e : TypeId} {esz : Nat}
  (hb : ∀ ν', XN ν ν' → BRel P σ ν' z k' (some (.cells new e esz (some i) false))) :
  SR P base H0 (fun b => if b = S.nx then some (H.next, z) else ν b) σ ((S.write b none).alloc k') F (((H.kill (H.mate i)).write i (some (.cells cs1 e esz (some H.next) false))).alloc (.cells new e esz (some i) false)) := by
 have hx := xnew hr z
 have hn1 : ((H.kill (H.mate i)).write i (some (.cells cs1 e esz (some H.next) false))).next = H.next := AHeap.next_kill _ _
 have hilt := hr.lt b i z hν
 have hget : ∀ j, (((H.kill (H.mate i)).write i (some (.cells cs1 e esz (some H.next) false))).alloc (.cells new e esz (some i) false)).get j =
   if j = H.next then some (.cells new e esz (some i) false) else if j = i then some (.cells cs1 e esz (some H.next) false) else if H.mate i = some j then none else H.get j := fun j => by
  rw [AHeap.get_alloc, hn1, AHeap.get_write, AHeap.get_kill]
 have hnx : (((H.kill (H.mate i)).write i (some (.cells cs1 e esz (some H.next) false))).alloc (.cells new e esz (some i) false)).next = H.next + 1 := by
  show Nat.succ _ = _; rw [hn1]
 have hbi := hr.own b i z hro hν
 have hmate : ∀ m, H.mate i = some m → base ≤ m ∧ m < H.next ∧ σ m = none ∧ ∀ b' k' z', S.hp.get b' = some k' → ν b' ≠ some (m, z') := fun m hm => let q := hr.mates b k i z m hk hν hm; ⟨q.1 hro, q.2⟩
 have hg : ∀ b', ((S.write b none).alloc k').hp.get b' = if b' = S.nx then some k' else if b' = b then none else S.hp.get b' := fun b' => by
  show T.get (T.put (T.put S.hp b none) S.nx (some k')) b' = _
  rw [T.get_put, T.get_put]
 have hblt : b < S.nx := by
  rcases Nat.lt_or_ge b S.nx with h | h
  ·exact h
  ·rw [hr.dom b h] at hν; cases hν
 have hne : ∀ b i z', ν b = some (i, z') → b ≠ S.nx ∧ i ≠ H.next := fun b i z' hb => by
  refine ⟨fun e => ?_, fun e => ?_⟩
  ·rw [e, hr.dom _ (Nat.le_refl _)] at hb; cases hb
  ·have := hr.lt _ _ _ hb; omega
 have hkeep : ∀ b' i' z' k2, S.hp.get b' = some k2 → ν b' = some (i', z') → b' ≠ b → (((H.kill (H.mate i)).write i (some (.cells cs1 e esz (some H.next) false))).alloc (.cells new e esz (some i) false)).get i' = H.get i' := fun b' i' z' k2 h2 h3 hne' => by
  rw [hget, if_neg (hne _ _ _ h3).2, if_neg (fun e1 => hne' (hr.inj _ _ _ _ _ (e1 ▸ h3) hν)), if_neg (fun hm => (hmate _ hm).2.2.2 b' k2 z' h2 h3)]
 refine ⟨fun t v h => (hr.fr t v h).mono (.refl _) hx, hr.fsz, hr.top, hr.nomk, ?_, ?_, ?_, ?_, ?_, ?_, ?_, ?_, ?_, ?_, by rw [hnx]; have := hr.nxt; omega, Nat.le_succ_of_le hr.role, hr.sb⟩
 ·intro b' k2 h
  rw [hg] at h
  by_cases e1 : b' = S.nx
  ·rw [if_pos e1] at h; cases h
   exact ⟨H.next, z, if_pos e1, by rw [hget, if_pos rfl]; exact hb _ hx⟩
  ·rw [if_neg e1] at h
   by_cases e2 : b' = b
   ·rw [if_pos e2] at h; cases h
   ·rw [if_neg e2] at h
    obtain ⟨i', z', h1, h2⟩ := hr.blk b' k2 h
    exact ⟨i', z', by rw [if_neg e1]; exact h1, by rw [hkeep b' i' z' k2 h h1 e2]; exact h2.mono (.refl _) hx⟩
 ·intro b' i' z' h
  rw [hnx]
  by_cases e1 : b' = S.nx
  ·simp only [e1, if_true, Option.some.injEq, Prod.mk.injEq] at h; omega
  ·simp only [if_neg e1] at h; have := hr.lt _ _ _ h; omega
 ·intro b' h
  have : S.nx + 1 ≤ b' := h
  simp only [if_neg (show b' ≠ S.nx by omega)]
  exact hr.dom b' (by omega)
 ·intro b1 b2 i' z1 z2 h h'
  by_cases e1 : b1 = S.nx <;> by_cases e2 : b2 = S.nx
  ·rw [e1, e2]
  ·simp only [e1, if_true, Option.some.injEq, Prod.mk.injEq] at h; simp only [if_neg e2] at h'
   exact absurd h.1.symm (hne _ _ _ h').2
  ·simp only [e2, if_true, Option.some.injEq, Prod.mk.injEq] at h'; simp only [if_neg e1] at h
   exact absurd h'.1.symm (hne _ _ _ h).2
  ·simp only [if_neg e1] at h; simp only [if_neg e2] at h'; exact hr.inj _ _ _ _ _ h h'
 ·intro b' i' z' hro' h
  by_cases e1 : b' = S.nx
  ·simp only [e1, if_true, Option.some.injEq, Prod.mk.injEq] at h; have := hr.nxt; omega
  ·simp only [if_neg e1] at h; exact hr.own b' i' z' hro' h
 ·intro i' c h
  obtain ⟨h1, h2⟩ := hr.sig i' c h
  refine ⟨by rw [hnx]; omega, ?_⟩
  rw [hget, if_neg (by omega), if_neg (fun e1 => by have := hr.apart b k i z hk hν; rw [← e1, h] at this; cases this), if_neg (fun hm => by rw [(hmate _ hm).2.2.1] at h; cases h)]
  exact h2
 ·intro b' k2 i' z' h h'
  rw [hg] at h
  by_cases e1 : b' = S.nx
  ·simp only [e1, if_true, Option.some.injEq, Prod.mk.injEq] at h'
   cases hs : σ i' with
   | none => rfl
   | some c => have := (hr.sig i' c hs).1; omega
  ·rw [if_neg e1] at h; simp only [if_neg e1] at h'
   by_cases e2 : b' = b
   ·rw [if_pos e2] at h; cases h
   ·rw [if_neg e2] at h; exact hr.apart b' k2 i' z' h h'
 ·intro b' k2 i' z' m h h' hm
  rw [hg] at h
  rw [hnx]
  by_cases e1 : b' = S.nx
  ·simp only [e1, if_true, Option.some.injEq, Prod.mk.injEq] at h'
   rw [← h'.1, mate_cells (by rw [hget, if_pos rfl])] at hm
   cases hm
   refine ⟨fun _ => hbi, by omega, hr.apart b k i z hk hν, fun b2 k4 z2 h4 hν2 => ?_⟩
   rw [hg] at h4
   by_cases e3 : b2 = S.nx
   ·simp only [e3, if_true, Option.some.injEq, Prod.mk.injEq] at hν2; omega
   ·rw [if_neg e3] at h4; simp only [if_neg e3] at hν2
    have := hr.inj _ _ _ _ _ hν2 hν
    rw [if_pos this] at h4; cases h4
  ·rw [if_neg e1] at h; simp only [if_neg e1] at h'
   by_cases e2 : b' = b
   ·rw [if_pos e2] at h; cases h
   ·rw [if_neg e2] at h
    rw [AHeap.mate_congr (hkeep b' i' z' k2 h h' e2)] at hm
    obtain ⟨q1, q2, q3, q4⟩ := hr.mates b' k2 i' z' m h h' hm
    refine ⟨q1, by omega, q3, fun b2 k4 z2 h4 hν2 => ?_⟩
    rw [hg] at h4
    by_cases e3 : b2 = S.nx
    ·simp only [e3, if_true, Option.some.injEq, Prod.mk.injEq] at hν2; omega
    ·rw [if_neg e3] at h4; simp only [if_neg e3] at hν2
     by_cases e4 : b2 = b
     ·rw [if_pos e4] at h4; cases h4
     ·rw [if_neg e4] at h4; exact q4 b2 k4 z2 h4 hν2
 ·have h3 : base ≤ (H.kill (H.mate i)).wlow := by
   cases hm : H.mate i with
   | none => exact hr.wl
   | some m =>
    have := (hmate m hm).1
    simp only [AHeap.kill, AHeap.write]
    cases hbl : Nat.ble H.wlow m with
    | true => exact hr.wl
    | false => simpa using this
  simp only [AHeap.alloc, AHeap.write]
  cases hbl : Nat.ble (H.kill (H.mate i)).wlow i with
  | true => exact h3
  | false => exact hbi
 ·intro j hj
  have := hr.nxt
  rw [hget, if_neg (by omega), if_neg (by omega), if_neg (fun hm => by have := (hmate _ hm).1; omega)]
  exact hr.old j hj
theorem caseNL_ok {n : NL} {A B : Prop} (h : caseNL n A B) : (n.v = 0 ∧ A) ∨ (0 < n.v ∧ B) := by
 cases n with
 | lit n =>
  simp only [caseNL] at h
  cases hn : Nat.beq n 0 with
  | true => rw [hn] at h; exact .inl ⟨Nat.eq_of_beq_eq_true hn, h⟩
  | false =>
   rw [hn] at h
   refine .inr ⟨?_, h⟩
   rcases Nat.eq_zero_or_pos n with e | e
   ·rw [e] at hn; cases hn
   ·exact e
 | sym n =>
  rcases Nat.eq_zero_or_pos n with e | e
  ·exact .inl ⟨e, h.1 e⟩
  ·exact .inr ⟨e, h.2 e⟩
theorem caseNP_ok {pos : Bool} {n : NL} {A B : Prop} (h : caseNP pos n A B) : (n.v = 0 ∧ A) ∨ (0 < n.v ∧ B) := by
 unfold caseNP at h
 cases pos with
 | true => exact .inr h
 | false => exact caseNL_ok h
theorem symAppend_ok {t t2 : TypeId} {s x : V} {s' x' : Value} (hr : SR P base H0 ν σ S F H) (h : symAppend P S t t2 s x K) (hs : VRel P σ ν s s') (hx : VRel P σ ν x x') : OpR P base H0 ν σ S F (appendA P H t s' x') K := by
 unfold symAppend at h
 split at h
 ·rename_i e hu
  split at h
  rotate_left
  ·exact h.elim
  rename_i e2 hu2
  split at h
  ·rename_i inf hi
   cases hc : (Nat.beq e e2 && zsizeOK inf && Nat.ble inf.bytes 4096 && Nat.blt 0 inf.bytes && Nat.blt 0 inf.size) with
   | false => rw [hc] at h; exact h.elim
   | true =>
    rw [hc] at h
    simp only [cond_true] at h
    simp only [Bool.and_eq_true] at hc
    obtain ⟨⟨⟨⟨c1, c2⟩, c3⟩, c4⟩, c5⟩ := hc
    have := Nat.eq_of_beq_eq_true c1
    subst this
    have h0 := blt_lt c5
    have hst : sizeT P e = some inf.size := by unfold sizeT; rw [hi]; rfl
    unfold zsizeOK at c2
    cases hz : inf.zero with
    | none => rw [hz] at c2; cases c2
    | some z =>
    rw [hz] at c2
    have hu2' : P.underlying t2 = some (.slice e) ∨ P.underlying t2 = some .string := by
     unfold srcT at hu2
     split at hu2
     ·cases hu2; left; assumption
     ·right; assumption
     ·cases hu2
    obtain ⟨k, new, row, h', hsrc, hrow, hkl⟩ := VRel.srcA hr hi h0 hu2' h hx
    clear h
    have hnl : row.length = k.v * inf.size := by rw [hrow.1, hkl]
    have happ : appendA P H t s' x' = appOnto P H e inf.size s' k.v row := by
     unfold appendA
     simp only [hu, hi, hz, c2, c3, c4, Bool.and_self, cond_true, hsrc]
    rw [happ]
    have hpos : Nat.blt 0 inf.size = true := c5
    have h'' := caseNP_ok h'
    clear h'
    rcases h'' with ⟨hk0, h⟩ | ⟨hk0, h⟩
    ·-- nothing is appended
     have e0 : Nat.beq k.v 0 = true := by rw [hk0]; rfl
     have hsome : ∀ ad l c, appOnto P H e inf.size (.slice (some ⟨ad, l, none⟩) c 0) k.v row = appOnto P H e inf.size (.slice (some ⟨ad, l, none⟩) c 0) k.v row := fun _ _ _ => rfl
     have fin : ∀ s'', appOnto P H e inf.size s'' k.v row = some (s'', H) → s'' = s' → OpR P base H0 ν σ S F (appOnto P H e inf.size s' k.v row) K := fun s'' h1 h2 => by
      subst h2
      rw [h1]
      cases hq : isSlcV s with
      | false => rw [hq] at h; exact h.elim
      | true => rw [hq] at h; exact OpR.pure hr hs h
     have nilc : ∀ c, appOnto P H e inf.size (.slice none 0 c) k.v row = some (.slice none 0 c, H) := fun c => by simp only [appOnto, e0, Nat.beq_refl, cond_true]
     have somec : ∀ i o l c, appOnto P H e inf.size (.slice (some ⟨i, o, none⟩) l c) k.v row = some (.slice (some ⟨i, o, none⟩) l c, H) := fun i o l c => by simp only [appOnto, e0, cond_true]
     cases hq : isSlcV s with
     | false => rw [hq] at h; exact h.elim
     | true =>
      unfold isSlcV at hq
      split at hq
      ·cases hs with | val _ => exact fin _ (nilc 0) rfl
      ·cases hs with
       | slcU _ => exact fin _ (somec _ _ _ _) rfl
       | slc _ _ _ _ => exact fin _ (somec _ _ _ _) rfl
      ·cases hs with
       | dat ht hrd =>
        rcases hrd.sliceInv ht with ⟨_, hcs⟩ | ⟨l, i, o, c, sz, cs', _, hcs, _⟩
        ·cases hcs; exact fin _ (nilc 0) rfl
        ·cases hcs; exact fin _ (somec _ _ _ _) rfl
      ·cases hq
    ·have e0 : Nat.beq k.v 0 = false := beqF (by omega)
     split at h
     ·-- onto nil
      obtain ⟨hbig, h⟩ := h
      cases hs with
      | val _ =>
      have ha : appOnto P H e inf.size (.slice none 0 0) k.v row = some (.slice (some ⟨H.next, 0, none⟩) k.v UNK, H.alloc (.cells row e inf.size none false)) := by
       simp only [appOnto, e0, Nat.beq_refl, cond_true, cond_false, Nat.ble_eq_true_of_le hbig, appNew, newRowA_eq hrow.one]
      rw [ha]
      refine ⟨_, _, rfl, _, _, _, σ, h, hr.alloc (z := inf.size) (k := .arr e new) (fun ν' hν => .arr hst h0 hrow), ?_, xnewn _ _ _, .refl _, rfl, .alloc _ _⟩
      have := VRel.slcU (P := P) (σ := σ) (ν := fun b => if b = S.nx then some (H.next, inf.size) else ν b) (b := S.nx) (o := .lit 0) (n := k) (if_pos rfl)
      simpa [NL.v] using this
     ·rename_i b o n c
      split at h
      ·rename_i e' l hb
       cases he : Nat.beq e e' with
       | false => rw [he] at h; exact h.elim
       | true =>
        have := Nat.eq_of_beq_eq_true he
        subst this
        rw [he] at h
        simp only [cond_true] at h
        obtain ⟨hle, hbig, h⟩ := h
        obtain ⟨i, zz, hν, hB⟩ := hr.blk _ _ hb
        obtain ⟨cs, m, hg, hsz, hz0, hlen, hrd⟩ := hB
        have hzz : zz = inf.size := by rw [hst] at hsz; exact (Option.some.inj hsz).symm
        subst hzz
        have hR : RowR P σ e inf.size l cs := ⟨hlen, hrd⟩
        have hmul : (o.v + n.v) * inf.size ≤ l.length * inf.size := Nat.mul_le_mul_right _ hle
        rw [Nat.add_mul] at hmul
        have hold : RowR P σ e inf.size ((l.drop o.v).take n.v) ((cs.drop (o.v * inf.size)).take (n.v * inf.size)) := (hR.drop o.v).take n.v
        have hout := hold.append hrow
        have hb1 := Nat.beq_refl e
        have hb2 := Nat.beq_refl inf.size
        have hb3 := Nat.ble_eq_true_of_le hbig
        -- anew
        have out : ∀ (cap : Nat) (off : Nat), cap ≠ UNK → cap < n.v + k.v → (n.v ≠ 0 → off = o.v * inf.size) → off ≤ o.v * inf.size → K (.slc S.nx (.lit 0) (n.add k) none) (S.alloc (.arr e ((l.drop o.v).take n.v ++ new))) →
          OpR P base H0 ν σ S F (appOnto P H e inf.size (.slice (some ⟨i, off, none⟩) n.v cap) k.v row) K := by
         intro cap off hcu hgt hoff hoff2 h
         have hrw : (cs.drop off).take (n.v * inf.size) = (cs.drop (o.v * inf.size)).take (n.v * inf.size) := by
          rcases Nat.eq_zero_or_pos n.v with hn0 | hn0
          ·rw [hn0]; simp
          ·rw [hoff (by omega)]
         have ha : appOnto P H e inf.size (.slice (some ⟨i, off, none⟩) n.v cap) k.v row = some (.slice (some ⟨H.next, 0, none⟩) (n.v + k.v) UNK, H.alloc (.cells ((cs.drop (o.v * inf.size)).take (n.v * inf.size) ++ row) e inf.size none false)) := by
          have hcap : Nat.beq cap UNK = false := beqF hcu
          have hcap2 : Nat.ble (n.v + k.v) cap = false := by
           cases hq : Nat.ble (n.v + k.v) cap with
           | false => rfl
           | true => have := Nat.le_of_ble_eq_true hq; omega
          simp only [appOnto, e0, cond_false, hg, hb1, hb2, hb3, Nat.ble_eq_true_of_le (show off + n.v * inf.size ≤ cs.length by omega), Bool.and_self, cond_true, hcap, hcap2, appNew, hrw, newRowA_eq hout.one]
         rw [ha]
         refine ⟨_, _, rfl, _, _, _, σ, h, hr.alloc (z := inf.size) (k := .arr e _) (fun ν' hν => .arr hst h0 hout), ?_, xnewn _ _ _, .refl _, rfl, .alloc _ _⟩
         have := VRel.slcU (P := P) (σ := σ) (ν := fun b => if b = S.nx then some (H.next, inf.size) else ν b) (b := S.nx) (o := .lit 0) (n := n.add k) (if_pos rfl)
         rw [NL.v_add] at this; simpa [show (NL.lit 0).v = 0 from rfl] using this
        split at h
        ·-- it is not known how much room there is
         cases hro : Nat.ble S.ro b with
         | false => rw [hro] at h; exact h.elim
         | true =>
          rw [hro] at h
          have hro' := Nat.le_of_ble_eq_true hro
          cases hs with
          | slcU hν' =>
          rw [hν] at hν'; cases hν'
          have hm := mate_cells hg
          have hkn : ({ (H.kill m) with next := H.next } : AHeap) = H.kill m := by cases m <;> rfl
          have ha : appOnto P H e inf.size (.slice (some ⟨i, o.v * inf.size, none⟩) n.v UNK) k.v row = some (.slice (some ⟨H.next, 0, none⟩) (n.v + k.v) UNK,
            ((H.kill (H.mate i)).write i (some (.cells (cs.take (o.v * inf.size + n.v * inf.size)) e inf.size (some H.next) false))).alloc (.cells ((cs.drop (o.v * inf.size)).take (n.v * inf.size) ++ row) e inf.size (some i) false)) := by
           simp only [appOnto, e0, cond_false, hg, hb1, hb2, hb3, Nat.ble_eq_true_of_le (show o.v * inf.size + n.v * inf.size ≤ cs.length by omega), Bool.and_self, cond_true, Nat.beq_refl UNK, appMate, forceNat_eq, hout.one, hpos, hm, hkn]
          rw [ha]
          refine ⟨_, _, rfl, _, _, _, σ, h, hr.push hb hν hro' (k' := .arr e _) (fun ν' hν => ⟨_, some i, rfl, hst, h0, hout.1, hout.2⟩), ?_, xnewn _ _ _, .refl _, rfl, .push _ _ _ hro'⟩
          have := VRel.slcU (P := P) (σ := σ) (ν := fun b => if b = S.nx then some (H.next, inf.size) else ν b) (b := S.nx) (o := .lit 0) (n := n.add k) (if_pos rfl)
          rw [NL.v_add] at this; simpa [show (NL.lit 0).v = 0 from rfl] using this
        ·rename_i c0
         cases hs with
         | slc hν' hcu hnc ho =>
         rename_i zq off
         rw [hν] at hν'; cases hν'
         have inn : n.v + k.v ≤ c0.v → (o.v + n.v + k.v ≤ l.length ∧ cond (Nat.ble S.ro b) (K (.slc b o (n.add k) (some c0)) (S.write b (some (.arr e (l.take (o.v + n.v) ++ new ++ l.drop (o.v + n.v + k.v)))))) False) → OpR P base H0 ν σ S F (appOnto P H e inf.size (.slice (some ⟨i, off, none⟩) n.v c0.v) k.v row) K := by
          rintro hcap ⟨hroom, h⟩
          cases hro : Nat.ble S.ro b with
          | false => rw [hro] at h; exact h.elim
          | true =>
           rw [hro] at h
           have hro' := Nat.le_of_ble_eq_true hro
           have hoff : off = o.v * inf.size := by rcases ho with ho | ho; exact ho; omega
           subst hoff
           have hm2 : (o.v + n.v + k.v) * inf.size ≤ l.length * inf.size := Nat.mul_le_mul_right _ hroom
           rw [Nat.add_mul, Nat.add_mul] at hm2
           have hw := writeCells_eq (o := o.v * inf.size + n.v * inf.size) (vs := row) hg (by rw [hnl]; omega) hrow.one
           have ha : appOnto P H e inf.size (.slice (some ⟨i, o.v * inf.size, none⟩) n.v c0.v) k.v row = some (.slice (some ⟨i, o.v * inf.size, none⟩) (n.v + k.v) c0.v, (H.kill (H.mate i)).write i (some (.cells (spliceL cs (o.v * inf.size + n.v * inf.size) row) e inf.size none false))) := by
            have hcap' : Nat.beq c0.v UNK = false := beqF (by omega)
            simp only [appOnto, e0, cond_false, hg, hb1, hb2, hb3, Nat.ble_eq_true_of_le (show o.v * inf.size + n.v * inf.size ≤ cs.length by omega), Bool.and_self, cond_true, hcap', Nat.ble_eq_true_of_le hcap, hw]
           rw [ha]
           have hnew : RowR P σ e inf.size (l.take (o.v + n.v) ++ new ++ l.drop (o.v + n.v + k.v)) (spliceL cs (o.v * inf.size + n.v * inf.size) row) := by
            unfold spliceL
            rw [hnl, show o.v * inf.size + n.v * inf.size + k.v * inf.size = (o.v + n.v + k.v) * inf.size by rw [Nat.add_mul, Nat.add_mul], show o.v * inf.size + n.v * inf.size = (o.v + n.v) * inf.size by rw [Nat.add_mul]]
            exact ((hR.take _).append hrow).append (hR.drop _)
           refine ⟨_, _, rfl, _, _, ν, σ, h, hr.write hb hν hro' (k' := .arr e _) (.arr hst h0 hnew), ?_, .refl _, .refl _, rfl, .write _ _ _ hro'⟩
           have := VRel.slc (P := P) (σ := σ) (n := n.add k) (o := o) (c := c0) hν hcu (by rw [NL.v_add]; exact hcap) (.inl rfl)
           simpa [NL.v_add] using this
         have out' : c0.v < n.v + k.v → K (.slc S.nx (.lit 0) (n.add k) none) (S.alloc (.arr e ((l.drop o.v).take n.v ++ new))) → OpR P base H0 ν σ S F (appOnto P H e inf.size (.slice (some ⟨i, off, none⟩) n.v c0.v) k.v row) K := fun hlt h =>
          out c0.v _ (by omega) hlt (fun hne => by rcases ho with ho | ho; exact ho; omega) (by rcases ho with ho | ho; omega; exact ho.2) h
         split at h
         ·rename_i n1 k1 c1
          cases hq : Nat.ble (n1 + k1) c1 with
          | true => rw [hq] at h; exact inn (Nat.le_of_ble_eq_true hq) h
          | false =>
           rw [hq] at h
           refine out' ?_ h
           show c1 < n1 + k1
           rcases Nat.lt_or_ge c1 (n1 + k1) with hl | hl
           ·exact hl
           ·rw [Nat.ble_eq_true_of_le hl] at hq; cases hq
         ·rcases Nat.lt_or_ge c0.v (n.v + k.v) with hl | hl
          ·exact out' hl (h.2 hl)
          ·exact inn hl (h.1 hl)
      ·exact h.elim
     ·exact h.elim
  ·exact h.elim
 ·exact h.elim
end
end Go.Ev
