/-
  Part of the engine that the claim is proved with: it states nothing of the document by itself.
-/
import Derived.Test.YtpopdemanadllaaGreatDoorCoreSeS

namespace Go.Ev
section
variable {P : Program} {base : Nat} {H0 : AHeap × Sig} {ν : Nu} {σ : Sig} {S : SS} {F : AFrame} {H : AHeap} {K : V → SS → Prop} {Kv : V → Prop}
theorem VRel.srcA (hr : SR P base H0 ν σ S F H) {e ts : TypeId} {inf : TypeInfo} {x : V} {x' : Value} {K : NL → List D → Prop} (hi : P.info? e = some inf) (h0 : 0 < inf.size) (hts : P.underlying ts = some (.slice e) ∨ P.underlying ts = some .string) (h : srcS P S e ts x K) (hx : VRel P σ ν x x') :
  ∃ n l row, K n l ∧ srcA H inf.size x' = some (n.v, row) ∧ RowR P σ e inf.size l row ∧ l.length = n.v := by
 have hst : sizeT P e = some inf.size := by unfold sizeT; rw [hi]; rfl
 unfold srcS at h
 have one : (isU8 P e && sizeIs1 P e) = true → P.underlying e = some (.int .u8) ∧ inf.size = 1 := fun hc => by
  simp only [Bool.and_eq_true] at hc
  refine ⟨by have := hc.1; unfold isU8 at this; split at this <;> simp_all, ?_⟩
  have := hc.2
  unfold sizeIs1 at this
  rw [hst] at this
  exact Nat.eq_of_beq_eq_true this
 have str : ∀ s : List UInt8, P.underlying e = some (.int .u8) ∧ inf.size = 1 → Ev.srcA H inf.size (.string ⟨⟨s⟩⟩) = some (s.length, s.map fun b => Value.int .u8 b.toNat) ∧ RowR P σ e inf.size (strD s) (s.map fun b => Value.int .u8 b.toNat) ∧ (strD s).length = s.length := fun s ⟨hu, h1⟩ => by
  refine ⟨by unfold Ev.srcA; rw [h1]; rfl, ⟨by simp [strD, h1], fun j d hj => ?_⟩, by simp [strD]⟩
  unfold strD at hj
  rw [List.getElem?_map] at hj
  cases hb : s[j]? with
  | none => rw [hb] at hj; cases hj
  | some b =>
   rw [hb] at hj
   cases hj
   have hd : (List.drop (j * inf.size) (s.map fun b => Value.int .u8 b.toNat)).take inf.size = [Value.int .u8 b.toNat] := by
    rw [h1, Nat.mul_one]
    have hl : j < s.length := (List.getElem?_eq_some_iff.1 hb).1
    rw [List.drop_eq_getElem_cons (by simpa using hl)]
    have : s[j] = b := (List.getElem?_eq_some_iff.1 hb).2
    simp [this]
   rw [hd]
   exact .int hu (by rw [hst, h1])
 split at h
 ·rename_i s
  cases hc : (isU8 P e && sizeIs1 P e) with
  | false => rw [hc] at h; exact h.elim
  | true =>
   rw [hc] at h
   cases hx with
   | str => obtain ⟨q1, q2, q3⟩ := str s (one hc); exact ⟨_, _, _, h, q1, q2, q3⟩
 ·rename_i s
  cases hc : (isU8 P e && sizeIs1 P e) with
  | false => rw [hc] at h; exact h.elim
  | true =>
   rw [hc] at h
   cases hx with
   | val _ => obtain ⟨q1, q2, q3⟩ := str s.data.toList (one hc); exact ⟨_, _, _, h, q1, q2, q3⟩
 ·cases hx with
  | val _ => exact ⟨_, _, [], h, by simp [Ev.srcA, NL.v], .nil, rfl⟩
 ·rename_i b o n c
  split at h
  ·rename_i e' l hb
   cases he : (Nat.beq e e' && true) with
   | false => simp only [Bool.and_true] at he; rw [he] at h; exact h.elim
   | true =>
    simp only [Bool.and_true] at he
    have := Nat.eq_of_beq_eq_true he
    subst this
    rw [he] at h
    obtain ⟨hle, h⟩ := h
    obtain ⟨i, z, hν, hB⟩ := hr.blkT _ _ hb
    obtain ⟨cs, m, hg, hs, hz0, hlen, hrd⟩ := hB
    have hz : z = inf.size := by rw [hst] at hs; exact (Option.some.inj hs).symm
    subst hz
    have hrow : RowR P σ e inf.size l cs := ⟨hlen, hrd⟩
    have hmul : (o.v + n.v) * inf.size ≤ l.length * inf.size := Nat.mul_le_mul_right _ hle
    rw [Nat.add_mul] at hmul
    have hc : H.cells i = some cs := by unfold AHeap.cells; rw [hg]
    have key : ∀ cap off, (n.v ≠ 0 → off = o.v * inf.size) → Ev.srcA H inf.size (.slice (some ⟨i, off, none⟩) n.v cap) = some (n.v, ((cs.drop (o.v * inf.size)).take (n.v * inf.size))) := by
     intro cap off hoff
     unfold Ev.srcA
     cases hn : Nat.beq n.v 0 with
     | true => have := Nat.eq_of_beq_eq_true hn; simp [this]
     | false =>
      have hne : n.v ≠ 0 := fun e => by rw [e] at hn; cases hn
      simp only [hc]
      rw [hn, hoff hne, Nat.ble_eq_true_of_le (by omega)]; rfl
    refine ⟨n, _, (cs.drop (o.v * inf.size)).take (n.v * inf.size), h, ?_, (hrow.drop o.v).take n.v, by rw [List.length_take, List.length_drop]; omega⟩
    cases hx with
    | slcU hν' => rw [hν] at hν'; cases hν'; exact key _ _ (fun _ => rfl)
    | slc hν' hc' hn' ho =>
     rw [hν] at hν'; cases hν'
     exact key _ _ (fun hne => by rcases ho with ho | ho; exact ho; omega)
  ·exact h.elim
 ·rename_i t d
  cases ht : Nat.beq t ts with
  | false => rw [ht] at h; exact h.elim
  | true =>
   have := Nat.eq_of_beq_eq_true ht
   subst this
   rw [ht] at h
   cases hx with
   | dat hu hrd =>
    have hts : P.underlying t = some (.slice e) := by rcases hts with hts | hts; exact hts; rw [hu] at hts; cases hts
    rcases hrd.sliceInv hts with ⟨rfl, hcs⟩ | ⟨l, i, o, c, sz, cs', rfl, hcs, hsz, hσ, hle, hc, hel⟩
    ·cases hcs; exact ⟨_, _, [], h, by simp [Ev.srcA, NL.v, D.len, D.asList], .nil, rfl⟩
    ·cases hcs
     have hz : sz = inf.size := by rw [hst] at hsz; exact (Option.some.inj hsz).symm
     subst hz
     obtain ⟨_, e1, m, ro, hg⟩ := hr.sig _ _ hσ
     have hcl : H.cells i = some cs' := by unfold AHeap.cells; rw [hg]
     refine ⟨.sym l.length, l, (cs'.drop o).take (l.length * inf.size), h, ?_, ⟨by rw [List.length_take, List.length_drop]; omega, fun j d hj => ?_⟩, rfl⟩
     ·unfold Ev.srcA
      cases hn : Nat.beq l.length 0 with
      | true => have := Nat.eq_of_beq_eq_true hn; simp [this, NL.v]
      | false => simp only [hcl]; rw [hn, Nat.ble_eq_true_of_le hle]; rfl
     ·have hjl : j < l.length := (List.getElem?_eq_some_iff.1 hj).1
      have hm : (j + 1) * inf.size ≤ l.length * inf.size := Nat.mul_le_mul_right _ hjl
      rw [Nat.succ_mul] at hm
      have := hel j d hj
      rw [List.drop_take, List.drop_drop, List.take_take, Nat.min_eq_left (by omega)]
      exact this
 ·exact h.elim
theorem SR.pushG (hr : SR P base H0 ν σ S F H) {b i z : Nat} {k : SB} (hk : S.hp.get b = some k) (hν : ν (Bid.top b) = some (i, z)) (hro : S.ro ≤ b) {k' : SB} {cs1 new : List Value} {e : TypeId} {esz : Nat}
  (hb : ∀ ν', XN ν ν' → BRel P σ ν' z k' (some (.cells new e esz (some i) false)))
  (hat : ∀ x k2, At ((S.write b none).alloc k') x k2 → (x = .top S.nx ∧ k' = k2) ∨ (x ≠ .top S.nx ∧ x ≠ .top b ∧ At S x k2 ∧ (Wr ((S.write b none).alloc k') x → Wr S x))) (hvers : Vers ((S.write b none).alloc k')) :
  SR P base H0 (fun b => if b = S.nx then some (H.next, z) else ν b) σ ((S.write b none).alloc k') F (((H.kill (H.mate i)).write i (some (.cells cs1 e esz (some H.next) false))).alloc (.cells new e esz (some i) false)) := by
 have hx := xnew hr z
 have hn1 : ((H.kill (H.mate i)).write i (some (.cells cs1 e esz (some H.next) false))).next = H.next := AHeap.next_kill _ _
 have hilt := hr.lt b i z hν
 have hget : ∀ j, (((H.kill (H.mate i)).write i (some (.cells cs1 e esz (some H.next) false))).alloc (.cells new e esz (some i) false)).get j =
   if j = H.next then some (.cells new e esz (some i) false) else if j = i then some (.cells cs1 e esz (some H.next) false) else if H.mate i = some j then none else H.get j := fun j => by
  rw [AHeap.get_alloc, hn1, AHeap.get_write, AHeap.get_kill]
 have hnx : (((H.kill (H.mate i)).write i (some (.cells cs1 e esz (some H.next) false))).alloc (.cells new e esz (some i) false)).next = H.next + 1 := by
  show Nat.succ _ = _; rw [hn1]
 have hbi := hr.ownT hk hro hν
 have hmate : ∀ m, H.mate i = some m → base ≤ m ∧ m < H.next ∧ σ m = none ∧ ∀ b' k' z', At S b' k' → ν b' ≠ some (m, z') := fun m hm => let q := hr.mates (.top b) k i z m hk hν hm; ⟨q.1 hro, q.2⟩
 have hne : ∀ (b : Bid) i z', ν b = some (i, z') → b ≠ S.nx ∧ i ≠ H.next := fun b i z' hb => by
  refine ⟨fun e => ?_, fun e => ?_⟩
  ·rw [e, hr.dom _ (Nat.le_refl _)] at hb; cases hb
  ·have := hr.lt _ _ _ hb; omega
 have hkeep : ∀ (b' : Bid) i' z' k2, At S b' k2 → ν b' = some (i', z') → b' ≠ b → (((H.kill (H.mate i)).write i (some (.cells cs1 e esz (some H.next) false))).alloc (.cells new e esz (some i) false)).get i' = H.get i' := fun b' i' z' k2 h2 h3 hne' => by
  rw [hget, if_neg (hne _ _ _ h3).2, if_neg (fun e1 => hne' (hr.inj _ _ _ _ _ _ _ h2 (show At S (.top b) k from hk) (e1 ▸ h3) hν)), if_neg (fun hm => (hmate _ hm).2.2.2 b' k2 z' h2 h3)]
 refine ⟨fun t v h => (hr.fr t v h).mono (.refl _) hx, hr.fsz, hr.top, hr.mks.mono hx, ?_, ?_, ?_, ?_, ?_, ?_, ?_, ?_, ?_, ?_, by rw [hnx]; have := hr.nxt; omega, Nat.le_succ_of_le hr.role, hr.sb, hvers⟩
 ·intro b' k2 h
  rcases hat b' k2 h with ⟨e1, e2⟩ | ⟨e1, e2, h, _⟩
  ·subst e1 e2
   exact ⟨H.next, z, if_pos rfl, by rw [hget, if_pos rfl]; exact hb _ hx⟩
  ·obtain ⟨i', z', h1, h2⟩ := hr.blk b' k2 h
   exact ⟨i', z', by rw [if_neg e1]; exact h1, by rw [hkeep b' i' z' k2 h h1 e2]; exact h2.mono (.refl _) hx⟩
 ·intro b' i' z' h
  rw [hnx]
  by_cases e1 : b' = S.nx
  ·simp only [e1, if_true, Option.some.injEq, Prod.mk.injEq] at h; omega
  ·simp only [if_neg e1] at h; have := hr.lt _ _ _ h; omega
 ·intro b' h
  have : S.nx + 1 ≤ b'.id := h
  simp only [if_neg (show b' ≠ S.nx from fun e => by subst e; simp only [Bid.id] at this; omega)]
  exact hr.dom b' (by omega)
 ·intro b1 b2 k1 k2 i' z1 z2 a1 a2 h h'
  rcases hat _ _ a1 with ⟨e1, _⟩ | ⟨e1, _, a1, _⟩ <;> rcases hat _ _ a2 with ⟨e2, _⟩ | ⟨e2, _, a2, _⟩
  ·rw [e1, e2]
  ·simp only [e1, if_true, Option.some.injEq, Prod.mk.injEq] at h; simp only [if_neg e2] at h'
   exact absurd h.1.symm (hne _ _ _ h').2
  ·simp only [e2, if_true, Option.some.injEq, Prod.mk.injEq] at h'; simp only [if_neg e1] at h
   exact absurd h'.1.symm (hne _ _ _ h).2
  ·simp only [if_neg e1] at h; simp only [if_neg e2] at h'; exact hr.inj _ _ _ _ _ _ _ a1 a2 h h'
 ·intro b' k2 i' z' a hw h
  rcases hat _ _ a with ⟨e1, _⟩ | ⟨e1, _, a, aw⟩
  ·simp only [e1, if_true, Option.some.injEq, Prod.mk.injEq] at h; have := hr.nxt; omega
  ·simp only [if_neg e1] at h; exact hr.own b' k2 i' z' a (aw hw) h
 ·intro i' c h
  obtain ⟨h1, h2⟩ := hr.sig i' c h
  refine ⟨by rw [hnx]; omega, ?_⟩
  rw [hget, if_neg (by omega), if_neg (fun e1 => by have := hr.apart b k i z hk hν; rw [← e1, h] at this; cases this), if_neg (fun hm => by rw [(hmate _ hm).2.2.1] at h; cases h)]
  exact h2
 ·intro b' k2 i' z' h h'
  rcases hat _ _ h with ⟨e1, _⟩ | ⟨e1, _, h, _⟩
  ·simp only [e1, if_true, Option.some.injEq, Prod.mk.injEq] at h'
   cases hs : σ i' with
   | none => rfl
   | some c => have := (hr.sig i' c hs).1; omega
  ·simp only [if_neg e1] at h'; exact hr.apart b' k2 i' z' h h'
 ·intro b' k2 i' z' m h h' hm
  rw [hnx]
  rcases hat _ _ h with ⟨e1, _⟩ | ⟨e1, e2, h, aw⟩
  ·simp only [e1, if_true, Option.some.injEq, Prod.mk.injEq] at h'
   rw [← h'.1, mate_cells (by rw [hget, if_pos rfl])] at hm
   cases hm
   refine ⟨fun _ => hbi, by omega, hr.apart b k i z hk hν, fun b2 k4 z2 h4 hν2 => ?_⟩
   rcases hat _ _ h4 with ⟨e3, _⟩ | ⟨e3, e4, h4, _⟩
   ·simp only [e3, if_true, Option.some.injEq, Prod.mk.injEq] at hν2; omega
   ·simp only [if_neg e3] at hν2
    exact e4 (hr.inj _ _ _ _ _ _ _ h4 (show At S (.top b) k from hk) hν2 hν)
  ·simp only [if_neg e1] at h'
   rw [AHeap.mate_congr (hkeep b' i' z' k2 h h' e2)] at hm
   obtain ⟨q1, q2, q3, q4⟩ := hr.mates b' k2 i' z' m h h' hm
   refine ⟨fun hw => q1 (aw hw), by omega, q3, fun b2 k4 z2 h4 hν2 => ?_⟩
   rcases hat _ _ h4 with ⟨e3, _⟩ | ⟨e3, e4, h4, _⟩
   ·simp only [e3, if_true, Option.some.injEq, Prod.mk.injEq] at hν2; omega
   ·simp only [if_neg e3] at hν2
    exact q4 b2 k4 z2 h4 hν2
 ·have h3 : base ≤ (H.kill (H.mate i)).wlow := by
   cases hm : H.mate i with
   | none => exact hr.wl
   | some m =>
    have := (hmate m hm).1
    simp only [AHeap.kill, AHeap.write]
    cases hbl : Nat.ble H.wlow m with
    | true => exact hr.wl
    | false => simpa using this
  simp only [AHeap.alloc, AHeap.write]
  cases hbl : Nat.ble (H.kill (H.mate i)).wlow i with
  | true => exact h3
  | false => exact hbi
 ·intro j hj
  have := hr.nxt
  rw [hget, if_neg (by omega), if_neg (by omega), if_neg (fun hm => by have := (hmate _ hm).1; omega)]
  exact hr.old j hj
theorem SR.push (hr : SR P base H0 ν σ S F H) {b i z : Nat} {k : SB} (hk : S.hp.get b = some k) (hν : ν (Bid.top b) = some (i, z)) (hro : S.ro ≤ b) {k' : SB} {cs1 new : List Value} {e : TypeId} {esz : Nat}
  (hb : ∀ ν', XN ν ν' → BRel P σ ν' z k' (some (.cells new e esz (some i) false))) (hno : k'.isOwn = false := by rfl) :
  SR P base H0 (fun b => if b = S.nx then some (H.next, z) else ν b) σ ((S.write b none).alloc k') F (((H.kill (H.mate i)).write i (some (.cells cs1 e esz (some H.next) false))).alloc (.cells new e esz (some i) false)) := by
 have hg1 : ∀ b', (S.write b none).hp.get b' = if b' = b then none else S.hp.get b' := fun b' => T.get_put _ _ _ _
 have hg2 : ∀ b', ((S.write b none).alloc k').hp.get b' = if b' = S.nx then some k' else (S.write b none).hp.get b' := fun b' => T.get_put _ _ _ _
 refine hr.pushG hk hν hro hb (fun x k2 h => ?_) (Vers.put (S := S.write b none) (hr.vers.put hg1 noOwn.none (Nat.le_refl _)) hg2 (noOwn.of hno) (Nat.le_succ _))
 rcases At.put (S := S.write b none) hg2 (noOwn.of hno) rfl h with ⟨a, b⟩ | ⟨a1, h, a2⟩
 ·exact .inl ⟨a, by cases b; rfl⟩
 ·rcases At.put (S := S) hg1 noOwn.none rfl h with ⟨_, b⟩ | ⟨b1, h, b2⟩
  ·cases b
  ·exact .inr ⟨a1, b1, h, fun hw => b2 (a2 hw)⟩
theorem caseNL_ok {n : NL} {A B : Prop} (h : caseNL n A B) : (n.v = 0 ∧ A) ∨ (0 < n.v ∧ B) := by
 cases n with
 | lit n =>
  simp only [caseNL] at h
  cases hn : Nat.beq n 0 with
  | true => rw [hn] at h; exact .inl ⟨Nat.eq_of_beq_eq_true hn, h⟩
  | false =>
   rw [hn] at h
   refine .inr ⟨?_, h⟩
   rcases Nat.eq_zero_or_pos n with e | e
   ·rw [e] at hn; cases hn
   ·exact e
 | sym n =>
  rcases Nat.eq_zero_or_pos n with e | e
  ·exact .inl ⟨e, h.1 e⟩
  ·exact .inr ⟨e, h.2 e⟩
theorem caseNP_ok {pos : Bool} {n : NL} {A B : Prop} (h : caseNP pos n A B) : (n.v = 0 ∧ A) ∨ (0 < n.v ∧ B) := by
 unfold caseNP at h
 cases pos with
 | true => exact .inr h
 | false => exact caseNL_ok h
theorem symAppend_ok {t t2 : TypeId} {s x : V} {s' x' : Value} (hr : SR P base H0 ν σ S F H) (h : symAppend P S t t2 s x K) (hs : VRel P σ ν s s') (hx : VRel P σ ν x x') : OpR P base H0 ν σ S F (appendA P H t s' x') K := by
 unfold symAppend at h
 split at h
 ·rename_i e hu
  split at h
  rotate_left
  ·exact h.elim
  rename_i e2 hu2
  split at h
  ·rename_i inf hi
   cases hc : (Nat.beq e e2 && zsizeOK inf && Nat.ble inf.bytes 4096 && Nat.blt 0 inf.bytes && Nat.blt 0 inf.size) with
   | false => rw [hc] at h; exact h.elim
   | true =>
    rw [hc] at h
    simp only [cond_true] at h
    simp only [Bool.and_eq_true] at hc
    obtain ⟨⟨⟨⟨c1, c2⟩, c3⟩, c4⟩, c5⟩ := hc
    have := Nat.eq_of_beq_eq_true c1
    subst this
    have h0 := blt_lt c5
    have hst : sizeT P e = some inf.size := by unfold sizeT; rw [hi]; rfl
    unfold zsizeOK at c2
    cases hz : inf.zero with
    | none => rw [hz] at c2; cases c2
    | some z =>
    rw [hz] at c2
    have hu2' : P.underlying t2 = some (.slice e) ∨ P.underlying t2 = some .string := by
     unfold srcT at hu2
     split at hu2
     ·cases hu2; left; assumption
     ·right; assumption
     ·cases hu2
    obtain ⟨k, new, row, h', hsrc, hrow, hkl⟩ := VRel.srcA hr hi h0 hu2' h hx
    clear h
    have hnl : row.length = k.v * inf.size := by rw [hrow.1, hkl]
    have happ : appendA P H t s' x' = appOnto P H e inf.size s' k.v row := by
     unfold appendA
     simp only [hu, hi, hz, c2, c3, c4, Bool.and_self, cond_true, hsrc]
    rw [happ]
    have hpos : Nat.blt 0 inf.size = true := c5
    have h'' := caseNP_ok h'
    clear h'
    rcases h'' with ⟨hk0, h⟩ | ⟨hk0, h⟩
    ·-- nothing is appended
     have e0 : Nat.beq k.v 0 = true := by rw [hk0]; rfl
     have hsome : ∀ ad l c, appOnto P H e inf.size (.slice (some ⟨ad, l, none⟩) c 0) k.v row = appOnto P H e inf.size (.slice (some ⟨ad, l, none⟩) c 0) k.v row := fun _ _ _ => rfl
     have fin : ∀ s'', appOnto P H e inf.size s'' k.v row = some (s'', H) → s'' = s' → OpR P base H0 ν σ S F (appOnto P H e inf.size s' k.v row) K := fun s'' h1 h2 => by
      subst h2
      rw [h1]
      cases hq : isSlcV s with
      | false => rw [hq] at h; exact h.elim
      | true => rw [hq] at h; exact OpR.pure hr hs h
     have nilc : ∀ c, appOnto P H e inf.size (.slice none 0 c) k.v row = some (.slice none 0 c, H) := fun c => by simp only [appOnto, e0, Nat.beq_refl, cond_true]
     have somec : ∀ i o l c, appOnto P H e inf.size (.slice (some ⟨i, o, none⟩) l c) k.v row = some (.slice (some ⟨i, o, none⟩) l c, H) := fun i o l c => by simp only [appOnto, e0, cond_true]
     cases hq : isSlcV s with
     | false => rw [hq] at h; exact h.elim
     | true =>
      unfold isSlcV at hq
      split at hq
      ·cases hs with | val _ => exact fin _ (nilc 0) rfl
      ·cases hs with
       | slcU _ => exact fin _ (somec _ _ _ _) rfl
       | slc _ _ _ _ => exact fin _ (somec _ _ _ _) rfl
      ·cases hs with
       | dat ht hrd =>
        rcases hrd.sliceInv ht with ⟨_, hcs⟩ | ⟨l, i, o, c, sz, cs', _, hcs, _⟩
        ·cases hcs; exact fin _ (nilc 0) rfl
        ·cases hcs; exact fin _ (somec _ _ _ _) rfl
      ·cases hq
    ·have e0 : Nat.beq k.v 0 = false := beqF (by omega)
     split at h
     ·-- onto nil
      obtain ⟨hbig, h⟩ := h
      cases hs with
      | val _ =>
      have ha : appOnto P H e inf.size (.slice none 0 0) k.v row = some (.slice (some ⟨H.next, 0, none⟩) k.v UNK, H.alloc (.cells row e inf.size none false)) := by
       simp only [appOnto, e0, Nat.beq_refl, cond_true, cond_false, Nat.ble_eq_true_of_le hbig, appNew, newRowA_eq hrow.one]
      rw [ha]
      refine ⟨_, _, rfl, _, _, _, σ, h, hr.alloc (z := inf.size) (k := .arr e new) (fun ν' hν => .arr hst h0 hrow), ?_, xnewn _ _ _, .refl _, rfl, .alloc _ _⟩
      have := VRel.slcU (P := P) (σ := σ) (ν := fun b => if b = S.nx then some (H.next, inf.size) else ν b) (b := S.nx) (o := .lit 0) (n := k) (if_pos rfl)
      simpa [NL.v] using this
     ·rename_i b o n c
      split at h
      ·rename_i e' l hb
       cases he : Nat.beq e e' with
       | false => rw [he] at h; exact h.elim
       | true =>
        have := Nat.eq_of_beq_eq_true he
        subst this
        rw [he] at h
        simp only [cond_true] at h
        obtain ⟨hle, hbig, h⟩ := h
        obtain ⟨i, zz, hν, hB⟩ := hr.blkT _ _ hb
        obtain ⟨cs, m, hg, hsz, hz0, hlen, hrd⟩ := hB
        have hzz : zz = inf.size := by rw [hst] at hsz; exact (Option.some.inj hsz).symm
        subst hzz
        have hR : RowR P σ e inf.size l cs := ⟨hlen, hrd⟩
        have hmul : (o.v + n.v) * inf.size ≤ l.length * inf.size := Nat.mul_le_mul_right _ hle
        rw [Nat.add_mul] at hmul
        have hold : RowR P σ e inf.size ((l.drop o.v).take n.v) ((cs.drop (o.v * inf.size)).take (n.v * inf.size)) := (hR.drop o.v).take n.v
        have hout := hold.append hrow
        have hb1 := Nat.beq_refl e
        have hb2 := Nat.beq_refl inf.size
        have hb3 := Nat.ble_eq_true_of_le hbig
        -- anew
        have out : ∀ (cap : Nat) (off : Nat), cap ≠ UNK → cap < n.v + k.v → (n.v ≠ 0 → off = o.v * inf.size) → off ≤ o.v * inf.size → K (.slc S.nx (.lit 0) (n.add k) none) (S.alloc (.arr e ((l.drop o.v).take n.v ++ new))) →
          OpR P base H0 ν σ S F (appOnto P H e inf.size (.slice (some ⟨i, off, none⟩) n.v cap) k.v row) K := by
         intro cap off hcu hgt hoff hoff2 h
         have hrw : (cs.drop off).take (n.v * inf.size) = (cs.drop (o.v * inf.size)).take (n.v * inf.size) := by
          rcases Nat.eq_zero_or_pos n.v with hn0 | hn0
          ·rw [hn0]; simp
          ·rw [hoff (by omega)]
         have ha : appOnto P H e inf.size (.slice (some ⟨i, off, none⟩) n.v cap) k.v row = some (.slice (some ⟨H.next, 0, none⟩) (n.v + k.v) UNK, H.alloc (.cells ((cs.drop (o.v * inf.size)).take (n.v * inf.size) ++ row) e inf.size none false)) := by
          have hcap : Nat.beq cap UNK = false := beqF hcu
          have hcap2 : Nat.ble (n.v + k.v) cap = false := by
           cases hq : Nat.ble (n.v + k.v) cap with
           | false => rfl
           | true => have := Nat.le_of_ble_eq_true hq; omega
          simp only [appOnto, e0, cond_false, hg, hb1, hb2, hb3, Nat.ble_eq_true_of_le (show off + n.v * inf.size ≤ cs.length by omega), Bool.and_self, cond_true, hcap, hcap2, appNew, hrw, newRowA_eq hout.one]
         rw [ha]
         refine ⟨_, _, rfl, _, _, _, σ, h, hr.alloc (z := inf.size) (k := .arr e _) (fun ν' hν => .arr hst h0 hout), ?_, xnewn _ _ _, .refl _, rfl, .alloc _ _⟩
         have := VRel.slcU (P := P) (σ := σ) (ν := fun b => if b = S.nx then some (H.next, inf.size) else ν b) (b := S.nx) (o := .lit 0) (n := n.add k) (if_pos rfl)
         rw [NL.v_add] at this; simpa [show (NL.lit 0).v = 0 from rfl] using this
        split at h
        ·-- it is not known how much room there is
         cases hro : Nat.ble S.ro b with
         | false => rw [hro] at h; exact h.elim
         | true =>
          rw [hro] at h
          have hro' := Nat.le_of_ble_eq_true hro
          cases hs with
          | slcU hν' =>
          rw [hν] at hν'; cases hν'
          have hm := mate_cells hg
          have hkn : ({ (H.kill m) with next := H.next } : AHeap) = H.kill m := by cases m <;> rfl
          have ha : appOnto P H e inf.size (.slice (some ⟨i, o.v * inf.size, none⟩) n.v UNK) k.v row = some (.slice (some ⟨H.next, 0, none⟩) (n.v + k.v) UNK,
            ((H.kill (H.mate i)).write i (some (.cells (cs.take (o.v * inf.size + n.v * inf.size)) e inf.size (some H.next) false))).alloc (.cells ((cs.drop (o.v * inf.size)).take (n.v * inf.size) ++ row) e inf.size (some i) false)) := by
           simp only [appOnto, e0, cond_false, hg, hb1, hb2, hb3, Nat.ble_eq_true_of_le (show o.v * inf.size + n.v * inf.size ≤ cs.length by omega), Bool.and_self, cond_true, Nat.beq_refl UNK, appMate, forceNat_eq, hout.one, hpos, hm, hkn]
          rw [ha]
          refine ⟨_, _, rfl, _, _, _, σ, h, hr.push hb hν hro' (k' := .arr e _) (fun ν' hν => ⟨_, some i, rfl, hst, h0, hout.1, hout.2⟩), ?_, xnewn _ _ _, .refl _, rfl, .push _ _ _ hro'⟩
          have := VRel.slcU (P := P) (σ := σ) (ν := fun b => if b = S.nx then some (H.next, inf.size) else ν b) (b := S.nx) (o := .lit 0) (n := n.add k) (if_pos rfl)
          rw [NL.v_add] at this; simpa [show (NL.lit 0).v = 0 from rfl] using this
        ·rename_i c0
         cases hs with
         | slc hν' hcu hnc ho =>
         rename_i zq off
         rw [hν] at hν'; cases hν'
         have inn : n.v + k.v ≤ c0.v → (o.v + n.v + k.v ≤ l.length ∧ cond (Nat.ble S.ro b) (K (.slc b o (n.add k) (some c0)) (S.write b (some (.arr e (l.take (o.v + n.v) ++ new ++ l.drop (o.v + n.v + k.v)))))) False) → OpR P base H0 ν σ S F (appOnto P H e inf.size (.slice (some ⟨i, off, none⟩) n.v c0.v) k.v row) K := by
          rintro hcap ⟨hroom, h⟩
          cases hro : Nat.ble S.ro b with
          | false => rw [hro] at h; exact h.elim
          | true =>
           rw [hro] at h
           have hro' := Nat.le_of_ble_eq_true hro
           have hoff : off = o.v * inf.size := by rcases ho with ho | ho; exact ho; omega
           subst hoff
           have hm2 : (o.v + n.v + k.v) * inf.size ≤ l.length * inf.size := Nat.mul_le_mul_right _ hroom
           rw [Nat.add_mul, Nat.add_mul] at hm2
           have hw := writeCells_eq (o := o.v * inf.size + n.v * inf.size) (vs := row) hg (by rw [hnl]; omega) hrow.one
           have ha : appOnto P H e inf.size (.slice (some ⟨i, o.v * inf.size, none⟩) n.v c0.v) k.v row = some (.slice (some ⟨i, o.v * inf.size, none⟩) (n.v + k.v) c0.v, (H.kill (H.mate i)).write i (some (.cells (spliceL cs (o.v * inf.size + n.v * inf.size) row) e inf.size none false))) := by
            have hcap' : Nat.beq c0.v UNK = false := beqF (by omega)
            simp only [appOnto, e0, cond_false, hg, hb1, hb2, hb3, Nat.ble_eq_true_of_le (show o.v * inf.size + n.v * inf.size ≤ cs.length by omega), Bool.and_self, cond_true, hcap', Nat.ble_eq_true_of_le hcap, hw]
           rw [ha]
           have hnew : RowR P σ e inf.size (l.take (o.v + n.v) ++ new ++ l.drop (o.v + n.v + k.v)) (spliceL cs (o.v * inf.size + n.v * inf.size) row) := by
            unfold spliceL
            rw [hnl, show o.v * inf.size + n.v * inf.size + k.v * inf.size = (o.v + n.v + k.v) * inf.size by rw [Nat.add_mul, Nat.add_mul], show o.v * inf.size + n.v * inf.size = (o.v + n.v) * inf.size by rw [Nat.add_mul]]
            exact ((hR.take _).append hrow).append (hR.drop _)
           refine ⟨_, _, rfl, _, _, ν, σ, h, hr.write hb hν hro' (k' := .arr e _) (.arr hst h0 hnew), ?_, .refl _, .refl _, rfl, .write _ _ _ hro'⟩
           have := VRel.slc (P := P) (σ := σ) (n := n.add k) (o := o) (c := c0) hν hcu (by rw [NL.v_add]; exact hcap) (.inl rfl)
           simpa [NL.v_add] using this
         have out' : c0.v < n.v + k.v → K (.slc S.nx (.lit 0) (n.add k) none) (S.alloc (.arr e ((l.drop o.v).take n.v ++ new))) → OpR P base H0 ν σ S F (appOnto P H e inf.size (.slice (some ⟨i, off, none⟩) n.v c0.v) k.v row) K := fun hlt h =>
          out c0.v _ (by omega) hlt (fun hne => by rcases ho with ho | ho; exact ho; omega) (by rcases ho with ho | ho; omega; exact ho.2) h
         split at h
         ·rename_i n1 k1 c1
          cases hq : Nat.ble (n1 + k1) c1 with
          | true => rw [hq] at h; exact inn (Nat.le_of_ble_eq_true hq) h
          | false =>
           rw [hq] at h
           refine out' ?_ h
           show c1 < n1 + k1
           rcases Nat.lt_or_ge c1 (n1 + k1) with hl | hl
           ·exact hl
           ·rw [Nat.ble_eq_true_of_le hl] at hq; cases hq
         ·rcases Nat.lt_or_ge c0.v (n.v + k.v) with hl | hl
          ·exact out' hl (h.2 hl)
          ·exact inn hl (h.1 hl)
      ·exact h.elim
     ·exact h.elim
  ·exact h.elim
 ·exact h.elim
theorem srcS_pos {e ts : TypeId} {x : V} {K : NL → List D → Prop} (h : srcS P S e ts x K) (hp : srcPos x) : srcS P S e ts x (fun k new => 0 < k.v ∧ K k new) := by
 cases x with
 | slc b o n c =>
  simp only [srcS] at h ⊢
  split at h
  ·rename_i e' l hb
   cases hc : Nat.beq e e' with
   | false => rw [hc] at h; exact h.elim
   | true => rw [hc] at h; exact ⟨h.1, hp, h.2⟩
  ·exact h
 | dat t d =>
  simp only [srcS] at h ⊢
  cases hc : Nat.beq t ts with
  | false => rw [hc] at h; exact h.elim
  | true => rw [hc] at h; exact ⟨hp, h⟩
 | _ => exact hp.elim
theorem SR.take (hr : SR P base H0 ν σ S F H) {b v : Nat} {e e' : TypeId} {l r : List D} {i : NL} {q y : Nat} (hb : S.hp.get b = some (.own v e e' l)) (hro : S.ro ≤ b) (hi : i.v < l.length) (hl : nthD l i.v = .list r) (hν : ν (.sub v i.v) = some (q, y)) :
  ∃ ν1, ν1 (Bid.top S.nx) = some (q, y) ∧ XN ν ν1 ∧ XNn S.nx ν ν1 ∧ SR P base H0 ν1 σ (takeS S b v e e' l i) F H := by
 have hl1 : l[i.v]? = some (.list r) := by rw [← hl]; simp [nthD, hi]
 have has : (nthD l i.v).asList = r := by rw [hl]; rfl
 let ν1 : Nu := fun x => if x = Bid.top S.nx then ν (.sub v i.v) else ν x
 have hx : XN ν ν1 := fun x c hx => by
  by_cases e1 : x = .top S.nx
  ·subst e1; rw [hr.dom _ (Nat.le_refl _)] at hx; cases hx
  ·show (if x = Bid.top S.nx then _ else _) = _
   rw [if_neg e1]; exact hx
 have hxn : XNn S.nx ν ν1 := fun x hx => if_neg (fun e1 => by subst e1; exact Nat.lt_irrefl _ hx)
 have hblt : b < S.nx := by
  obtain ⟨i, z, h1, _⟩ := hr.blkT _ _ hb
  rcases Nat.lt_or_ge b S.nx with hl | hl
  ·exact hl
  ·rw [hr.dom (.top b) hl] at h1; cases h1
 have hg : ∀ c, (takeS S b v e e' l i).hp.get c = if c = S.nx then some (.arr e' r) else if c = b then some (.own v e e' (l.set i.v (.int 0))) else S.hp.get c := fun c => by
  show T.get (T.put (T.put S.hp b _) S.nx _) c = _
  rw [T.get_put, T.get_put, has]
 let f : Bid → Bid := fun x => if x = Bid.top S.nx then .sub v i.v else x
 have hat : ∀ x k', At (takeS S b v e e' l i) x k' → (x = .top S.nx ∧ k' = .arr e' r) ∨ (x = .top b ∧ k' = .own v e e' (l.set i.v (.int 0))) ∨ (x ≠ .top S.nx ∧ x ≠ .top b ∧ x ≠ .sub v i.v ∧ At S x k' ∧ (Wr (takeS S b v e e' l i) x → Wr S x)) := fun x k' h => by
  cases x with
  | top c =>
   have h1 : (takeS S b v e e' l i).hp.get c = some k' := h
   rw [hg] at h1
   by_cases ec : c = S.nx
   ·rw [if_pos ec] at h1; exact .inl ⟨by rw [ec], by cases h1; rfl⟩
   ·rw [if_neg ec] at h1
    by_cases ec2 : c = b
    ·rw [if_pos ec2] at h1; exact .inr (.inl ⟨by rw [ec2], by cases h1; rfl⟩)
    ·rw [if_neg ec2] at h1
     exact .inr (.inr ⟨Bid.top_ne ec, Bid.top_ne ec2, fun h => (by cases h), h1, fun h => h⟩)
  | sub w j =>
   obtain ⟨c, q1, q2, l1, r1, h1, h2, h3⟩ := h
   rw [hg] at h1
   by_cases ec : c = S.nx
   ·rw [if_pos ec] at h1; cases h1
   ·rw [if_neg ec] at h1
    have hW : Wr (takeS S b v e e' l i) (.sub w j) → Wr S (.sub w j) := fun ⟨c2, a1, a2, a3, w1, w2⟩ => by
     rw [hg] at w1
     by_cases ec2 : c2 = S.nx
     ·rw [if_pos ec2] at w1; cases w1
     ·rw [if_neg ec2] at w1
      by_cases ec3 : c2 = b
      ·rw [if_pos ec3] at w1; cases w1; exact ⟨b, _, _, _, hb, hro⟩
      ·rw [if_neg ec3] at w1; exact ⟨c2, a1, a2, a3, w1, w2⟩
    by_cases ec2 : c = b
    ·rw [if_pos ec2] at h1; cases h1
     by_cases ej : i.v = j
     ·subst ej; rw [List.getElem?_set_self hi] at h2; cases h2
     ·rw [List.getElem?_set, if_neg ej] at h2
      exact .inr (.inr ⟨fun h => (by cases h), fun h => (by cases h), fun h => (by cases h; exact ej rfl), ⟨b, e, e', l, r1, hb, h2, h3⟩, hW⟩)
    ·rw [if_neg ec2] at h1
     exact .inr (.inr ⟨fun h => (by cases h), fun h => (by cases h), fun h => (by cases h; exact ec2 (hr.vers.1 _ _ _ _ _ _ _ _ _ h1 hb)), ⟨c, q1, q2, l1, r1, h1, h2, h3⟩, hW⟩)
 refine ⟨ν1, (if_pos rfl).trans hν, hx, hxn, hr.remap (fun t u h => (hr.fr t u h).mono (.refl _) hx) rfl f (fun x k' h => ?_) (fun x x' k k' h h' he => ?_) (fun x i1 z1 h => ?_) (fun x hx2 => ?_) (Nat.le_succ_of_le hr.role) ⟨fun c c' w e1 e2 l1 e3 e4 l2 q1 q2 => ?_, fun c w e1 e2 l1 q => ?_⟩ (hr.mks.mono hx)⟩
 ·rcases hat x k' h with ⟨rfl, rfl⟩ | ⟨rfl, rfl⟩ | ⟨h1, h2, _, h3, h4⟩
  ·refine ⟨.arr e' r, ?_, ?_, fun _ => ?_, fun _ _ _ h => h.mono (.refl _) hx⟩
   ·simp only [f, if_true]; exact ⟨b, e, e', l, r, hb, hl1, rfl⟩
   ·simp only [f, if_true]; exact if_pos rfl
   ·simp only [f, if_true]; exact ⟨b, e, e', l, hb, hro⟩
  ·have hfb : f (.top b) = .top b := if_neg (Bid.top_ne (by omega))
   rw [hfb]
   refine ⟨.own v e e' l, hb, if_neg (Bid.top_ne (by omega)), fun h => h, fun i1 z1 h1 hB => ?_⟩
   obtain ⟨cs', m, g1, g2, g3, g4, g5, g6⟩ := hB
   refine ⟨cs', m, g1, g2, g3, by rw [List.length_set]; exact g4, g5, fun j d hj => ?_⟩
   by_cases ej : i.v = j
   ·subst ej
    rw [List.getElem?_set_self hi] at hj; cases hj
    exact .inr (.inl ⟨_, rfl⟩)
   ·rw [List.getElem?_set, if_neg ej] at hj
    exact (g6 j d hj).mono hx
  ·have hfx : f x = x := if_neg h1
   rw [hfx]
   exact ⟨k', h3, if_neg h1, h4, fun _ _ _ h => h.mono (.refl _) hx⟩
 ·have key : ∀ y k, At (takeS S b v e e' l i) y k → y ≠ .top S.nx → y ≠ .sub v i.v := fun y k h hy => by
   rcases hat y k h with ⟨rfl, _⟩ | ⟨rfl, _⟩ | ⟨_, _, h2, _⟩
   ·exact absurd rfl hy
   ·exact fun h => by cases h
   ·exact h2
  by_cases e1 : x = .top S.nx <;> by_cases e2 : x' = .top S.nx
  ·rw [e1, e2]
  ·simp only [f, e1, e2, if_true, if_false] at he
   exact absurd he.symm (key x' k' h' e2)
  ·simp only [f, e1, e2, if_true, if_false] at he
   exact absurd he (key x k h e1)
  ·simpa only [f, e1, e2, if_false] using he
 ·have h' : (if x = Bid.top S.nx then ν (.sub v i.v) else ν x) = some (i1, z1) := h
  by_cases e1 : x = .top S.nx
  ·rw [if_pos e1] at h'; exact hr.lt _ _ _ h'
  ·rw [if_neg e1] at h'; exact hr.lt _ _ _ h'
 ·have : S.nx + 1 ≤ x.id := hx2
  show (if x = Bid.top S.nx then _ else _) = _
  rw [if_neg (fun e1 => by subst e1; simp only [Bid.id] at this; omega)]
  exact hr.dom x (by omega)
 ·rw [hg] at q1 q2
  by_cases ea : c = S.nx
  ·rw [if_pos ea] at q1; cases q1
  ·by_cases eb : c' = S.nx
   ·rw [if_pos eb] at q2; cases q2
   ·rw [if_neg ea] at q1; rw [if_neg eb] at q2
    by_cases ec : c = b <;> by_cases ec2 : c' = b
    ·rw [ec, ec2]
    ·rw [if_pos ec] at q1; rw [if_neg ec2] at q2; cases q1
     exact absurd (hr.vers.1 _ _ _ _ _ _ _ _ _ q2 hb) ec2
    ·rw [if_neg ec] at q1; rw [if_pos ec2] at q2; cases q2
     exact absurd (hr.vers.1 _ _ _ _ _ _ _ _ _ q1 hb) ec
    ·rw [if_neg ec] at q1; rw [if_neg ec2] at q2
     exact hr.vers.1 _ _ _ _ _ _ _ _ _ q1 q2
 ·rw [hg] at q
  show w < S.nx + 1
  by_cases ea : c = S.nx
  ·rw [if_pos ea] at q; cases q
  ·rw [if_neg ea] at q
   by_cases ec : c = b
   ·rw [if_pos ec] at q; cases q; have := hr.vers.2 _ _ _ _ _ hb; omega
   ·rw [if_neg ec] at q; have := hr.vers.2 _ _ _ _ _ q; omega
theorem SR.forget (hr : SR P base H0 ν σ S F H) {S' : SS} (hfr : S'.fr = S.fr) (hsz : S'.sz = S.sz) (hnx : S'.nx = S.nx) (hro : S'.ro = S.ro) (hg : ∀ c k, S'.hp.get c = some k → S.hp.get c = some k) (hmk : S'.mks = S.mks := by rfl) : SR P base H0 ν σ S' F H := by
 refine hr.remap (fun t v h => hr.fr t v (by rw [← hfr]; exact h)) hsz (fun x => x) (fun x k' h => ?_) (fun x x' k k' _ _ he => he) hr.lt (fun x hx => hr.dom x (by rw [← hnx]; exact hx)) (by rw [hro, hnx]; exact hr.role) ⟨fun c c' w e1 e2 l1 e3 e4 l2 q1 q2 => hr.vers.1 _ _ _ _ _ _ _ _ _ (hg _ _ q1) (hg _ _ q2), fun c w e1 e2 l1 q => by rw [hnx]; exact hr.vers.2 _ _ _ _ _ (hg _ _ q)⟩ (by rw [hmk]; exact hr.mks)
 refine ⟨k', ?_, rfl, ?_, fun _ _ _ h => h⟩
 ·cases x with
  | top c => exact hg _ _ h
  | sub w j => obtain ⟨c, q1, q2, l1, r1, h1, h2, h3⟩ := h; exact ⟨c, q1, q2, l1, r1, hg _ _ h1, h2, h3⟩
 ·cases x with
  | top c => intro h; have : S'.ro ≤ c := h; rw [hro] at this; exact this
  | sub w j => rintro ⟨c2, a1, a2, a3, w1, w2⟩; exact ⟨c2, a1, a2, a3, hg _ _ w1, by rw [hro] at w2; exact w2⟩
noncomputable def frzQ (S : SS) (ν : Nu) (σ : Sig) (H : AHeap) (w : Nat) : Sig := fun i =>
 match σ i with
 | some c => some c
 | none =>
  open Classical in
  if ∃ j k z, At S (.sub w j) k ∧ ν (.sub w j) = some (i, z) then
   (match H.get i with | some (.cells cs _ esz _ _) => some (cs, esz) | _ => none) else none
theorem SR.freezeSub (hr : SR P base H0 ν σ S F H) {b w : Nat} {e e' : TypeId} {l : List D} (hb : S.hp.get b = some (.own w e e' l)) (hro : S.ro ≤ b) (hh : noHole l) (hrt : isRowT P e) :
  XS σ (frzQ S ν σ H w) ∧ SR P base H0 ν (frzQ S ν σ H w) (S.write b (some (.arr e l))) F H := by
 have hx : XS σ (frzQ S ν σ H w) := fun j c hj => by unfold frzQ; rw [hj]
 have hin : ∀ j k i z cs e esz m ro, At S (.sub w j) k → ν (.sub w j) = some (i, z) → H.get i = some (.cells cs e esz m ro) → frzQ S ν σ H w i = some (cs, esz) := fun j k i z cs e esz m ro h2 h3 h4 => by
  unfold frzQ
  rw [hr.apart _ k i z h2 h3]
  simp only
  rw [if_pos ⟨j, k, z, h2, h3⟩, h4]
 have hof : ∀ i c, frzQ S ν σ H w i = some c → σ i = some c ∨ ∃ j k z e m ro, At S (.sub w j) k ∧ ν (.sub w j) = some (i, z) ∧ H.get i = some (.cells c.1 e c.2 m ro) := fun i c h => by
  unfold frzQ at h
  split at h
  ·rename_i c' hc; left; rw [hc]; exact h
  ·right
   split at h
   ·rename_i hex
    obtain ⟨j, k, z, h2, h3⟩ := hex
    split at h
    ·rename_i cs e esz m ro hg
     simp only [Option.some.injEq] at h
     subst h
     exact ⟨j, k, z, e, m, ro, h2, h3, hg⟩
    ·cases h
   ·cases h
 have hg : ∀ b', (S.write b (some (.arr e l))).hp.get b' = if b' = b then some (.arr e l) else S.hp.get b' := fun b' => T.get_put _ _ _ _
 have hno : noOwn (some (SB.arr e l)) := noOwn.of rfl
 -- what is known afterwards was known before, and is no row of the block's elements
 have hat : ∀ x k, At (S.write b (some (.arr e l))) x k → (∀ j, x ≠ .sub w j) ∧ (∃ k0, At S x k0) ∧ (Wr (S.write b (some (.arr e l))) x → Wr S x) ∧ ((x = .top b ∧ k = .arr e l) ∨ At S x k) := fun x k h => by
  refine ⟨fun j ej => ?_, ?_⟩
  ·subst ej
   obtain ⟨c, q1, q2, l1, r, g1, _, _⟩ := h
   rw [hg] at g1
   by_cases ec : c = b
   ·rw [if_pos ec] at g1; cases g1
   ·rw [if_neg ec] at g1
    exact ec (hr.vers.1 _ _ _ _ _ _ _ _ _ g1 hb)
  ·rcases At.put (S := S) (S' := S.write b (some (.arr e l))) hg hno rfl h with ⟨a, ek⟩ | ⟨_, a, aw⟩
   ·subst a; cases ek
    exact ⟨⟨_, hb⟩, fun _ => hro, .inl ⟨rfl, rfl⟩⟩
   ·exact ⟨⟨k, a⟩, aw, .inr a⟩
 have hnone : ∀ x k i z, At (S.write b (some (.arr e l))) x k → ν x = some (i, z) → frzQ S ν σ H w i = none := fun x k i z h hν => by
  obtain ⟨h1, ⟨k0, h0⟩, _⟩ := hat _ _ h
  cases hc : frzQ S ν σ H w i with
  | none => rfl
  | some c =>
   rcases hof i c hc with h2 | ⟨j, k', z', _, _, _, h2, h3, _⟩
   ·rw [hr.apart x k0 i z h0 hν] at h2; cases h2
   ·exact absurd (hr.inj _ _ _ _ _ _ _ h0 h2 hν h3) (h1 j)
 refine ⟨hx, ⟨fun t v h => (hr.fr t v h).mono hx (.refl _), hr.fsz, hr.top, hr.mks, ?_, hr.lt, hr.dom, fun x x' k1 k2 i1 z1 z2 a1 a2 h1 h2 => ?_, fun x k1 i1 z1 a hw h => ?_, ?_, hnone, ?_, hr.wl, hr.old, hr.nxt, hr.role, ?_, hr.vers.put (S' := S.write b (some (.arr e l))) hg hno (Nat.le_refl _)⟩⟩
 ·intro x k h
  obtain ⟨_, _, _, ⟨rfl, rfl⟩ | h⟩ := hat _ _ h
  ·obtain ⟨i, z, hν, hB⟩ := hr.blkT _ _ hb
   obtain ⟨cs, m, hgi, hz, h0, hlen, hone, hrd⟩ := hB
   refine ⟨i, z, hν, cs, m, hgi, hz, h0, hlen, fun j d hj => ?_⟩
   obtain ⟨hsl, hs1⟩ := hrt
   obtain ⟨e1, hu1⟩ : ∃ e1, P.underlying e = some (.slice e1) := by unfold isSliceT at hsl; split at hsl <;> simp_all
   have hst1 := sizeIs_ok hs1
   have hz1 : z = 1 := by rw [hst1] at hz; exact (Option.some.inj hz).symm
   subst hz1
   rw [Nat.mul_one]
   have hjl : j < cs.length := by have := (List.getElem?_eq_some_iff.1 hj).1; omega
   have hone1 : ∀ w, cs[j]? = some w → (cs.drop j).take 1 = [w] := fun w hw => by
    rw [List.getElem?_eq_getElem hjl] at hw
    simp only [Option.some.injEq] at hw
    rw [List.drop_eq_getElem_cons hjl]
    simp [hw]
   rcases hrd j d hj with ⟨h1, _, h2⟩ | ⟨n, h1⟩ | ⟨r, q, y, c, h1, _, h3, h4, h5, h6⟩
   ·subst h1
    rw [hone1 _ (h2 hsl)]
    exact .nil hu1 hst1
   ·subst h1
    exact absurd (List.mem_of_getElem? hj) (hh.out n)
   ·subst h1
    rw [hone1 _ h5]
    have hat2 : At S (.sub w j) (.arr e' r) := ⟨b, e, e', l, r, hb, hj, rfl⟩
    obtain ⟨i2, z2, hν2, hB2⟩ := hr.blk _ _ hat2
    rw [h4] at hν2; cases hν2
    obtain ⟨cs2, m2, hg2, hs2, h02, hlen2, hrd2⟩ := hB2
    exact .list h3 hst1 hs2 (hin _ _ _ _ _ _ _ _ _ hat2 h4 hg2) (by rw [Nat.zero_add, hlen2]; exact Nat.le_refl _) (by rcases h6 with h6 | h6; exact .inl h6; exact .inr ⟨by omega, h6.2⟩) (fun j2 d2 hj2 => by rw [Nat.zero_add]; exact (hrd2 j2 d2 hj2).mono hx)
  ·obtain ⟨i', z', h1, h2⟩ := hr.blk x k h
   exact ⟨i', z', h1, h2.mono hx (.refl _)⟩
 ·obtain ⟨_, ⟨k1', b1⟩, _⟩ := hat _ _ a1
  obtain ⟨_, ⟨k2', b2⟩, _⟩ := hat _ _ a2
  exact hr.inj _ _ _ _ _ _ _ b1 b2 h1 h2
 ·obtain ⟨_, ⟨k1', b1⟩, bw, _⟩ := hat _ _ a
  exact hr.own _ _ _ _ b1 (bw hw) h
 ·intro j c hj
  rcases hof j c hj with h1 | ⟨x', k', z', e, m, ro, h2, h3, h4⟩
  ·exact hr.sig j c h1
  ·exact ⟨hr.lt _ _ _ h3, e, m, ro, h4⟩
 ·intro x k i' z' m' h h' hm
  obtain ⟨_, ⟨k0, h0⟩, aw, _⟩ := hat _ _ h
  obtain ⟨q1, q2, q3, q4⟩ := hr.mates x k0 i' z' m' h0 h' hm
  refine ⟨fun hw => q1 (aw hw), q2, ?_, fun b2 k2 z2 hb2 => ?_⟩
  ·cases hc : frzQ S ν σ H w m' with
   | none => rfl
   | some c =>
    rcases hof m' c hc with h1 | ⟨x', k', z', _, _, _, h2, h3, _⟩
    ·rw [q3] at h1; cases h1
    ·exact absurd h3 (q4 _ _ _ h2)
  ·obtain ⟨_, ⟨k3, h3⟩, _⟩ := hat _ _ hb2
   exact q4 b2 k3 z2 h3
 ·refine ⟨fun j c hj hlt => ?_, hr.sb.2.mono hx⟩
  rcases hof j c hj with h1 | ⟨x', k', z', _, _, _, h2, h3, _⟩
  ·exact hr.sb.1 j c h1 hlt
  ·have hw : Wr S (.sub w x') := ⟨b, e, e', l, hb, hro⟩
   have := hr.own _ _ _ _ h2 hw h3
   omega
theorem symAppendO_ok {t t2 : TypeId} {s x : V} {s' x' : Value} (hr : SR P base H0 ν σ S F H) (h : symAppendO P S t t2 s x K) (hs : VRel P σ ν s s') (hx : VRel P σ ν x x') : OpR P base H0 ν σ S F (appendA P H t s' x') K := by
 unfold symAppendO at h
 split at h
 ·rename_i b v i n
  split at h
  ·rename_i v' e e' l hb
   cases hc : (Nat.beq v v' && Nat.ble S.ro b) with
   | false => rw [hc] at h; exact h.elim
   | true =>
    rw [hc] at h
    simp only [Bool.and_eq_true] at hc
    have e1 := Nat.eq_of_beq_eq_true hc.1
    subst e1
    have hro := Nat.le_of_ble_eq_true hc.2
    obtain ⟨hi, hn, ⟨r, hl⟩, hsp, h⟩ := h
    have hnr : n.v = r.length := by rw [hn, hl]; rfl
    cases hs with
    | osl hν hcap =>
    rename_i q y c
    obtain ⟨ν1, hq, hxn1, hxnn1, hr1⟩ := hr.take hb hro hi hl hν
    have hfin : ∀ {r}, OpR P base H0 ν1 σ (takeS S b v e e' l i) F r K → OpR P base H0 ν σ S F r K := fun {r} ho => by
     obtain ⟨v', h', g1, u, S', ν', σ', g2, g3, g4, g5, g6, g7, g8⟩ := ho
     exact ⟨v', h', g1, u, S', ν', σ', g2, g3, g4, hxnn1.trans g5 (Nat.le_succ _), g6, g7, ((Keeps.write _ _ _ hro).trans (Keeps.alloc _ _)).trans g8⟩
    rcases hcap with rfl | ⟨rfl, hcu⟩
    ·refine hfin (symAppend_ok hr1 h ?_ (hx.mono (.refl _) hxn1))
     have := VRel.slcU (P := P) (σ := σ) (ν := ν1) (b := S.nx) (o := .lit 0) (n := n) hq
     simpa [show (NL.lit 0).v = 0 from rfl] using this
    ·refine hfin ?_
     unfold symAppend at h
     split at h
     ·rename_i e1 hu
      split at h
      rotate_left
      ·exact h.elim
      rename_i e2 hu2
      split at h
      ·rename_i inf hinf
       cases hc : (Nat.beq e1 e2 && zsizeOK inf && Nat.ble inf.bytes 4096 && Nat.blt 0 inf.bytes && Nat.blt 0 inf.size) with
       | false => rw [hc] at h; exact h.elim
       | true =>
        rw [hc] at h
        simp only [cond_true] at h
        simp only [Bool.and_eq_true] at hc
        obtain ⟨⟨⟨⟨c1, c2⟩, c3⟩, c4⟩, c5⟩ := hc
        have := Nat.eq_of_beq_eq_true c1
        subst this
        have h0 := blt_lt c5
        have hst : sizeT P e1 = some inf.size := by unfold sizeT; rw [hinf]; rfl
        unfold zsizeOK at c2
        cases hz : inf.zero with
        | none => rw [hz] at c2; cases c2
        | some z =>
        rw [hz] at c2
        have hu2' : P.underlying t2 = some (.slice e1) ∨ P.underlying t2 = some .string := by
         unfold srcT at hu2
         split at hu2
         ·cases hu2; left; assumption
         ·right; assumption
         ·cases hu2
        obtain ⟨k, new, row, h', hsrc, hrow, hkl⟩ := VRel.srcA hr1 hinf h0 hu2' (srcS_pos h hsp) (hx.mono (.refl _) hxn1)
        clear h
        obtain ⟨hk0, h'⟩ := h'
        have happ : appendA P H t (.slice (some ⟨q, 0, none⟩) n.v n.v) x' = appOnto P H e1 inf.size (.slice (some ⟨q, 0, none⟩) n.v n.v) k.v row := by
         unfold appendA
         simp only [hu, hinf, hz, c2, c3, c4, Bool.and_self, cond_true, hsrc]
        rw [happ]
        have e0 : Nat.beq k.v 0 = false := beqF (by omega)
        rcases caseNP_ok h' with ⟨hk1, _⟩ | ⟨_, h⟩
        ·omega
        ·clear h'
         simp only [show (takeS S b v e e' l i).hp.get S.nx = some (.arr e' (nthD l i.v).asList) from by
          show T.get (T.put _ S.nx _) S.nx = _
          rw [T.get_put, if_pos rfl]] at h
         cases he : Nat.beq e1 e' with
         | false => rw [he] at h; exact h.elim
         | true =>
          have := Nat.eq_of_beq_eq_true he
          subst this
          rw [he] at h
          simp only [cond_true] at h
          obtain ⟨hle, hbig, h⟩ := h
          have hro1 : Nat.ble (takeS S b v e e1 l i).ro S.nx = true := Nat.ble_eq_true_of_le hr.role
          rw [hro1] at h
          simp only [cond_true] at h
          rw [hl] at h hle
          obtain ⟨i2, z2, hν2, hB2⟩ := hr1.blkT S.nx (.arr e1 (nthD l i.v).asList) (by
           show T.get (T.put _ S.nx _) S.nx = _
           rw [T.get_put, if_pos rfl])
          rw [hq] at hν2; cases hν2
          rw [hl] at hB2
          obtain ⟨cs, m, hg, hsz, hz0, hlen, hrd⟩ := hB2
          have hlen : cs.length = r.length * y := hlen
          have hyy : y = inf.size := by rw [hst] at hsz; exact (Option.some.inj hsz).symm
          subst hyy
          have hR : RowR P σ e1 inf.size r cs := ⟨hlen, hrd⟩
          have hfull : ((D.list r).asList.drop (NL.lit 0).v).take n.v = r := by
           show (r.drop 0).take n.v = r
           rw [List.drop_zero, hnr, List.take_length]
          rw [hfull] at h
          have hout := hR.append hrow
          have ha : appOnto P H e1 inf.size (.slice (some ⟨q, 0, none⟩) n.v n.v) k.v row = some (.slice (some ⟨H.next, 0, none⟩) (n.v + k.v) UNK, H.alloc (.cells (cs ++ row) e1 inf.size none false)) := by
           have hcap : Nat.beq n.v UNK = false := beqF (by omega)
           have hcap2 : Nat.ble (n.v + k.v) n.v = false := by
            cases hq : Nat.ble (n.v + k.v) n.v with
            | false => rfl
            | true => have := Nat.le_of_ble_eq_true hq; omega
           have hb1 := Nat.beq_refl e1
           have hb2 := Nat.beq_refl inf.size
           have hb3 := Nat.ble_eq_true_of_le hbig
           have hdt : (cs.drop 0).take (n.v * inf.size) = cs := by rw [List.drop_zero, hnr, ← hlen, List.take_length]
           simp only [appOnto, e0, cond_false, hg, hb1, hb2, hb3, Nat.ble_eq_true_of_le (show 0 + n.v * inf.size ≤ cs.length by rw [hlen, hnr]; omega), Bool.and_self, cond_true, hcap, hcap2, appNew, hdt, newRowA_eq hout.one]
          rw [ha]
          have hr2 := hr1.alloc (z := inf.size) (k := .arr e1 (r ++ new)) (cs := cs ++ row) (ty := e1) (esz := inf.size) (fun ν' hν => .arr hst h0 hout)
          refine ⟨_, _, rfl, _, _, _, σ, h, hr2.forget rfl rfl rfl rfl (fun c k' hc => ?_), ?_, xnewn _ _ _, .refl _, rfl, .push _ _ _ (Nat.le_of_ble_eq_true hro1)⟩
          ·have hc' : T.get (T.put (T.put (takeS S b v e e1 l i).hp S.nx none) (takeS S b v e e1 l i).nx (some (.arr e1 (r ++ new)))) c = some k' := hc
           show T.get (T.put (takeS S b v e e1 l i).hp (takeS S b v e e1 l i).nx (some (.arr e1 (r ++ new)))) c = some k'
           rw [T.get_put, T.get_put] at hc'
           rw [T.get_put]
           by_cases ec : c = (takeS S b v e e1 l i).nx
           ·rw [if_pos ec] at hc' ⊢; exact hc'
           ·rw [if_neg ec] at hc' ⊢
            by_cases ec2 : c = S.nx
            ·rw [if_pos ec2] at hc'; cases hc'
            ·rw [if_neg ec2] at hc'; exact hc'
          ·have := VRel.slcU (P := P) (σ := σ) (ν := fun b1 => if b1 = (takeS S b v e e1 l i).nx then some (H.next, inf.size) else ν1 b1) (b := (takeS S b v e e1 l i).nx) (o := .lit 0) (n := n.add k) (if_pos rfl)
           rw [NL.v_add] at this; simpa [show (NL.lit 0).v = 0 from rfl] using this
      ·exact h.elim
     ·exact h.elim
  ·exact h.elim
 ·rename_i b o n c
  split at h
  ·rename_i v e e' l hb
   split at h
   ·rename_i e1 e2 inf hu hu2 hinf
    cases hc : (Nat.beq e1 e && Nat.beq e e2 && zsizeOK inf && Nat.ble inf.bytes 4096 && Nat.blt 0 inf.bytes && Nat.blt 0 inf.size && Nat.ble S.ro b && isSliceT P e) with
    | false => rw [hc] at h; exact h.elim
    | true =>
     rw [hc] at h
     simp only [cond_true] at h
     simp only [Bool.and_eq_true] at hc
     obtain ⟨⟨⟨⟨⟨⟨⟨c0, c1⟩, c2⟩, c3⟩, c4⟩, c5⟩, c6⟩, c7⟩ := hc
     have q0 := Nat.eq_of_beq_eq_true c0
     have q1 := Nat.eq_of_beq_eq_true c1
     subst q0 q1
     have hro' := Nat.le_of_ble_eq_true c6
     have h0 := blt_lt c5
     have hst : sizeT P e1 = some inf.size := by unfold sizeT; rw [hinf]; rfl
     unfold zsizeOK at c2
     cases hz : inf.zero with
     | none => rw [hz] at c2; cases c2
     | some z =>
     rw [hz] at c2
     have hu2' : P.underlying t2 = some (.slice e1) ∨ P.underlying t2 = some .string := by
      unfold srcT at hu2
      split at hu2
      ·cases hu2; left; assumption
      ·right; assumption
      ·cases hu2
     obtain ⟨k, new, row, h', hsrc, hrow, hkl⟩ := VRel.srcA hr hinf h0 hu2' h hx
     clear h
     obtain ⟨hk0, hnil, ho, hn, hbig, h⟩ := h'
     obtain ⟨i, zz, hν, hB⟩ := hr.blkT _ _ hb
     obtain ⟨cs, m, hg, hsz, hz0, hlen, hone, hrd⟩ := hB
     have hzz : zz = inf.size := by rw [hst] at hsz; exact (Option.some.inj hsz).symm
     subst hzz
     cases hs with
     | slcU hν' =>
     rw [hν] at hν'; cases hν'
     have happ : appendA P H t (.slice (some ⟨i, o.v * inf.size, none⟩) n.v UNK) x' = appOnto P H e1 inf.size (.slice (some ⟨i, o.v * inf.size, none⟩) n.v UNK) k.v row := by
      unfold appendA
      simp only [hu, hinf, hz, c2, c3, c4, Bool.and_self, cond_true, hsrc]
     have hm := mate_cells hg
     have hkn : ({ (H.kill m) with next := H.next } : AHeap) = H.kill m := by cases m <;> rfl
     have hdt : (cs.drop (o.v * inf.size)).take (n.v * inf.size) = cs := by rw [ho, Nat.zero_mul, List.drop_zero, hn, ← hlen, List.take_length]
     have hone2 : (cs ++ row).all oneCellB = true := by rw [List.all_append, hone, hrow.one]; rfl
     have e0 : Nat.beq k.v 0 = false := beqF (by omega)
     have ha : appOnto P H e1 inf.size (.slice (some ⟨i, o.v * inf.size, none⟩) n.v UNK) k.v row = some (.slice (some ⟨H.next, 0, none⟩) (n.v + k.v) UNK,
       ((H.kill (H.mate i)).write i (some (.cells (cs.take (o.v * inf.size + n.v * inf.size)) e1 inf.size (some H.next) false))).alloc (.cells (cs ++ row) e1 inf.size (some i) false)) := by
      simp only [appOnto, e0, cond_false, hg, Nat.beq_refl e1, Nat.beq_refl inf.size, Nat.ble_eq_true_of_le hbig, Nat.ble_eq_true_of_le (show o.v * inf.size + n.v * inf.size ≤ cs.length by rw [ho, hn, hlen]; omega), Bool.and_self, cond_true, Nat.beq_refl UNK, appMate, forceNat_eq, hdt, hone2, c5, hm, hkn]
     rw [happ, ha]
     have hg1 : ∀ c, ((S.write b none).alloc (.own v e1 e' (l ++ new))).hp.get c = if c = S.nx then some (.own v e1 e' (l ++ new)) else if c = b then none else S.hp.get c := fun c => by
      show T.get (T.put (T.put S.hp b none) S.nx _) c = _
      rw [T.get_put, T.get_put]
     have hnl : ∀ j r, (l ++ new)[j]? = some (D.list r) → l[j]? = some (D.list r) := fun j r hj => by
      rcases Nat.lt_or_ge j l.length with hjl | hjl
      ·rw [List.getElem?_append_left hjl] at hj; exact hj
      ·rw [List.getElem?_append_right hjl] at hj
       have := hnil.out _ (List.mem_of_getElem? hj); cases this
     refine ⟨_, _, rfl, _, _, _, σ, h, hr.pushG hb hν hro' (k' := .own v e1 e' (l ++ new)) (fun ν' hν' => ⟨_, some i, rfl, hst, h0, by rw [List.length_append, List.length_append, hlen, hrow.1, Nat.add_mul], hone2, fun j d hj => ?_⟩) (fun x k2 h => ?_) ⟨fun c c' w e3 e2 l1 e5 e4 l2 q1 q2 => ?_, fun c w e3 e2 l1 q => ?_⟩, ?_, xnewn _ _ _, .refl _, rfl, .push _ _ _ hro'⟩
     ·rcases Nat.lt_or_ge j l.length with hjl | hjl
      ·rw [List.getElem?_append_left hjl] at hj
       rcases (hrd j d hj).mono hν' with ⟨p1, p2, p3⟩ | p1 | ⟨r', q', y, c, p1, p2, p3, p4, p5, p6⟩
       ·exact .inl ⟨p1, p2, fun hs => by rw [List.getElem?_append_left (by rw [hlen, p2]; omega)]; exact p3 hs⟩
       ·exact .inr (.inl p1)
       ·exact .inr (.inr ⟨r', q', y, c, p1, p2, p3, p4, by rw [List.getElem?_append_left (by rw [hlen, p2]; omega)]; exact p5, p6⟩)
      ·rw [List.getElem?_append_right hjl] at hj
       have hd : d = .nil := hnil.out _ (List.mem_of_getElem? hj)
       subst hd
       have h1 := hrow.2 _ _ hj
       have hjn : j - l.length < new.length := (List.getElem?_eq_some_iff.1 hj).1
       have hz1 : inf.size = 1 := by
        have := h1.size
        rw [hst] at this
        have hlq : ((row.drop ((j - l.length) * inf.size)).take inf.size) = [.slice none 0 0] ∨ ((row.drop ((j - l.length) * inf.size)).take inf.size) = [.nilFunc] := by
         generalize ((row.drop ((j - l.length) * inf.size)).take inf.size) = w at h1
         cases h1 with
         | nil => exact .inl rfl
         | nilf => exact .inr rfl
        rcases hlq with hlq | hlq <;> rw [hlq] at this <;> exact Option.some.inj this
       refine .inl ⟨rfl, hz1, fun _ => ?_⟩
       rw [List.getElem?_append_right (by rw [hlen, hz1]; omega), hlen, hz1, Nat.mul_one]
       rw [hz1, Nat.mul_one] at h1
       have hjr : j - l.length < row.length := by rw [hrow.1, hz1]; omega
       rw [List.drop_eq_getElem_cons hjr] at h1
       simp only [List.take_succ_cons, List.take_zero] at h1
       rw [List.getElem?_eq_getElem hjr]
       generalize row[j - l.length] = w at h1 ⊢
       cases h1 with
       | nil => rfl
       | nilf hf =>
        unfold isSliceT at c7
        rw [hf] at c7; cases c7
     ·cases x with
      | top c =>
       have h1 : ((S.write b none).alloc (.own v e1 e' (l ++ new))).hp.get c = some k2 := h
       rw [hg1] at h1
       by_cases ec : c = S.nx
       ·rw [if_pos ec] at h1; exact .inl ⟨by rw [ec], by cases h1; rfl⟩
       ·rw [if_neg ec] at h1
        by_cases ec2 : c = b
        ·rw [if_pos ec2] at h1; cases h1
        ·rw [if_neg ec2] at h1; exact .inr ⟨Bid.top_ne ec, Bid.top_ne ec2, h1, fun h => h⟩
      | sub w j =>
       obtain ⟨c, q1, q2, l1, r1, h1, h2, h3⟩ := h
       rw [hg1] at h1
       refine .inr ⟨fun h => (by cases h), fun h => (by cases h), ?_, fun ⟨c2, a1, a2, a3, w1, w2⟩ => ?_⟩
       ·by_cases ec : c = S.nx
        ·rw [if_pos ec] at h1; cases h1; exact ⟨b, _, _, l, r1, hb, hnl _ _ h2, h3⟩
        ·rw [if_neg ec] at h1
         by_cases ec2 : c = b
         ·rw [if_pos ec2] at h1; cases h1
         ·rw [if_neg ec2] at h1; exact ⟨c, q1, q2, l1, r1, h1, h2, h3⟩
       ·rw [hg1] at w1
        by_cases ec : c2 = S.nx
        ·rw [if_pos ec] at w1; cases w1; exact ⟨b, _, _, l, hb, hro'⟩
        ·rw [if_neg ec] at w1
         by_cases ec2 : c2 = b
         ·rw [if_pos ec2] at w1; cases w1
         ·rw [if_neg ec2] at w1; exact ⟨c2, a1, a2, a3, w1, w2⟩
     ·rw [hg1] at q1 q2
      by_cases ea : c = S.nx <;> by_cases eb : c' = S.nx
      ·rw [ea, eb]
      ·rw [if_pos ea] at q1; rw [if_neg eb] at q2; cases q1
       by_cases ec2 : c' = b
       ·rw [if_pos ec2] at q2; cases q2
       ·rw [if_neg ec2] at q2; exact absurd (hr.vers.1 _ _ _ _ _ _ _ _ _ q2 hb) ec2
      ·rw [if_neg ea] at q1; rw [if_pos eb] at q2; cases q2
       by_cases ec2 : c = b
       ·rw [if_pos ec2] at q1; cases q1
       ·rw [if_neg ec2] at q1; exact absurd (hr.vers.1 _ _ _ _ _ _ _ _ _ q1 hb) ec2
      ·rw [if_neg ea] at q1; rw [if_neg eb] at q2
       by_cases ec2 : c = b
       ·rw [if_pos ec2] at q1; cases q1
       ·rw [if_neg ec2] at q1
        by_cases ec3 : c' = b
        ·rw [if_pos ec3] at q2; cases q2
        ·rw [if_neg ec3] at q2; exact hr.vers.1 _ _ _ _ _ _ _ _ _ q1 q2
     ·rw [hg1] at q
      show w < S.nx + 1
      by_cases ea : c = S.nx
      ·rw [if_pos ea] at q; cases q; have := hr.vers.2 _ _ _ _ _ hb; omega
      ·rw [if_neg ea] at q
       by_cases ec2 : c = b
       ·rw [if_pos ec2] at q; cases q
       ·rw [if_neg ec2] at q; have := hr.vers.2 _ _ _ _ _ q; omega
     ·have := VRel.slcU (P := P) (σ := σ) (ν := fun b1 => if b1 = S.nx then some (H.next, inf.size) else ν b1) (b := S.nx) (o := .lit 0) (n := n.add k) (if_pos rfl)
      rw [NL.v_add] at this; simpa [show (NL.lit 0).v = 0 from rfl] using this
   ·exact h.elim
  ·rename_i w e e' l cc hb
   cases hro : Nat.ble S.ro b with
   | false => rw [hro] at h; exact h.elim
   | true =>
    rw [hro] at h
    obtain ⟨hh, hrt, h⟩ := h
    obtain ⟨hxs, hr1⟩ := hr.freezeSub hb (Nat.le_of_ble_eq_true hro) hh hrt
    obtain ⟨v', h', g1, u, S', ν', σ', g2, g3, g4, g5, g6, g7, g8⟩ := symAppend_ok hr1 h (hs.mono hxs (.refl _)) (hx.mono hxs (.refl _))
    exact ⟨v', h', g1, u, S', ν', σ', g2, g3, g4, g5, hxs.trans g6, g7, (Keeps.write _ _ _ (Nat.le_of_ble_eq_true hro)).trans g8⟩
  ·exact symAppend_ok hr h hs hx
 ·exact symAppend_ok hr h hs hx
theorem take_get {b v : Nat} {e e' : TypeId} {l : List D} {i : NL} (c : Nat) : (takeS S b v e e' l i).hp.get c = if c = S.nx then some (.arr e' (nthD l i.v).asList) else if c = b then some (.own v e e' (l.set i.v (.int 0))) else S.hp.get c := by
 show T.get (T.put (T.put S.hp b _) S.nx _) c = _
 rw [T.get_put, T.get_put]
theorem symAppendW_ok {t t2 : TypeId} {s : V} {b2 v2 : Nat} {e e' : TypeId} {r : List D} {s' x' : Value} {o2 n2 : NL} {c2 : Option NL} (hr : SR P base H0 ν σ S F H) (h : symAppendW P S t t2 s b2 v2 e e' r K) (hb2 : S.hp.get b2 = some (.own v2 e e' [.list r])) (ho2 : o2.v = 0) (hn2 : n2.v = 1)
  (hs : VRel P σ ν s s') (hx : VRel P σ ν (.slc b2 o2 n2 c2) x') : OpR P base H0 ν σ S F (appendA P H t s' x') K := by
 unfold symAppendW at h
 split at h
 ·rename_i e1 e2 inf hu hu2 hinf
  cases hc : (Nat.beq e1 e && Nat.beq e e2 && zsizeOK inf && Nat.ble inf.bytes 4096 && Nat.blt 0 inf.bytes && Nat.blt 0 inf.size && Nat.ble S.ro b2 && isSliceOf P e e') with
  | false => rw [hc] at h; exact h.elim
  | true =>
   rw [hc] at h
   simp only [cond_true] at h
   simp only [Bool.and_eq_true] at hc
   obtain ⟨⟨⟨⟨⟨⟨⟨q0, q1⟩, q2⟩, q3⟩, q4⟩, q5⟩, q6⟩, q7⟩ := hc
   have q0 := Nat.eq_of_beq_eq_true q0
   have q1 := Nat.eq_of_beq_eq_true q1
   subst q0 q1
   have hro2 := Nat.le_of_ble_eq_true q6
   obtain ⟨hue, hs1⟩ := isSliceOf_ok q7
   have hst : sizeT P e1 = some inf.size := by unfold sizeT; rw [hinf]; rfl
   have hsz1 : inf.size = 1 := by rw [hs1] at hst; exact (Option.some.inj hst).symm
   unfold zsizeOK at q2
   cases hz : inf.zero with
   | none => rw [hz] at q2; cases q2
   | some z =>
   rw [hz] at q2
   -- the slice that is appended: one cell, which holds the row
   obtain ⟨i2, z2, hν2, hB2⟩ := hr.blkT _ _ hb2
   obtain ⟨cs2, m2, hg2, hsz2, hz02, hlen2, hone2, hrd2⟩ := hB2
   have hz2 : z2 = 1 := by rw [hs1] at hsz2; exact (Option.some.inj hsz2).symm
   subst hz2
   rcases hrd2 0 (.list r) rfl with ⟨k1, _⟩ | ⟨n, k1⟩ | ⟨r', q, y, c, k1, _, k3, hνq, hcell, hcc⟩
   ·cases k1
   ·cases k1
   cases k1
   have hcs2 : cs2 = [.slice (some ⟨q, 0, none⟩) r.length c] := by
    match cs2, hlen2, hcell with
    | [a], _, h => simp only [List.getElem?_cons_zero, Option.some.injEq] at h; rw [h]
   have hsrc : srcA H inf.size x' = some (1, [.slice (some ⟨q, 0, none⟩) r.length c]) := by
    have hcl : H.cells i2 = some cs2 := by unfold AHeap.cells; rw [hg2]
    have : ∀ cap, x' = .slice (some ⟨i2, 0, none⟩) 1 cap → srcA H inf.size x' = some (1, [.slice (some ⟨q, 0, none⟩) r.length c]) := fun cap hx' => by
     rw [hx', hsz1]
     unfold srcA
     simp only [hcl, hcs2]
     rfl
    cases hx with
    | slcU hν' =>
     rw [hν2] at hν'; cases hν'
     exact this _ (by rw [ho2, hn2])
    | slc hν' hcu9 hmc9 hoff =>
     rename_i i9 z9 off cc
     rw [hν2] at hν'; cases hν'
     have h0 : off = 0 := by rw [ho2, Nat.zero_mul] at hoff; omega
     subst h0
     exact this _ (by rw [hn2])
   have happ : appendA P H t s' x' = appOnto P H e1 inf.size s' 1 [.slice (some ⟨q, 0, none⟩) r.length c] := by
    unfold appendA
    simp only [hu, hinf, hz, q2, q3, q4, Bool.and_self, cond_true, hsrc]
   rw [happ, hsz1]
   -- the row is taken out
   obtain ⟨ν1, hq1, hx1, hxn1, hr1⟩ := hr.take (i := .lit 0) hb2 hro2 (by exact Nat.lt_succ_self 0) rfl hνq
   have hb2n := hr.blt hb2
   have htk : (takeS S b2 v2 e1 e' [.list r] (.lit 0)).nx = S.nx + 1 := rfl
   have hT : (takeS S b2 v2 e1 e' [.list r] (.lit 0)).hp.get S.nx = some (.arr e' r) := by rw [take_get, if_pos rfl]; rfl
   have hkeep : Keeps S (takeS S b2 v2 e1 e' [.list r] (.lit 0)) := (Keeps.write _ _ _ hro2).trans (Keeps.alloc _ _)
   split at h
   ·-- onto nil
    have hs' : s' = .slice none 0 0 := by cases hs; rfl
    subst hs'
    have ha : appOnto P H e1 1 (.slice none 0 0) 1 [.slice (some ⟨q, 0, none⟩) r.length c] = some (.slice (some ⟨H.next, 0, none⟩) 1 UNK, H.alloc (.cells [.slice (some ⟨q, 0, none⟩) r.length c] e1 1 none false)) := by
     show appNew H e1 1 [.slice (some ⟨q, 0, none⟩) r.length c] 1 = _
     unfold appNew
     rw [newRowA_eq (by rfl)]
    rw [ha]
    have hv := vers_hole hr1 (e := e1) (e2 := e')
    have hr2 := hr1.allocG (z := 1) (k := .own (S.nx + 1) e1 e' [.int 0]) (bk := .cells [.slice (some ⟨q, 0, none⟩) r.length c] e1 1 none false) (fun ν' _ => brel_hole hs1 rfl) (fun _ _ _ _ _ e => by cases e; rfl) hv.2 hv.1
    have hg : ∀ b, ((takeS S b2 v2 e1 e' [.list r] (.lit 0)).alloc (.own (S.nx + 1) e1 e' [.int 0])).hp.get b = if b = S.nx + 1 then some (.own (S.nx + 1) e1 e' [.int 0]) else (takeS S b2 v2 e1 e' [.list r] (.lit 0)).hp.get b := fun b => T.get_put _ _ _ _
    obtain ⟨ν', hx3, hxn3, hr3⟩ := hr2.link (b := S.nx + 1) (b' := S.nx) (i := H.next) (z := 1) (n := 0) (i2 := q) (z2 := y) (c := c) (e := e1) (e2 := e') (l := [.int 0]) (l2 := r) (by rw [hg, if_pos rfl]) (if_pos rfl) (Nat.le_succ_of_le hr.role)
     (by rw [hg, if_neg (by omega)]; exact hT) ((if_neg (Bid.top_ne (by omega))).trans hq1) hr.role (by omega) hue hs1 (by decide) (.inl ⟨_, _, rfl⟩) hcc (fun cs' m hg' => by
      rw [AHeap.get_alloc, if_pos rfl] at hg'; cases hg'; rfl)
    refine ⟨_, _, rfl, _, _, ν', σ, h, hr3, ?_, ?_, .refl _, rfl, ?_⟩
    ·have := VRel.slcU (P := P) (σ := σ) (ν := ν') (b := S.nx + 1) (o := .lit 0) (n := .lit 1) (z := 1) (i := H.next) (hx3 _ _ (if_pos rfl))
     simpa [NL.v] using this
    ·exact (hxn1.trans (xnewn (S.nx + 1) ν1 (H.next, 1)) (Nat.le_succ _)).trans hxn3 (by show S.nx ≤ S.nx + 2; omega)
    ·exact hkeep.trans ((Keeps.alloc _ _).trans ((Keeps.write _ _ _ (by exact hr.role)).trans ((Keeps.write _ _ _ (by exact Nat.le_succ_of_le hr.role)).trans (Keeps.bump _))))
   ·-- onto a row whose elements own rows
    rename_i b o n
    split at h
    ·rename_i v e3 e4 l hb
     cases hc : (Nat.beq e3 e1 && Nat.beq e4 e' && Nat.ble S.ro b && !Nat.beq b b2) with
     | false => rw [hc] at h; exact h.elim
     | true =>
      rw [hc] at h
      simp only [Bool.and_eq_true, Bool.not_eq_true'] at hc
      obtain ⟨⟨⟨p0, p1⟩, p2⟩, p3⟩ := hc
      have p0 := Nat.eq_of_beq_eq_true p0
      have p1 := Nat.eq_of_beq_eq_true p1
      subst p0 p1
      have hro := Nat.le_of_ble_eq_true p2
      have hne : b ≠ b2 := fun e => by rw [e, Nat.beq_refl] at p3; cases p3
      obtain ⟨ho, hn, hbig, h⟩ := h
      have hbn := hr.blt hb
      have hb1 : (takeS S b2 v2 e3 e4 [.list r] (.lit 0)).hp.get b = some (.own v e3 e4 l) := by rw [take_get, if_neg (by omega), if_neg hne]; exact hb
      obtain ⟨i, zz, hν, hB⟩ := hr1.blkT _ _ hb1
      obtain ⟨cs, m, hg, hsz, hz0, hlen, hone, hrd⟩ := hB
      have hzz : zz = 1 := by rw [hs1] at hsz; exact (Option.some.inj hsz).symm
      subst hzz
      cases hs with
      | slcU hν' =>
      have hν' := hx1 _ _ hν'
      rw [hν] at hν'; cases hν'
      have hm := mate_cells hg
      have hkn : ({ (H.kill m) with next := H.next } : AHeap) = H.kill m := by cases m <;> rfl
      have hdt : (cs.drop (o.v * 1)).take (n.v * 1) = cs := by rw [ho, Nat.zero_mul, List.drop_zero, hn, ← hlen, List.take_length]
      have hone2 : (cs ++ [Value.slice (some ⟨q, 0, none⟩) r.length c]).all oneCellB = true := by rw [List.all_append, hone]; rfl
      have c5 : Nat.blt 0 1 = true := rfl
      have ha : appOnto P H e3 1 (.slice (some ⟨i, o.v * 1, none⟩) n.v UNK) 1 [.slice (some ⟨q, 0, none⟩) r.length c] = some (.slice (some ⟨H.next, 0, none⟩) (n.v + 1) UNK,
        ((H.kill (H.mate i)).write i (some (.cells (cs.take (o.v * 1 + n.v * 1)) e3 1 (some H.next) false))).alloc (.cells (cs ++ [.slice (some ⟨q, 0, none⟩) r.length c]) e3 1 (some i) false)) := by
       have e0 : Nat.beq 1 0 = false := rfl
       simp only [appOnto, e0, cond_false, hg, Nat.beq_refl e3, Nat.beq_refl 1, Nat.ble_eq_true_of_le hbig, Nat.ble_eq_true_of_le (show o.v * 1 + n.v * 1 ≤ cs.length by rw [ho, hn, hlen]; omega), Bool.and_self, cond_true, Nat.beq_refl UNK, appMate, forceNat_eq, hdt, hone2, c5, hm, hkn]
      rw [ha]
      have hg1 : ∀ c, (((takeS S b2 v2 e3 e4 [.list r] (.lit 0)).write b none).alloc (.own v e3 e4 (l ++ [.int 0]))).hp.get c = if c = S.nx + 1 then some (.own v e3 e4 (l ++ [.int 0])) else if c = b then none else (takeS S b2 v2 e3 e4 [.list r] (.lit 0)).hp.get c := fun c => by
       show T.get (T.put (T.put (takeS S b2 v2 e3 e4 [.list r] (.lit 0)).hp b none) (S.nx + 1) _) c = _
       rw [T.get_put, T.get_put]
      have hnl : ∀ j r, (l ++ [D.int 0])[j]? = some (D.list r) → l[j]? = some (D.list r) := fun j r hj => by
       rcases Nat.lt_or_ge j l.length with hjl | hjl
       ·rw [List.getElem?_append_left hjl] at hj; exact hj
       ·rw [List.getElem?_append_right hjl] at hj
        have := List.mem_singleton.1 (List.mem_of_getElem? hj); cases this
      have hr2 := hr1.pushG hb1 hν hro (k' := .own v e3 e4 (l ++ [.int 0])) (cs1 := cs.take (o.v * 1 + n.v * 1)) (new := cs ++ [.slice (some ⟨q, 0, none⟩) r.length c]) (e := e3) (esz := 1)
       (fun ν' hν' => ⟨_, some i, rfl, hs1, by omega, by rw [List.length_append, List.length_append, hlen, Nat.add_mul]; rfl, hone2, fun j d hj => by
        rcases Nat.lt_or_ge j l.length with hjl | hjl
        ·rw [List.getElem?_append_left hjl] at hj
         rcases (hrd j d hj).mono hν' with ⟨p1, p2, p3⟩ | p1 | ⟨r', q', y, c, p1, p2, p3, p4, p5, p6⟩
         ·exact .inl ⟨p1, p2, fun hs => by rw [List.getElem?_append_left (by rw [hlen]; omega)]; exact p3 hs⟩
         ·exact .inr (.inl p1)
         ·exact .inr (.inr ⟨r', q', y, c, p1, p2, p3, p4, by rw [List.getElem?_append_left (by rw [hlen]; omega)]; exact p5, p6⟩)
        ·rw [List.getElem?_append_right hjl] at hj
         exact .inr (.inl ⟨0, List.mem_singleton.1 (List.mem_of_getElem? hj)⟩)⟩)
       (fun x k2 h => by
        cases x with
        | top c =>
         have h1 : (((takeS S b2 v2 e3 e4 [.list r] (.lit 0)).write b none).alloc (.own v e3 e4 (l ++ [.int 0]))).hp.get c = some k2 := h
         rw [hg1] at h1
         by_cases ec : c = S.nx + 1
         ·rw [if_pos ec] at h1; exact .inl ⟨by rw [ec]; rfl, by cases h1; rfl⟩
         ·rw [if_neg ec] at h1
          by_cases ec2 : c = b
          ·rw [if_pos ec2] at h1; cases h1
          ·rw [if_neg ec2] at h1; exact .inr ⟨Bid.top_ne ec, Bid.top_ne ec2, h1, fun h => h⟩
        | sub w j =>
         obtain ⟨c, q1, q2, l1, r1, h1, h2, h3⟩ := h
         rw [hg1] at h1
         refine .inr ⟨fun h => (by cases h), fun h => (by cases h), ?_, fun ⟨c2, a1, a2, a3, w1, w2⟩ => ?_⟩
         ·by_cases ec : c = S.nx + 1
          ·rw [if_pos ec] at h1; cases h1; exact ⟨b, _, _, l, r1, hb1, hnl _ _ h2, h3⟩
          ·rw [if_neg ec] at h1
           by_cases ec2 : c = b
           ·rw [if_pos ec2] at h1; cases h1
           ·rw [if_neg ec2] at h1; exact ⟨c, q1, q2, l1, r1, h1, h2, h3⟩
         ·rw [hg1] at w1
          by_cases ec : c2 = S.nx + 1
          ·rw [if_pos ec] at w1; cases w1; exact ⟨b, _, _, l, hb1, hro⟩
          ·rw [if_neg ec] at w1
           by_cases ec2 : c2 = b
           ·rw [if_pos ec2] at w1; cases w1
           ·rw [if_neg ec2] at w1; exact ⟨c2, a1, a2, a3, w1, w2⟩)
       ⟨fun c c' w e5 e2 l1 e6 e7 l2 q1 q2 => by
        rw [hg1] at q1 q2
        by_cases ea : c = S.nx + 1 <;> by_cases eb : c' = S.nx + 1
        ·rw [ea, eb]
        ·rw [if_pos ea] at q1; rw [if_neg eb] at q2; cases q1
         by_cases ec2 : c' = b
         ·rw [if_pos ec2] at q2; cases q2
         ·rw [if_neg ec2] at q2; exact absurd (hr1.vers.1 _ _ _ _ _ _ _ _ _ q2 hb1) ec2
        ·rw [if_neg ea] at q1; rw [if_pos eb] at q2; cases q2
         by_cases ec2 : c = b
         ·rw [if_pos ec2] at q1; cases q1
         ·rw [if_neg ec2] at q1; exact absurd (hr1.vers.1 _ _ _ _ _ _ _ _ _ q1 hb1) ec2
        ·rw [if_neg ea] at q1; rw [if_neg eb] at q2
         by_cases ec2 : c = b
         ·rw [if_pos ec2] at q1; cases q1
         ·rw [if_neg ec2] at q1
          by_cases ec3 : c' = b
          ·rw [if_pos ec3] at q2; cases q2
          ·rw [if_neg ec3] at q2; exact hr1.vers.1 _ _ _ _ _ _ _ _ _ q1 q2, fun c w e5 e2 l1 q => by
        rw [hg1] at q
        show w < S.nx + 1 + 1
        by_cases ea : c = S.nx + 1
        ·rw [if_pos ea] at q; cases q; have := hr1.vers.2 _ _ _ _ _ hb1; rw [htk] at this; omega
        ·rw [if_neg ea] at q
         by_cases ec2 : c = b
         ·rw [if_pos ec2] at q; cases q
         ·rw [if_neg ec2] at q; have := hr1.vers.2 _ _ _ _ _ q; rw [htk] at this; omega⟩
      have hnk : ((H.kill (H.mate i)).write i (some (.cells (cs.take (o.v * 1 + n.v * 1)) e3 1 (some H.next) false))).next = H.next := AHeap.next_kill _ _
      obtain ⟨ν', hx3, hxn3, hr3⟩ := hr2.link (b := S.nx + 1) (b' := S.nx) (i := H.next) (z := 1) (n := l.length) (i2 := q) (z2 := y) (c := c) (e := e3) (e2 := e4) (l := l ++ [.int 0]) (l2 := r) (by rw [hg1, if_pos rfl]) (if_pos rfl) (Nat.le_succ_of_le hr.role)
       (by rw [hg1, if_neg (by omega), if_neg (by omega)]; exact hT) ((if_neg (Bid.top_ne (show S.nx ≠ S.nx + 1 by omega))).trans hq1) hr.role (by omega) hue hs1 (by rw [List.length_append]; exact Nat.lt_succ_self _) (.inl ⟨_, _, rfl⟩) hcc (fun cs' m hg' => by
        rw [AHeap.get_alloc, hnk, if_pos rfl] at hg'; cases hg'
        rw [List.getElem?_append_right (by rw [hlen]; omega), hlen, Nat.mul_one, Nat.sub_self]; rfl)
      refine ⟨_, _, rfl, _, _, ν', σ, h, hr3, ?_, ?_, .refl _, rfl, ?_⟩
      ·have := VRel.slcU (P := P) (σ := σ) (ν := ν') (b := S.nx + 1) (o := .lit 0) (n := n.add (.lit 1)) (z := 1) (i := H.next) (hx3 _ _ (if_pos rfl))
       rw [NL.v_add] at this
       simpa [NL.v] using this
      ·exact (hxn1.trans (xnewn (S.nx + 1) ν1 (H.next, 1)) (Nat.le_succ _)).trans hxn3 (by show S.nx ≤ S.nx + 2; omega)
      ·exact hkeep.trans ((Keeps.write _ _ _ (by exact hro)).trans ((Keeps.alloc _ _).trans ((Keeps.write _ _ _ (by exact hr.role)).trans ((Keeps.write _ _ _ (by exact Nat.le_succ_of_le hr.role)).trans (Keeps.bump _)))))
    ·exact h.elim
   ·exact h.elim
 ·exact h.elim
theorem symAppendX_ok {t t2 : TypeId} {s x : V} {s' x' : Value} (hr : SR P base H0 ν σ S F H) (h : symAppendX P S t t2 s x K) (hs : VRel P σ ν s s') (hx : VRel P σ ν x x') : OpR P base H0 ν σ S F (appendA P H t s' x') K := by
 unfold symAppendX at h
 split at h
 ·split at h
  ·rename_i b2 o2 n2 c2 _ v2 e e' r hb2
   exact symAppendW_ok hr h.2.2 hb2 h.1 h.2.1 hs hx
  ·exact symAppendO_ok hr h hs hx
 ·exact symAppendO_ok hr h hs hx
end
end Go.Ev
