/-
  Part of the engine that the claim is proved with: it states nothing of the document by itself.
-/
import Derived.Test.YtpopdemanadllaaGreatDoorCoreSeQ

namespace Go.Ev
section
variable {P : Program} {base : Nat} {H0 : AHeap × Sig} {ν : Nu} {σ : Sig} {S : SS} {F : AFrame} {H : AHeap} {K : V → SS → Prop} {Kv : V → Prop}
theorem zeroD_ok {e : TypeId} {d : D} (h : zeroD P e = some d) (hz : zflat P e = true) : ∃ z, zeroT P e = some z ∧ ReadsA P σ e d z.cells.toList := by
 unfold zeroD at h
 unfold zflat at hz
 cases hzt : zeroT P e with
 | none => rw [hzt] at h; cases h
 | some z =>
  rw [hzt] at h hz
  exact ⟨z, rfl, datOf_ok (ν := fun _ => none) _ _ _ _ _ h (LRel.vals (flat_cells' hz))⟩
theorem makeSliceA_eq {t e : TypeId} {k k' : IntKind} {l c : Nat} {inf : TypeInfo} {z : Value} (hu : P.underlying t = some (.slice e)) (hi : P.info? e = some inf) (hz : inf.zero = some z) (hle : l ≤ c) (hc : c ≤ 16777216) (hb : inf.bytes * c ≤ 281474976710656) (hf : Ev.flat z = true) (hs : z.cells.size = inf.size)
  (h1 : (List.replicate c z.cells.toList).flatten.all oneCellB = true) (H : AHeap) :
  makeSliceA P t (.int k l) (.int k' c) H = some (.slice (some ⟨H.next, 0, none⟩) l c, H.alloc (.cells (List.replicate c z.cells.toList).flatten e inf.size none false)) := by
 unfold makeSliceA
 simp only [hu]
 show (match P.info? e with | some i => _ | none => _) = _
 simp only [hi, hz, Nat.ble_eq_true_of_le hle, Nat.ble_eq_true_of_le hc, Nat.ble_eq_true_of_le hb, hf, hs, Nat.beq_refl, Bool.and_self, cond_true, newRowA_eq h1]
theorem symMakeSlice_ok {t : TypeId} {l c : V} {l' c' : Value} (hr : SR P base H0 ν σ S F H) (h : symMakeSlice P S t l c K) (hl : VRel P σ ν l l') (hc : VRel P σ ν c c') : OpR P base H0 ν σ S F (makeSliceA P t l' c' H) K := by
 unfold symMakeSlice at h
 split at h
 ·rename_i e hu
  split at h
  ·rename_i li ln ci cn z inf h1 h2 h3 h4
   cases hsz : (Nat.blt 0 inf.size && zflat P e) with
   | false => rw [hsz] at h; exact h.elim
   | true =>
    rw [hsz] at h
    simp only [Bool.and_eq_true] at hsz
    obtain ⟨q0, q1, q2, q3, h⟩ := h
    obtain ⟨⟨k, rfl⟩, hlv⟩ := nlOf_ok h1 hl
    obtain ⟨⟨k', rfl⟩, hcv⟩ := nlOf_ok h2 hc
    have hzt : zeroT P e = inf.zero := by unfold zeroT; rw [h4]; rfl
    obtain ⟨zv, hz1, hz2⟩ := zeroD_ok (σ := σ) h3 hsz.2
    have hzz : inf.zero = some zv := by rw [← hzt]; exact hz1
    have hst : sizeT P e = some inf.size := by unfold sizeT; rw [h4]; rfl
    have hzl : zv.cells.toList.length = inf.size := by have := hz2.size; rw [hst] at this; exact (Option.some.inj this).symm
    have hrow := RowR.rep hz2 hzl cn.v
    have el : (li : Int) = ((ln.v : Nat) : Int) := by omega
    have ec : (ci : Int) = ((cn.v : Nat) : Int) := by omega
    have hms := makeSliceA_eq (k := k) (k' := k') (l := ln.v) (c := cn.v) hu h4 hzz (by omega) (by omega) q3 (by have := hsz.2; unfold zflat at this; rw [hz1] at this; exact this) (by rw [← hzl]; simp) hrow.one H
    rw [el, ec, hms]
    refine ⟨_, _, rfl, _, _, _, σ, h, hr.alloc (z := inf.size) (k := .arr e _) (fun ν' hν => .arr hst (blt_lt hsz.1) hrow), ?_, xnewn _ _ _, .refl _, rfl, .alloc _ _⟩
    exact VRel.slc (z := inf.size) (if_pos rfl) (by unfold UNK; omega) (by omega) (.inl (by simp [NL.v]))
  ·exact h.elim
 ·exact h.elim
theorem foldSet (off : Nat) : ∀ (l : List Value) (k : Nat) (cs : Array Value), off + k + l.length ≤ cs.size →
  ((l.zipIdx k).foldl (fun cs (x : Value × Nat) => cs.setIfInBounds (off + x.2) x.1) cs).toList = cs.toList.take (off + k) ++ l ++ cs.toList.drop (off + k + l.length)
 | [], k, cs, h => by simp
 | v :: l, k, cs, h => by
  rw [List.zipIdx_cons, List.foldl_cons, foldSet off l (k + 1) _ (by simp at h ⊢; omega)]
  have hlt : off + k < cs.toList.length := by simp at h ⊢; omega
  simp only [Array.toList_setIfInBounds, List.length_cons]
  rw [show off + (k + 1) = off + k + 1 by omega, List.take_set, List.drop_set_of_lt (by omega)]
  rw [show (List.take (off + k + 1) cs.toList).set (off + k) v = List.take (off + k) cs.toList ++ [v] by
   rw [List.take_succ_eq_append_getElem hlt, List.set_append_right _ _ (by simp; omega)]
   have hm : (List.take (off + k) cs.toList).length = off + k := by rw [List.length_take]; omega
   rw [hm, Nat.sub_self]; simp]
  simp [show off + k + 1 + l.length = off + k + (l.length + 1) by omega]
theorem fill_elems {e : TypeId} {z : Nat} (hs : sizeT P e = some z) : ∀ (ps : List (Nat × V)) (ps' : List (Nat × Value)) (j : Nat) (ds : List D) (cs : Array Value), elemsD P e ps j = some ds → ps.map (·.1) = ps'.map (·.1) → LRel P σ ν (ps.map (·.2)) (ps'.map (·.2)) → cs.size = (j + ds.length) * z →
  ∃ row, Instr.fill (fun i => some (i * z, z)) cs ps' = some ⟨cs.toList.take (j * z) ++ row⟩ ∧ RowR P σ e z ds row
 | [], ps', j, ds, cs, h, hm, hl, hsz => by
  simp only [elemsD, Option.some.injEq] at h
  subst h
  have : ps' = [] := by cases ps' with | nil => rfl | cons a b => simp at hm
  subst this
  refine ⟨[], ?_, .nil⟩
  simp only [Instr.fill, Option.some.injEq, List.append_nil]
  rw [List.take_of_length_le (by simp at hsz ⊢; omega)]
 | (i, v) :: ps, [], j, ds, cs, h, hm, hl, hsz => by simp at hm
 | (i, v) :: ps, (i', v') :: ps', j, ds, cs, h, hm, hl, hsz => by
  simp only [List.map_cons, List.cons.injEq] at hm
  obtain ⟨rfl, hm⟩ := hm
  simp only [List.map_cons] at hl
  obtain ⟨u, r, he, hv, hl⟩ := hl.cons_inv
  cases he
  simp only [elemsD] at h
  cases hij : Nat.beq i j with
  | false => rw [hij] at h; cases h
  | true =>
   have := Nat.eq_of_beq_eq_true hij
   subst this
   rw [hij] at h
   simp only [cond_true] at h
   split at h
   ·rename_i d ds' hd hds
    simp only [Option.some.injEq] at h
    subst h
    have hR := datOf_ok _ _ _ _ _ hd hv.cells
    have hvl : v'.cells.toList.length = z := by have := hR.size; rw [hs] at this; exact (Option.some.inj this).symm
    have hvs : v'.cells.size = z := by rw [← hvl]; simp
    have hmul : (i + (d :: ds').length) * z = i * z + (z + ds'.length * z) := by simp only [List.length_cons]; rw [Nat.add_mul, Nat.succ_mul]; omega
    have hfold := foldSet (i * z) v'.cells.toList 0 cs (by rw [hvl, hsz, hmul]; omega)
    simp only [Instr.fill]
    rw [if_neg (by rw [hvs, hsz, hmul]; simp), zip_fold_eq]
    generalize hc2 : ((v'.cells.toList.zipIdx 0).foldl (fun cs (x : Value × Nat) => cs.setIfInBounds (i * z + x.2) x.1) cs) = cs2 at hfold ⊢
    have hs2 : cs2.size = (i + 1 + ds'.length) * z := by
     have h1 : cs2.toList.length = cs.size := by rw [hfold]; simp only [List.length_append, List.length_take, List.length_drop, Array.length_toList]; rw [hsz, hmul]; omega
     rw [← Array.length_toList, h1, hsz, hmul, Nat.add_mul, Nat.succ_mul]; omega
    obtain ⟨row, h1, h2⟩ := fill_elems hs ps ps' (i + 1) ds' cs2 hds hm hl hs2
    refine ⟨v'.cells.toList ++ row, ?_, (RowR.single hR hvl).append h2⟩
    rw [h1]
    have ht : List.take ((i + 1) * z) cs2.toList = List.take (i * z) cs.toList ++ v'.cells.toList := by
     rw [hfold, Nat.succ_mul]
     have hl1 : (List.take (i * z) cs.toList).length = i * z := by rw [List.length_take, Array.length_toList, hsz, hmul]; omega
     simp only [Nat.add_zero]
     rw [List.append_assoc, List.take_append, hl1, List.take_of_length_le (by omega), show i * z + z - i * z = v'.cells.toList.length by rw [hvl]; omega, List.take_left]
    rw [ht, List.append_assoc]
   ·cases h
theorem symBuildSlice_ok {t : TypeId} {len : Nat} {parts : Array (Nat × Operand)} {ps : List (Nat × V)} (hr : SR P base H0 ν σ S F H) (h : symBuildSlice P S t len ps K) (hm : ps.map (·.1) = parts.toList.map (·.1)) (hl : LRel P σ ν (ps.map (·.2)) (parts.toList.map fun x => aeval F x.2)) :
  OpR P base H0 ν σ S F (buildSliceA P F t len parts H) K := by
 unfold symBuildSlice at h
 split at h
 ·rename_i e hu
  split at h
  ·rename_i ds s z0 hds hs hz
   cases hc : (Nat.beq ds.length len && Nat.ble len 16777216 && Nat.ble (len * Nat.succ s) 16777216 && zflat P e) with
   | false => rw [hc] at h; exact h.elim
   | true =>
    rw [hc] at h
    simp only [Bool.and_eq_true] at hc
    obtain ⟨⟨⟨c1, c2⟩, c3⟩, c4⟩ := hc
    have c1' := Nat.eq_of_beq_eq_true c1
    obtain ⟨zv, hz1, hz2⟩ := zeroD_ok (σ := σ) hz c4
    have hzl : zv.cells.toList.length = s + 1 := by have := hz2.size; rw [hs] at this; exact (Option.some.inj this).symm
    have hfl : Ev.flat zv = true := by unfold zflat at c4; rw [hz1] at c4; exact c4
    have hrep : (List.replicate len zv.cells.toList).flatten.length = len * (s + 1) := by rw [rows_len (z := s + 1) (fun c hc => by rw [(List.mem_replicate.1 hc).2, hzl])]; simp
    obtain ⟨row, hf, hrow⟩ := fill_elems hs ps (parts.toList.map fun x => (x.1, aeval F x.2)) 0 ds ((List.replicate len zv.cells.toList).flatten.toArray) hds (by rw [hm, List.map_map]; rfl) (by rw [List.map_map]; exact hl) (by rw [List.size_toArray, hrep, c1', Nat.zero_add])
    have hb : buildSliceA P F t len parts H = some (.slice (some ⟨H.next, 0, none⟩) len len, H.alloc (.cells row e (s + 1) none false)) := by
     unfold buildSliceA
     simp only [hu, hs, hz1]
     have e1 : Nat.beq zv.cells.size (Nat.succ s) = true := by rw [show zv.cells.size = s + 1 by rw [← hzl]; simp]; exact Nat.beq_refl _
     simp only [c2, c3, hfl, e1, Bool.and_self, cond_true]
     have e2 : (parts.map fun (x : Nat × Operand) => (x.1, aeval F x.2)).toList = parts.toList.map fun x => (x.1, aeval F x.2) := by simp
     rw [show (parts.map fun x => match x with | (i, x) => (i, aeval F x)).toList = parts.toList.map fun x => (x.1, aeval F x.2) from e2]
     rw [show (fun i => some (i * Nat.succ s, Nat.succ s)) = (fun i => some (i * (s + 1), s + 1)) from rfl, hf]
     simp only [Nat.zero_mul, List.take_zero, List.nil_append, newRowA_eq hrow.one]
    rw [hb]
    refine ⟨_, _, rfl, _, _, _, σ, h, hr.alloc (z := s + 1) (k := .arr e ds) (fun ν' hν => .arr hs (Nat.succ_pos s) hrow), ?_, xnewn _ _ _, .refl _, rfl, .alloc _ _⟩
    have := Nat.le_of_ble_eq_true c2
    exact VRel.slc (z := s + 1) (o := .lit 0) (n := .lit len) (c := .lit len) (if_pos rfl) (by show len < UNK; unfold UNK; omega) (Nat.le_refl _) (.inl (by simp [NL.v]))
  ·exact h.elim
 ·exact h.elim
theorem fill_one {z0 : Value} {p : Option Addr} {n c : Nat} : Instr.fill (fun i => some (i * 1, 1)) #[z0] [(0, .slice p n c)] = some #[.slice p n c] := by
 simp [Instr.fill, Value.cells]
theorem flat1T_ok {e : TypeId} (h : flat1T P e = true) : ∃ z z0, zeroT P e = some z ∧ Ev.flat z = true ∧ z.cells = #[z0] := by
 unfold flat1T at h
 split at h
 ·rename_i z hz
  simp only [Bool.and_eq_true] at h
  have h2 := Nat.eq_of_beq_eq_true h.2
  have : z.cells.toList.length = 1 := by rw [Array.length_toList]; exact h2
  match hl : z.cells.toList, this with
  | [z0], _ => exact ⟨z, z0, hz, h.1, Array.toList_inj.1 (by rw [hl])⟩
 ·cases h
theorem vers_hole (hr : SR P base H0 ν σ S F H) {e e2 : TypeId} : Vers (S.alloc (.own S.nx e e2 [.int 0])) ∧
  ∀ {x k'}, At (S.alloc (.own S.nx e e2 [.int 0])) x k' → (x = .top S.nx ∧ .own S.nx e e2 [.int 0] = k') ∨ (x ≠ .top S.nx ∧ At S x k' ∧ (Wr (S.alloc (.own S.nx e e2 [.int 0])) x → Wr S x)) := by
 have hg : ∀ b, (S.alloc (.own S.nx e e2 [.int 0])).hp.get b = if b = S.nx then some (.own S.nx e e2 [.int 0]) else S.hp.get b := fun b => T.get_put _ _ _ _
 refine ⟨⟨fun c c' v e1 e2' l1 e3 e4 l' q1 q2 => ?_, fun c v e1 e2' l1 q => ?_⟩, fun {x k'} h => ?_⟩
 ·rw [hg] at q1 q2
  by_cases ea : c = S.nx <;> by_cases eb : c' = S.nx
  ·rw [ea, eb]
  ·rw [if_pos ea] at q1; rw [if_neg eb] at q2; cases q1
   have := hr.vers.2 _ _ _ _ _ q2; omega
  ·rw [if_neg ea] at q1; rw [if_pos eb] at q2; cases q2
   have := hr.vers.2 _ _ _ _ _ q1; omega
  ·rw [if_neg ea] at q1; rw [if_neg eb] at q2
   exact hr.vers.1 _ _ _ _ _ _ _ _ _ q1 q2
 ·rw [hg] at q
  show v < S.nx + 1
  by_cases ea : c = S.nx
  ·rw [if_pos ea] at q; cases q; omega
  ·rw [if_neg ea] at q; have := hr.vers.2 _ _ _ _ _ q; omega
 ·cases x with
  | top c =>
   have h1 : (S.alloc (.own S.nx e e2 [.int 0])).hp.get c = some k' := h
   rw [hg] at h1
   by_cases ec : c = S.nx
   ·rw [if_pos ec] at h1; exact .inl ⟨by rw [ec], by cases h1; rfl⟩
   ·rw [if_neg ec] at h1; exact .inr ⟨Bid.top_ne ec, h1, fun h => h⟩
  | sub w j =>
   obtain ⟨c, q1, q2, l1, r1, h1, h2, h3⟩ := h
   rw [hg] at h1
   by_cases ec : c = S.nx
   ·rw [if_pos ec] at h1; cases h1
    cases j with
    | zero => cases h2
    | succ j => cases h2
   ·rw [if_neg ec] at h1
    refine .inr ⟨fun h => (by cases h), ⟨c, q1, q2, l1, r1, h1, h2, h3⟩, fun ⟨c2, a1, a2, a3, w1, w2⟩ => ?_⟩
    rw [hg] at w1
    by_cases ec2 : c2 = S.nx
    ·rw [if_pos ec2] at w1; cases w1
     have := hr.vers.2 _ _ _ _ _ h1; omega
    ·rw [if_neg ec2] at w1; exact ⟨c2, a1, a2, a3, w1, w2⟩
theorem brel_hole {e e2 : TypeId} {v w : Nat} {x : Value} (hs : sizeT P e = some 1) (hx : oneCellB x = true) : BRel P σ ν 1 (.own v e e2 [.int w]) (some (.cells [x] e 1 none false)) :=
 ⟨[x], none, rfl, hs, by omega, rfl, by simp [hx], fun j d hj => by
  cases j with
  | zero => simp only [List.getElem?_cons_zero, Option.some.injEq] at hj; subst hj; exact .inr (.inl ⟨_, rfl⟩)
  | succ j => cases hj⟩
theorem SR.blt (hr : SR P base H0 ν σ S F H) {c : Nat} {k : SB} (h : S.hp.get c = some k) : c < S.nx := by
 obtain ⟨i, z, h1, _⟩ := hr.blkT c k h
 rcases Nat.lt_or_ge c S.nx with hl | hl
 ·exact hl
 ·rw [hr.dom (.top c) hl] at h1; cases h1
theorem symBuildOwn_ok {t : TypeId} {len : Nat} {parts : Array (Nat × Operand)} {ps : List (Nat × V)} (hr : SR P base H0 ν σ S F H) (h : symBuildOwn P S t len ps K) (hm : ps.map (·.1) = parts.toList.map (·.1)) (hl : LRel P σ ν (ps.map (·.2)) (parts.toList.map fun x => aeval F x.2)) :
  OpR P base H0 ν σ S F (buildSliceA P F t len parts H) K := by
 unfold symBuildOwn at h
 split at h
 ·rename_i e b' o n c hu
  split at h
  ·rename_i e2 l2 hb2
   cases hc : (Nat.beq len 1 && isSliceOf P e e2 && flat1T P e && Nat.ble S.ro b') with
   | false => rw [hc] at h; exact h.elim
   | true =>
    rw [hc] at h
    simp only [Bool.and_eq_true] at hc
    obtain ⟨⟨⟨c1, c2⟩, c3⟩, c4⟩ := hc
    have := Nat.eq_of_beq_eq_true c1
    subst this
    obtain ⟨hue, hs1⟩ := isSliceOf_ok c2
    obtain ⟨z, z0, hz, hfl, hzc⟩ := flat1T_ok c3
    have c4 := Nat.le_of_ble_eq_true c4
    obtain ⟨ho, hn, hcap, h⟩ := h
    have hblt := hr.blt hb2
    have hps : ∃ x, parts.toList = [(0, x)] := by
     match hp : parts.toList with
     | [] => rw [hp] at hm; simp at hm
     | [(a, x)] => rw [hp] at hm; simp at hm; exact ⟨x, by rw [hm]⟩
     | _ :: _ :: _ => rw [hp] at hm; simp at hm
    obtain ⟨x, hps⟩ := hps
    rw [hps] at hl
    obtain ⟨u, r, he, hx, hl⟩ := LRel.cons_inv (show LRel P σ ν (.slc b' o n c :: []) [aeval F x] from hl)
    cases he
    clear hl
    have key : ∀ i2 z2 cc, ν (Bid.top b') = some (i2, z2) → (cc = UNK ∨ (cc = l2.length ∧ cc < UNK)) → aeval F x = .slice (some ⟨i2, 0, none⟩) n.v cc → OpR P base H0 ν σ S F (buildSliceA P F t 1 parts H) K := by
     intro i2 z2 cc hν2 hcc hxe
     rw [hn] at hxe
     have hb : buildSliceA P F t 1 parts H = some (.slice (some ⟨H.next, 0, none⟩) 1 1, H.alloc (.cells [.slice (some ⟨i2, 0, none⟩) l2.length cc] e 1 none false)) := by
      unfold buildSliceA
      simp only [hu, hs1, hz]
      have e1 : (Nat.ble 1 16777216 && Nat.ble (1 * 1) 16777216 && Ev.flat z && Nat.beq z.cells.size 1) = true := by
       rw [hfl, hzc]; rfl
      rw [e1]
      simp only [cond_true]
      have e2 : (parts.map fun (i, x) => (i, aeval F x)).toList = [(0, .slice (some ⟨i2, 0, none⟩) l2.length cc)] := by
       rw [Array.toList_map, hps]; simp [hxe]
      have e3 : (List.replicate 1 z.cells.toList).flatten.toArray = #[z0] := by rw [hzc]; rfl
      rw [e2, e3, fill_one]
      show (match newRowA H [.slice (some ⟨i2, 0, none⟩) l2.length cc] e 1 with | some (i, h) => some (Value.slice (some ⟨i, 0, none⟩) 1 1, h) | none => none) = _
      rw [newRowA_eq (by rfl)]
     rw [hb]
     have hv := vers_hole hr (e := e) (e2 := e2)
     have hr1 := hr.allocG (z := 1) (k := .own S.nx e e2 [.int 0]) (bk := .cells [.slice (some ⟨i2, 0, none⟩) l2.length cc] e 1 none false) (fun ν' _ => brel_hole hs1 rfl) (fun _ _ _ _ _ e => by cases e; rfl) hv.2 hv.1
     have hg : ∀ b, (S.alloc (.own S.nx e e2 [.int 0])).hp.get b = if b = S.nx then some (.own S.nx e e2 [.int 0]) else S.hp.get b := fun b => T.get_put _ _ _ _
     obtain ⟨ν', hx1, hxn1, hr2⟩ := hr1.link (b := S.nx) (b' := b') (i := H.next) (z := 1) (n := 0) (i2 := i2) (z2 := z2) (c := cc) (e := e) (e2 := e2) (l := [.int 0]) (l2 := l2) (by rw [hg, if_pos rfl]) (if_pos rfl) hr.role
      (by rw [hg, if_neg (by omega)]; exact hb2) ((if_neg (Bid.top_ne (by omega))).trans hν2) c4 (by omega) hue hs1 (by decide) (.inl ⟨_, _, rfl⟩) hcc (fun cs' m hg' => by
       rw [AHeap.get_alloc, if_pos rfl] at hg'; cases hg'; rfl)
     have hxn0 := xnewn S.nx ν (H.next, 1)
     refine ⟨_, _, rfl, _, _, ν', σ, h, hr2, ?_, ?_, .refl _, rfl, ?_⟩
     ·refine VRel.slc (z := 1) (o := .lit 0) (n := .lit 1) (c := .lit 1) (i := H.next) (hx1 _ _ (if_pos rfl)) (by show 1 < UNK; unfold UNK; omega) (Nat.le_refl _) (.inl (by simp [NL.v]))
     ·exact hxn0.trans hxn1 (Nat.le_succ _)
     ·exact (Keeps.alloc _ _).trans ((Keeps.write _ _ _ (by exact c4)).trans ((Keeps.write _ _ _ (by exact hr.role)).trans (Keeps.bump _)))
    generalize hxe : aeval F x = x' at hx
    cases hx with
    | slcU hν2 =>
     rw [ho, Nat.zero_mul] at hxe
     exact key _ _ _ hν2 (.inl rfl) hxe
    | slc hν2 hcu hmc hoff =>
     rename_i i2 z2 off cc
     have h0 : off = 0 := by rw [ho, Nat.zero_mul] at hoff; omega
     subst h0
     have : cc.v = n.v := hcap
     exact key _ _ _ hν2 (.inr ⟨by rw [this, hn], hcu⟩) hxe
  ·exact h.elim
 ·exact h.elim
end
end Go.Ev
