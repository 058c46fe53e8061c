/-
  Part of the engine that the claim is proved with: it states nothing of the document by itself.
-/
import Derived.Test.YtpopdemanadllaaGreatDoorCoreSeW

namespace Go.Ev
section
variable {P : Program} {base : Nat} {H0 : AHeap × Sig} {ν : Nu} {σ : Sig} {S : SS} {F : AFrame} {H : AHeap}
theorem bytesA_of : ∀ (l : List UInt8), bytesA (l.map fun b => Value.int .u8 b.toNat) = some l
 | [] => rfl
 | b :: l => by
  show cond (Nat.blt b.toNat 256) (match bytesA (l.map fun b => Value.int .u8 b.toNat) with | some l => some (UInt8.ofNat b.toNat :: l) | none => none) none = _
  rw [bytesA_of l, show Nat.blt b.toNat 256 = true from Nat.ble_eq_true_of_le (UInt8.toNat_lt b)]
  simp
theorem bytes_row {e : TypeId} {l : List D} {row : List Value} (hu : P.underlying e = some (.int .u8)) (hs : sizeT P e = some 1) (hR : RowR P σ e 1 l row) (hb : byteL l) : row = (bytesD l).map fun b => Value.int .u8 b.toNat := by
 have hlen : row.length = l.length := by rw [hR.1, Nat.mul_one]
 apply List.ext_getElem (by simp [bytesD, hlen])
 intro j h1 h2
 have hj : j < l.length := by omega
 have hr := hR.2 j l[j] (List.getElem?_eq_getElem hj)
 obtain ⟨n, hn, hd⟩ := hb.out l[j] (List.getElem_mem hj)
 rw [hd, Nat.mul_one, List.drop_eq_getElem_cons h1] at hr
 have hv : row[j] = .int .u8 n := by
  rw [show (row[j] :: row.drop (j + 1)).take 1 = [row[j]] from rfl] at hr
  generalize row[j] = v at hr
  cases hr with
  | int h _ => rw [hu] at h; cases h; rfl
 rw [hv]
 simp only [bytesD, List.map_map, List.getElem_map, Function.comp]
 rw [hd]
 simp only [asInt_int, Int.toNat_natCast]
 rw [UInt8.toNat_ofNat', show n % 2 ^ 8 = n from Nat.mod_eq_of_lt hn]
theorem isU8_ok {t : TypeId} (h : isU8 P t = true) : P.underlying t = some (.int .u8) := by unfold isU8 at h; split at h <;> simp_all
theorem zeros_int (n : Nat) : (Builtin.zeroCells (Value.int .i64 (.ofNat 0)).cells n).toList = (List.replicate n (0 : Int)).map (Value.int .i64) := by
 simp only [Builtin.zeroCells, Value.cells, Array.toList_map, List.map_replicate]
 apply List.ext_getElem (by simp)
 intro j h1 h2
 simp only [List.getElem_map, List.getElem_replicate]
 have : ∀ k : Nat, (#[Value.int .i64 (.ofNat 0)] : Array Value)[k % 1]! = Value.int .i64 0 := fun k => by rw [Nat.mod_one]; rfl
 exact this _
theorem symClear_ok {K : V → SS → Prop} {t : TypeId} {x : V} {x' : Value} (hr : SR P base H0 ν σ S F H) (h : symClear P S t x K) (hx : VRel P σ ν x x') : OpR P base H0 ν σ S F (clearA P H t x') K := h.out.elim
theorem symAppendZ_ok {K : V → SS → Prop} {t t2 : TypeId} {s x : V} {s' x' : Value} (hr : SR P base H0 ν σ S F H) (h : symAppendZ P S t t2 s x K) (hs : VRel P σ ν s s') (hx : VRel P σ ν x x') : OpR P base H0 ν σ S F (appendZ P H t s' x') K := by
 unfold symAppendZ at h
 split at h
 ·rename_i e k z n kk hu hu2 hnl hin
  split at h
  ·rename_i inf hi hz
   cases hc : (isI64 P e && sizeIs1 P e && Nat.ble inf.bytes 4096) with
   | false => rw [hc] at h; exact h.elim
   | true =>
    rw [hc] at h
    simp only [Bool.and_eq_true] at hc
    obtain ⟨⟨c1, c2⟩, c3⟩ := hc
    obtain ⟨q0, q1, h⟩ := h
    have hu3 : P.underlying e = some (.int .i64) := by unfold isI64 at c1; split at c1 <;> simp_all
    have hz1 : sizeT P e = some 1 := sizeIs1_ok c2
    have hs1 : inf.size = 1 := by unfold sizeT at hz1; rw [hi] at hz1; exact Option.some.inj hz1
    have hzz : inf.zero = some (.int .i64 (.ofNat 0)) := by unfold zeroT at hz; rw [hi] at hz; exact hz
    have hn1 := intOf_ok hin hx
    subst hn1
    obtain ⟨⟨k', hn2⟩, hmv⟩ := nlOf_ok hnl hx
    obtain ⟨zn, rfl⟩ : ∃ zn : Nat, z = zn := ⟨z.toNat, by omega⟩
    cases hn2
    have hnv : n.v = zn := by rw [hmv]; rfl
    cases hs with
    | val _ =>
    have hrow := row_ints (σ := σ) hu3 hz1 (List.replicate zn (0 : Int))
    have hf : (Value.int .i64 (.ofNat 0)).cells.toList.all flat1 = true := rfl
    have hcs : (Value.int .i64 (.ofNat 0)).cells.size = 1 := rfl
    have ha : appendZ P H t (.slice none 0 0) (.int .i64 ((zn : Nat) : Int)) = some (.slice (some ⟨H.next, 0, none⟩) zn UNK, H.alloc (.cells ((List.replicate zn (0 : Int)).map (Value.int .i64)) e 1 none false)) := by
     have e1 : Nat.blt 0 zn = true := Nat.ble_eq_true_of_le (by omega)
     have e2 : Nat.ble zn 16777216 = true := Nat.ble_eq_true_of_le (by omega)
     show appendZ P H t (.slice none 0 0) (.int .i64 (.ofNat zn)) = _
     unfold appendZ
     simp only [hu, hi, hzz, e1, e2, hs1, hcs, hf, c3, Nat.beq_refl, Bool.and_self, cond_true, show Nat.blt 0 1 = true from rfl, zeros_int, appNew, newRowA_eq hrow.one]
    rw [ha]
    rw [List.map_replicate] at hrow
    refine ⟨_, _, rfl, _, _, _, σ, h, hr.alloc (z := 1) (k := .arr e _) (fun ν' hν => .arr hz1 (Nat.succ_pos 0) (by rw [hnv]; exact hrow)), ?_, xnewn _ _ _, .refl _, rfl, .alloc _ _⟩
    have := VRel.slcU (P := P) (σ := σ) (ν := fun b => if b = S.nx then some (H.next, 1) else ν b) (b := S.nx) (o := .lit 0) (n := n) (if_pos rfl)
    rw [hnv] at this
    simpa [NL.v] using this
  ·exact h.elim
 ·exact h.elim
theorem slc_val {b : Nat} {o n : NL} {c : Option NL} {v : Value} {i z : Nat} (h : VRel P σ ν (.slc b o n c) v) (hν : ν b = some (i, z)) (hn : 0 < n.v) : ∃ cap, v = .slice (some ⟨i, o.v * z, none⟩) n.v cap := by
 cases h with
 | slcU hν' => rw [hν] at hν'; cases hν'; exact ⟨_, rfl⟩
 | slc hν' hc' hn' ho =>
  rw [hν] at hν'; cases hν'
  rename_i off c0
  have : off = o.v * z := by rcases ho with ho | ho <;> omega
  subst this
  exact ⟨_, rfl⟩
theorem symCopy_ok {K : V → SS → Prop} {t : TypeId} {d s : V} {d' s' : Value} (hr : SR P base H0 ν σ S F H) (h : symCopy P S t d s K) (hd : VRel P σ ν d d') (hs : VRel P σ ν s s') : OpR P base H0 ν σ S F (copyA P H t d' s') K := by
 unfold symCopy at h
 split at h
 ·rename_i e b o n c b' o' n' c' hu
  split at h
  ·rename_i e1 l e2 l' hb hb'
   cases hc : (Nat.beq e e1 && Nat.beq e e2 && Nat.ble S.ro b) with
   | false => rw [hc] at h; exact h.elim
   | true =>
    rw [hc] at h
    simp only [Bool.and_eq_true] at hc
    obtain ⟨⟨q1, q2⟩, q3⟩ := hc
    have q1 := Nat.eq_of_beq_eq_true q1
    have q2 := Nat.eq_of_beq_eq_true q2
    subst q1
    subst q2
    have hro := Nat.le_of_ble_eq_true q3
    obtain ⟨h1, h2, h3, h4, h5⟩ := h
    obtain ⟨i, z, hν, hB⟩ := hr.blkT _ _ hb
    obtain ⟨cs, m, hg, hsz, hz0, hlen, hrd⟩ := hB
    obtain ⟨i2, z2, hν2, hB2⟩ := hr.blkT _ _ hb'
    obtain ⟨cs2, m2, hg2, hsz2, _, hlen2, hrd2⟩ := hB2
    have : z2 = z := by rw [hsz] at hsz2; exact (Option.some.inj hsz2).symm
    subst this
    obtain ⟨cap, rfl⟩ := slc_val hd hν h3
    obtain ⟨cap2, rfl⟩ := slc_val hs hν2 h4
    have hR : RowR P σ e z2 l cs := ⟨hlen, hrd⟩
    have hR2 : RowR P σ e z2 l' cs2 := ⟨hlen2, hrd2⟩
    generalize hk : min n'.v n.v = k at h5
    have hk0 : 0 < k := by omega
    have hkn : k ≤ n.v := by omega
    have hkn2 : k ≤ n'.v := by omega
    have hck : cond (Nat.ble n'.v n.v) n'.v n.v = k := by
     cases hq : Nat.ble n'.v n.v with
     | true => have := Nat.le_of_ble_eq_true hq; simp only [cond_true]; omega
     | false =>
      have : ¬ n'.v ≤ n.v := fun hh => by rw [Nat.ble_eq_true_of_le hh] at hq; cases hq
      simp only [cond_false]; omega
    have hm1 : (o.v + n.v) * z2 ≤ l.length * z2 := Nat.mul_le_mul_right _ h1
    have hm2 : (o'.v + n'.v) * z2 ≤ l'.length * z2 := Nat.mul_le_mul_right _ h2
    have hm3 : k * z2 ≤ n.v * z2 := Nat.mul_le_mul_right _ hkn
    have hm4 : k * z2 ≤ n'.v * z2 := Nat.mul_le_mul_right _ hkn2
    rw [Nat.add_mul] at hm1 hm2
    have t3 := (hR2.drop o'.v).take k
    have hvl : ((cs2.drop (o'.v * z2)).take (k * z2)).length = k * z2 := by rw [List.length_take, List.length_drop, hlen2]; omega
    have hw := writeCells_eq (o := o.v * z2) (vs := (cs2.drop (o'.v * z2)).take (k * z2)) hg (by rw [hvl, hlen]; omega) t3.one
    have hb0 : Nat.beq k 0 = false := beqF (by omega)
    have hs : copyA P H t (.slice (some ⟨i, o.v * z2, none⟩) n.v cap) (.slice (some ⟨i2, o'.v * z2, none⟩) n'.v cap2) = some (.int .i64 (.ofNat k), (H.kill (H.mate i)).write i (some (.cells (spliceL cs (o.v * z2) ((cs2.drop (o'.v * z2)).take (k * z2))) e z2 none false))) := by
     simp only [copyA, hu, hsz, forceNat_eq, hck, hb0, cond_false, AHeap.cells, hg2, Nat.ble_eq_true_of_le (show o'.v * z2 + k * z2 ≤ cs2.length by rw [hlen2]; omega), cond_true, hw]
    rw [hs]
    have hnew : RowR P σ e z2 (l.take o.v ++ (l'.drop o'.v).take k ++ l.drop (o.v + k)) (spliceL cs (o.v * z2) ((cs2.drop (o'.v * z2)).take (k * z2))) := by
     unfold spliceL
     rw [hvl, ← Nat.add_mul]
     exact ((hR.take o.v).append t3).append (hR.drop (o.v + k))
    exact ⟨_, _, rfl, .int .i64 (k : Nat), _, ν, σ, h5, hr.write hb hν hro (k' := .arr e _) (.arr hsz hz0 hnew), .int, .refl _, .refl _, rfl, .write _ _ _ hro⟩
  ·exact h.elim
 ·rename_i e b o n c hu
  cases hc : hasSize P e with
  | false => rw [hc] at h; exact h.elim
  | true =>
   rw [hc] at h
   obtain ⟨sz, hsz⟩ : ∃ sz, sizeT P e = some sz := by
    unfold hasSize at hc
    cases hq : sizeT P e with
    | none => rw [hq] at hc; cases hc
    | some k => exact ⟨k, rfl⟩
   cases hs with
   | val _ =>
    have hl : ∃ i off cap, d' = .slice (some ⟨i, off, none⟩) n.v cap := by cases hd with | slcU _ => exact ⟨_, _, _, rfl⟩ | slc _ _ _ _ => exact ⟨_, _, _, rfl⟩
    obtain ⟨i, off, cap, rfl⟩ := hl
    have : copyA P H t (.slice (some ⟨i, off, none⟩) n.v cap) (.slice none 0 0) = some (.int .i64 (.ofNat 0), H) := by
     simp only [copyA, hu, hsz, Nat.beq_refl, cond_true]
    rw [this]
    exact OpR.pure hr (.val rfl) h
 ·rename_i e b o n c s hu
  split at h
  ·rename_i e1 l hb
   cases hc : (Nat.beq e e1 && isU8 P e && sizeIs1 P e && Nat.ble S.ro b) with
   | false => rw [hc] at h; exact h.elim
   | true =>
    rw [hc] at h
    simp only [Bool.and_eq_true] at hc
    obtain ⟨⟨⟨q1, q2⟩, q3⟩, q4⟩ := hc
    have q1 := Nat.eq_of_beq_eq_true q1
    subst q1
    have hro := Nat.le_of_ble_eq_true q4
    have hu8 := isU8_ok q2
    have hz1 : sizeT P e = some 1 := sizeIs1_ok q3
    obtain ⟨h1, h2, h3, h5⟩ := h
    obtain ⟨i, z, hν, hB⟩ := hr.blkT _ _ hb
    obtain ⟨cs, m, hg, hsz, hz0, hlen, hrd⟩ := hB
    have : z = 1 := by rw [hz1] at hsz; exact (Option.some.inj hsz).symm
    subst this
    have hR : RowR P σ e 1 l cs := ⟨hlen, hrd⟩
    obtain ⟨cap, rfl⟩ := slc_val hd hν (by omega)
    cases hs with
    | str =>
    have hrow : RowR P σ e 1 (strD s) (s.map fun b => Value.int .u8 b.toNat) := by
     refine ⟨by simp [strD], fun j d hj => ?_⟩
     unfold strD at hj
     rw [List.getElem?_map] at hj
     cases hb : s[j]? with
     | none => rw [hb] at hj; cases hj
     | some b =>
      rw [hb] at hj
      cases hj
      have hd : (List.drop (j * 1) (s.map fun b => Value.int .u8 b.toNat)).take 1 = [Value.int .u8 b.toNat] := by
       rw [Nat.mul_one]
       have hl : j < s.length := (List.getElem?_eq_some_iff.1 hb).1
       rw [List.drop_eq_getElem_cons (by simpa using hl)]
       have : s[j] = b := (List.getElem?_eq_some_iff.1 hb).2
       simp [this]
      rw [hd]
      exact .int hu8 hz1
    have hvl : (s.map fun b => Value.int .u8 b.toNat).length = s.length := by simp
    have hw := writeCells_eq (o := o.v * 1) (vs := s.map fun b => Value.int .u8 b.toNat) hg (by rw [hvl, hlen]; omega) hrow.one
    have e1 : (⟨⟨s⟩⟩ : ByteArray).size = s.length := rfl
    have hs : copyA P H t (.slice (some ⟨i, o.v * 1, none⟩) n.v cap) (.string ⟨⟨s⟩⟩) = some (.int .i64 (.ofNat s.length), (H.kill (H.mate i)).write i (some (.cells (spliceL cs (o.v * 1) (s.map fun b => Value.int .u8 b.toNat)) e 1 none false))) := by
     have e2 : Nat.blt 0 s.length = true := Nat.ble_eq_true_of_le h3
     simp only [copyA, hu, hz1, e1, Nat.beq_refl, Nat.ble_eq_true_of_le h2, e2, Bool.and_self, cond_true, hw]
    rw [hs]
    have hnew : RowR P σ e 1 (l.take o.v ++ strD s ++ l.drop (o.v + s.length)) (spliceL cs (o.v * 1) (s.map fun b => Value.int .u8 b.toNat)) := by
     unfold spliceL
     rw [hvl]
     have t1 := hR.take o.v
     have t2 := hR.drop (o.v + s.length)
     rw [Nat.mul_one] at t1 t2 ⊢
     exact (t1.append hrow).append t2
    exact ⟨_, _, rfl, .int .i64 (s.length : Nat), _, ν, σ, h5, hr.write hb hν hro (k' := .arr e _) (.arr hz1 (by omega) hnew), .int, .refl _, .refl _, rfl, .write _ _ _ hro⟩
  ·exact h.elim
 ·exact h.elim
theorem symData_ok {K : V → SS → Prop} {x : V} {x' : Value} (hr : SR P base H0 ν σ S F H) (h : symData x K S) (hx : VRel P σ ν x x') : OpR P base H0 ν σ S F (dataA [x'] H) K := by
 unfold symData at h
 split at h
 ·rename_i b o n c
  obtain ⟨hn, h⟩ := h
  have hb0 : Nat.beq n.v 0 = false := beqF hn
  cases hx with
  | slcU hν =>
   simp only [dataA, hb0, cond_false]
   exact OpR.pure hr (.ept hν) h
  | slc hν hc hnc ho =>
   rename_i ii zq off c0
   have : off = o.v * zq := by rcases ho with ho | ho; exact ho; omega
   subst this
   simp only [dataA, hb0, cond_false]
   exact OpR.pure hr (.ept hν) h
 ·cases hx with
  | val _ => exact OpR.pure hr (.val rfl) h
 ·exact h.elim
theorem symUStr_ok {K : V → SS → Prop} {ats : Array TypeId} {t : TypeId} {p n : V} {p' n' : Value} (hr : SR P base H0 ν σ S F H) (ht : ats[0]? = some t) (h : symUStr P S t p n K) (hp : VRel P σ ν p p') (hn : VRel P σ ν n n') : OpR P base H0 ν σ S F (stringA P ats [p', n'] H) K := by
 unfold symUStr at h
 split at h
 ·rename_i b o
  split at h
  ·rename_i e e' l zz m z hu hb hnl hin
   cases hc : (Nat.beq e e' && isU8 P e && sizeIs1 P e && Nat.beq (P.cellsOf e) 1 && Nat.ble S.ro b) with
   | false => rw [hc] at h; exact h.elim
   | true =>
    rw [hc] at h
    simp only [Bool.and_eq_true] at hc
    obtain ⟨⟨⟨⟨c1, c2⟩, c3⟩, c4⟩, c5⟩ := hc
    have := Nat.eq_of_beq_eq_true c1
    subst this
    have hro := Nat.le_of_ble_eq_true c5
    obtain ⟨hz, hm0, hm1, hle, hby, h⟩ := h
    have hn1 := intOf_ok hin hn
    obtain ⟨⟨kk, hn2⟩, hmv⟩ := nlOf_ok hnl hn
    rw [hn1] at hn2
    have hzz : zz = z := by cases hn2; rfl
    rw [hzz] at hmv
    clear hzz hn2
    obtain ⟨q, rfl⟩ : ∃ q : Nat, z = Int.ofNat q := ⟨z.toNat, by simp; omega⟩
    have hq : m.v = q := by rw [hmv]; rfl
    obtain ⟨i, z2, hν, hB⟩ := hr.blkT _ _ hb
    obtain ⟨cs, mt, hg, hsz, hz0, hlen, hrd⟩ := hB
    have hz1 : sizeT P e = some 1 := sizeIs1_ok c3
    have : z2 = 1 := by rw [hz1] at hsz; exact (Option.some.inj hsz).symm
    subst this
    have hR : RowR P σ e 1 ((l.drop o.v).take m.v) ((cs.drop o.v).take m.v) := by
     have := (RowR.take (RowR.drop (⟨hlen, hrd⟩ : RowR P σ e 1 l cs) o.v) m.v)
     simpa using this
    have hrow := bytes_row (isU8_ok c2) hz1 hR hby
    have hml : o.v + q ≤ cs.length := by rw [hlen]; omega
    cases hp with
    | ept hν' =>
    rw [hν] at hν'; cases hν'
    rw [hn1]
    have hmate := mate_cells hg
    have hs : stringA P ats [.pointer (some ⟨i, o.v * 1, none⟩), .int .i64 (Int.ofNat q)] H = some (.string ⟨⟨bytesD ((l.drop o.v).take m.v)⟩⟩, (H.kill (H.mate i)).write i (some (.cells cs e 1 none true))) := by
     have h1 : (Nat.beq e e && Nat.beq (P.cellsOf e) 1 && Nat.blt 0 q && Nat.ble (o.v + q) cs.length && Nat.ble q 16777216) = true := by
      simp only [Bool.and_eq_true]
      exact ⟨⟨⟨⟨Nat.beq_refl e, c4⟩, Nat.ble_eq_true_of_le (by omega)⟩, Nat.ble_eq_true_of_le hml⟩, Nat.ble_eq_true_of_le (by omega)⟩
     rw [hq] at hrow
     simp only [stringA, ht, hu, hg, Nat.mul_one, h1, cond_true, hrow, bytesA_of, hmate, hq]
    rw [hs]
    exact ⟨_, _, rfl, _, _, ν, σ, h, hr.lose hb hν hro (fun _ _ _ _ _ h => by cases h; rfl), .str, .refl _, .refl _, rfl, .write _ _ _ hro⟩
  ·exact h.elim
 ·split at h
  ·cases hp with
   | val _ =>
   cases hn with
   | val _ =>
   have : stringA P ats [.pointer none, .int .i64 (.ofNat 0)] H = some (.string ⟨#[]⟩, H) := by simp only [stringA, ht]
   exact OpR.pure hr (.val rfl) h |> fun q => by rw [this]; exact q
  ·exact h.elim
 ·exact h.elim
theorem symConvS_ok {Kv : V → Prop} {s d : TypeId} {x : V} {x' : Value} (hr : SR P base H0 ν σ S F H) (h : symConvS P S s d x Kv) (hx : VRel P σ ν x x') : VOK P σ ν H (convA P s d x' H) Kv := by
 unfold symConvS at h
 exact symConv_ok h hx H
noncomputable def frzS (S : SS) (ν : Nu) (σ : Sig) (H : AHeap) (b : Nat) : Sig := fun i =>
 match σ i with
 | some c => some c
 | none =>
  open Classical in
  if ∃ x k z, (x = Bid.top b ∨ ∃ v e e' l j, S.hp.get b = some (.own v e e' l) ∧ x = Bid.sub v j) ∧ At S x k ∧ ν x = some (i, z) then
   (match H.get i with | some (.cells cs _ esz _ _) => some (cs, esz) | _ => none) else none
theorem SR.freeze (hr : SR P base H0 ν σ S F H) {b : Nat} {k : SB} (hb : S.hp.get b = some k) (hro : S.ro ≤ b) :
  XS σ (frzS S ν σ H b) ∧ SR P base H0 ν (frzS S ν σ H b) (S.write b none) F H ∧
   ∀ x k i z cs e esz m ro, (x = Bid.top b ∨ ∃ v e e' l j, S.hp.get b = some (.own v e e' l) ∧ x = Bid.sub v j) → At S x k → ν x = some (i, z) → H.get i = some (.cells cs e esz m ro) → frzS S ν σ H b i = some (cs, esz) := by
 have hx : XS σ (frzS S ν σ H b) := fun j c hj => by unfold frzS; rw [hj]
 have hin : ∀ x k i z cs e esz m ro, (x = Bid.top b ∨ ∃ v e e' l j, S.hp.get b = some (.own v e e' l) ∧ x = Bid.sub v j) → At S x k → ν x = some (i, z) → H.get i = some (.cells cs e esz m ro) → frzS S ν σ H b i = some (cs, esz) := fun x k i z cs e esz m ro h1 h2 h3 h4 => by
  unfold frzS
  rw [hr.apart x k i z h2 h3]
  simp only
  rw [if_pos ⟨x, k, z, h1, h2, h3⟩, h4]
 have hof : ∀ i c, frzS S ν σ H b i = some c → σ i = some c ∨ ∃ x k z e m ro, (x = Bid.top b ∨ ∃ v e e' l j, S.hp.get b = some (.own v e e' l) ∧ x = Bid.sub v j) ∧ At S x k ∧ ν x = some (i, z) ∧ H.get i = some (.cells c.1 e c.2 m ro) := fun i c h => by
  unfold frzS at h
  split at h
  ·rename_i c' hc; left; rw [hc]; exact h
  ·right
   split at h
   ·rename_i hex
    obtain ⟨x, k, z, h1, h2, h3⟩ := hex
    split at h
    ·rename_i cs e esz m ro hg
     simp only [Option.some.injEq] at h
     subst h
     exact ⟨x, k, z, e, m, ro, h1, h2, h3, hg⟩
    ·cases h
   ·cases h
 -- what is gone stands apart from what stays
 have hgone : ∀ x k, At (S.write b none) x k → ¬ (x = Bid.top b ∨ ∃ v e e' l j, S.hp.get b = some (.own v e e' l) ∧ x = Bid.sub v j) := fun x k h hh => by
  obtain ⟨e1, h0, _⟩ := At.gone h
  rcases hh with hh | ⟨v, e, e', l, j, h1, rfl⟩
  ·exact e1 hh
  ·obtain ⟨c, q1, q2, l1, r, g1, _, _⟩ := h
   have g1' : T.get (T.put S.hp b none) c = some (.own v q1 q2 l1) := g1
   rw [T.get_put] at g1'
   by_cases ec : c = b
   ·rw [if_pos ec] at g1'; cases g1'
   ·rw [if_neg ec] at g1'
    exact ec (hr.vers.1 _ _ _ _ _ _ _ _ _ g1' h1)
 have hnone : ∀ x k i z, At (S.write b none) x k → ν x = some (i, z) → frzS S ν σ H b i = none := fun x k i z h hν => by
  have h0 := (At.gone h).2.1
  cases hc : frzS S ν σ H b i with
  | none => rfl
  | some c =>
   rcases hof i c hc with h1 | ⟨x', k', z', _, _, _, h1, h2, h3, _⟩
   ·rw [hr.apart x k i z h0 hν] at h1; cases h1
   ·have := hr.inj _ _ _ _ _ _ _ h0 h2 hν h3
    subst this
    exact absurd h1 (hgone _ _ h)
 refine ⟨hx, ⟨fun t v h => (hr.fr t v h).mono hx (.refl _), hr.fsz, hr.top, hr.mks, ?_, hr.lt, hr.dom, fun x x' k1 k2 i1 z1 z2 a1 a2 h1 h2 => hr.inj _ _ _ _ _ _ _ (At.gone a1).2.1 (At.gone a2).2.1 h1 h2, fun x k1 i1 z1 a hw h => hr.own _ _ _ _ (At.gone a).2.1 ((At.gone a).2.2 hw) h, ?_, hnone, ?_, hr.wl, hr.old, hr.nxt, hr.role, ?_, hr.vers.gone b⟩, hin⟩
 ·intro b' k h
  obtain ⟨_, h, _⟩ := At.gone h
  obtain ⟨i', z', h1, h2⟩ := hr.blk b' k h
  exact ⟨i', z', h1, h2.mono hx (.refl _)⟩
 ·intro j c hj
  rcases hof j c hj with h1 | ⟨x', k', z', e, m, ro, h1, h2, h3, h4⟩
  ·exact hr.sig j c h1
  ·exact ⟨hr.lt _ _ _ h3, e, m, ro, h4⟩
 ·intro x k i' z' m' h h' hm
  obtain ⟨_, h0, aw⟩ := At.gone h
  obtain ⟨q1, q2, q3, q4⟩ := hr.mates x k i' z' m' h0 h' hm
  refine ⟨fun hw => q1 (aw hw), q2, ?_, fun b2 k2 z2 hb2 => q4 b2 k2 z2 (At.gone hb2).2.1⟩
  cases hc : frzS S ν σ H b m' with
  | none => rfl
  | some c =>
   rcases hof m' c hc with h1 | ⟨x', k', z', _, _, _, h1, h2, h3, _⟩
   ·rw [q3] at h1; cases h1
   ·exact absurd h3 (q4 _ _ _ h2)
 ·refine ⟨fun j c hj hlt => ?_, hr.sb.2.mono hx⟩
  rcases hof j c hj with h1 | ⟨x', k', z', _, _, _, h1, h2, h3, _⟩
  ·exact hr.sb.1 j c h1 hlt
  ·have hw : Wr S x' := by
    rcases h1 with rfl | ⟨v, e, e', l, j, h1, rfl⟩
    ·exact hro
    ·exact ⟨b, e, e', l, h1, hro⟩
   have := hr.own _ _ _ _ h2 hw h3
   omega
def FzR (P : Program) (base : Nat) (H0 : AHeap × Sig) (ν : Nu) (σ : Sig) (S : SS) (F : AFrame) (H : AHeap) (σ1 : Sig) (S1 : SS) : Prop :=
 SR P base H0 ν σ1 S1 F H ∧ XS σ σ1 ∧ S1.fr = S.fr ∧ S1.nx = S.nx ∧ Keeps S S1
theorem FzR.refl (hr : SR P base H0 ν σ S F H) : FzR P base H0 ν σ S F H σ S := ⟨hr, .refl _, rfl, rfl, .refl _⟩
theorem FzR.trans {σ1 σ2 : Sig} {S1 S2 : SS} (h : FzR P base H0 ν σ S F H σ1 S1) (k : FzR P base H0 ν σ1 S1 F H σ2 S2) : FzR P base H0 ν σ S F H σ2 S2 :=
 ⟨k.1, h.2.1.trans k.2.1, k.2.2.1.trans h.2.2.1, k.2.2.2.1.trans h.2.2.2.1, h.2.2.2.2.trans k.2.2.2.2⟩
theorem frz1_ok (hr : SR P base H0 ν σ S F H) {t : TypeId} {v : V} {v' : Value} {K : V → SS → Prop} (h : frz1 P S t v K) (hv : VRel P σ ν v v') :
  ∃ u S1 σ1, K u S1 ∧ FzR P base H0 ν σ S F H σ1 S1 ∧ VRel P σ1 ν u v' := by
 unfold frz1 at h
 split at h
 ·rename_i b o n c
  split at h
  ·rename_i e l hb
   cases hso : (isSliceOf P t e && Nat.ble S.ro b) with
   | false => rw [hso] at h; exact h.elim
   | true =>
    rw [hso] at h
    obtain ⟨hle, h⟩ := h
    simp only [Bool.and_eq_true] at hso
    obtain ⟨hso, hrb⟩ := hso
    obtain ⟨hu, hst⟩ := isSliceOf_ok hso
    obtain ⟨i, z, hν, hB⟩ := hr.blkT _ _ hb
    obtain ⟨cs, m, hg, hz, h0, hlen, hrd⟩ := hB
    obtain ⟨hx, hr1, hin⟩ := hr.freeze hb (Nat.le_of_ble_eq_true hrb)
    refine ⟨_, _, _, h, ⟨hr1, hx, rfl, rfl, .write _ _ _ (Nat.le_of_ble_eq_true hrb)⟩, ?_⟩
    obtain ⟨off, cap, rfl, ho, hc⟩ := slc_at hv hν
    exact dat_of_row hu hst hz (hin _ _ _ _ _ _ _ _ _ (.inl rfl) (show At S (.top b) _ from hb) hν hg) (RowR.mono ⟨hlen, hrd⟩ hx) hle ho hc
  ·rename_i w e e' l hb
   cases hso : (isSliceOf P t e && Nat.ble S.ro b) with
   | false => rw [hso] at h; exact h.elim
   | true =>
    rw [hso] at h
    obtain ⟨hle, hh, ⟨hsl, hs1⟩, h⟩ := h
    simp only [Bool.and_eq_true] at hso
    obtain ⟨hso, hrb⟩ := hso
    obtain ⟨hu, hst⟩ := isSliceOf_ok hso
    obtain ⟨i, z, hν, hB⟩ := hr.blkT _ _ hb
    obtain ⟨cs, m, hg, hz, h0, hlen, hone, hrd⟩ := hB
    obtain ⟨hx, hr1, hin⟩ := hr.freeze hb (Nat.le_of_ble_eq_true hrb)
    refine ⟨_, _, _, h, ⟨hr1, hx, rfl, rfl, .write _ _ _ (Nat.le_of_ble_eq_true hrb)⟩, ?_⟩
    obtain ⟨off, cap, rfl, ho, hc⟩ := slc_at hv hν
    refine dat_of_row hu hst hz (hin _ _ _ _ _ _ _ _ _ (.inl rfl) (show At S (.top b) _ from hb) hν hg) ⟨hlen, fun j d hj => ?_⟩ hle ho hc
    obtain ⟨e1, hu1⟩ : ∃ e1, P.underlying e = some (.slice e1) := by unfold isSliceT at hsl; split at hsl <;> simp_all
    have hst1 := sizeIs_ok hs1
    have hz1 : z = 1 := by rw [hst1] at hz; exact (Option.some.inj hz).symm
    subst hz1
    rw [Nat.mul_one]
    have hjl : j < cs.length := by have := (List.getElem?_eq_some_iff.1 hj).1; omega
    have hone1 : ∀ w, cs[j]? = some w → (cs.drop j).take 1 = [w] := fun w hw => by
     rw [List.getElem?_eq_getElem hjl] at hw
     simp only [Option.some.injEq] at hw
     rw [List.drop_eq_getElem_cons hjl]
     simp [hw]
    rcases hrd j d hj with ⟨h1, _, h2⟩ | ⟨n, h1⟩ | ⟨r, q, y, c, h1, _, h3, h4, h5, h6⟩
    ·subst h1
     rw [hone1 _ (h2 hsl)]
     exact .nil hu1 hst1
    ·subst h1
     exact absurd (List.mem_of_getElem? hj) (hh.out n)
    ·subst h1
     rw [hone1 _ h5]
     have hat : At S (.sub w j) (.arr e' r) := ⟨b, e, e', l, r, hb, hj, rfl⟩
     obtain ⟨i2, z2, hν2, hB2⟩ := hr.blk _ _ hat
     rw [h4] at hν2; cases hν2
     obtain ⟨cs2, m2, hg2, hs2, h02, hlen2, hrd2⟩ := hB2
     exact .list h3 hst1 hs2 (hin _ _ _ _ _ _ _ _ _ (.inr ⟨w, e, e', l, j, hb, rfl⟩) hat h4 hg2) (by rw [Nat.zero_add, hlen2]; exact Nat.le_refl _) (by rcases h6 with h6 | h6; exact .inl h6; exact .inr ⟨by omega, h6.2⟩) (fun j2 d2 hj2 => by rw [Nat.zero_add]; exact (hrd2 j2 d2 hj2).mono hx)
  ·exact h.elim
 ·exact ⟨v, S, σ, h, .refl hr, hv⟩
theorem SR.ghost (hr : SR P base H0 ν σ S F H) {b i z : Nat} {k k' : SB} (hk : S.hp.get b = some k) (hν : ν (Bid.top b) = some (i, z)) (hb : BRel P σ ν z k' (H.get i)) (hno : k'.isOwn = false := by rfl) : SR P base H0 ν σ (S.write b (some k')) F H := by
 have hg : ∀ b', (S.write b (some k')).hp.get b' = if b' = b then some k' else S.hp.get b' := fun b' => T.get_put _ _ _ _
 refine hr.remap hr.fr rfl (fun x => x) (fun x k2 h => ?_) (fun _ _ _ _ _ _ he => he) hr.lt hr.dom hr.role (hr.vers.put hg (noOwn.of hno) (Nat.le_refl _)) hr.mks
 rcases At.put (S := S) (S' := S.write b (some k')) hg (noOwn.of hno) rfl h with ⟨a, e⟩ | ⟨_, a, w⟩
 ·subst a; cases e
  refine ⟨k, hk, rfl, fun h => h, fun i1 z1 h1 _ => ?_⟩
  have h1' : ν (.top b) = some (i1, z1) := h1
  rw [hν] at h1'; cases h1'
  exact hb
 ·exact ⟨k2, a, rfl, w, fun _ _ _ h => h⟩
theorem symFrz_ok : ∀ (l : List (Tmp × Nat × TypeId)) {S : SS} {σ : Sig} {K : SS → Prop}, SR P base H0 ν σ S F H → symFrz P l S K → ∃ S1 σ1, K S1 ∧ FzR P base H0 ν σ S F H σ1 S1
 | [], S, σ, K, hr, h => ⟨S, σ, h, FzR.refl hr⟩
 | x :: l, S, σ, K, hr, h => by
  simp only [symFrz] at h
  split at h
  ·rename_i b hfr
   split at h
   ·rename_i be cs hb
    split at h
    ·rename_i v hv
     cases hro : Nat.ble S.ro b with
     | false => rw [hro] at h; exact h.elim
     | true =>
      rw [hro] at h
      simp only [cond_true] at h
      have hro := Nat.le_of_ble_eq_true hro
      obtain ⟨i, z, hν, hB⟩ := hr.blkT _ _ hb
      obtain ⟨cs', m, hg, hl⟩ := hB
      obtain ⟨v', hv', hvr⟩ := hl.get hv
      obtain ⟨u, S1, σ1, h, f1, hu⟩ := frz1_ok hr h hvr
      split at h
      ·rename_i be1 cs1 hb1
       obtain ⟨i1, z1, hν1, hB1⟩ := f1.1.blkT _ _ hb1
       rw [hν] at hν1; cases hν1
       obtain ⟨cs2, m1, hg1, hl1⟩ := hB1
       rw [hg] at hg1
       injection hg1 with hg1
       injection hg1 with q1 q2 q3 q4 q5
       subst q1
       have hro1 : S1.ro ≤ b := by have := f1.2.2.2.2.ro; rw [this]; exact hro
       have hg2 := f1.1.ghost (k' := .box be1 (cs1.set x.2.1 u)) hb1 hν ⟨cs', m, by rw [hg, q2], by simpa using hl1.1, fun j w w' hw hw' => by
        rw [List.getElem?_set] at hw
        split at hw
        ·rename_i e
         split at hw
         ·cases hw
          rw [← e, hv'] at hw'; cases hw'
          exact hu
         ·cases hw
        ·exact hl1.2 j w w' hw hw'⟩
       obtain ⟨S2, σ2, h, f2⟩ := symFrz_ok l hg2 h
       exact ⟨S2, σ2, h, f1.trans (FzR.trans ⟨hg2, .refl _, rfl, rfl, .write _ _ _ hro1⟩ f2)⟩
      ·exact h.elim
    ·exact h.elim
   ·exact h.elim
  ·exact h.elim
theorem frzL_ok : ∀ {ts : List TypeId} {vs : List V} {vs' : List Value} {S : SS} {σ : Sig} {K : List V → SS → Prop}, SR P base H0 ν σ S F H → frzL P ts vs S K → LRel P σ ν vs vs' →
  ∃ us S1 σ1, K us S1 ∧ FzR P base H0 ν σ S F H σ1 S1 ∧ LRel P σ1 ν us vs'
 | ts, [], vs', S, σ, K, hr, h, hv => ⟨[], S, σ, by cases ts <;> exact h, .refl hr, by rw [hv.nil_inv]; exact .nil⟩
 | [], v :: vs, vs', S, σ, K, hr, h, hv => ⟨v :: vs, S, σ, h, .refl hr, hv⟩
 | t :: ts, v :: vs, vs', S, σ, K, hr, h, hv => by
  obtain ⟨v', r, rfl, h1, h2⟩ := hv.cons_inv
  obtain ⟨u, S1, σ1, h, f1, hu⟩ := frz1_ok hr (show frz1 P S t v (fun v S => frzL P ts vs S fun vs S => K (v :: vs) S) from h) h1
  obtain ⟨us, S2, σ2, h, f2, hus⟩ := frzL_ok f1.1 h (h2.mono f1.2.1 (.refl _))
  exact ⟨u :: us, S2, σ2, h, f1.trans f2, .cons (hu.mono f2.2.1 (.refl _)) hus⟩
theorem frzV_ok (hr : SR P base H0 ν σ S F H) {ts : List TypeId} {v : V} {v' : Value} {K : V → SS → Prop} (h : frzV P S ts v K) (hv : VRel P σ ν v v') :
  ∃ u S1 σ1, K u S1 ∧ FzR P base H0 ν σ S F H σ1 S1 ∧ VRel P σ1 ν u v' := by
 unfold frzV at h
 split at h
 ·cases hv with
  | agg h1 h2 =>
   obtain ⟨us, S1, σ1, h, f1, hu⟩ := frzL_ok hr h ⟨h1, h2⟩
   exact ⟨_, S1, σ1, h, f1, .agg hu.1 hu.2⟩
 ·split at h
  ·exact frz1_ok hr h hv
  ·exact ⟨_, S, σ, h, .refl hr, hv⟩
 ·exact ⟨_, S, σ, h, .refl hr, hv⟩
theorem frzParts_ok {ts : List TypeId} : ∀ {ps : List (Nat × V)} {vs' : List Value} {S : SS} {σ : Sig} {K : List (Nat × V) → SS → Prop}, SR P base H0 ν σ S F H → frzParts P ts ps S K → LRel P σ ν (ps.map (·.2)) vs' →
  ∃ us S1 σ1, K us S1 ∧ us.map (·.1) = ps.map (·.1) ∧ FzR P base H0 ν σ S F H σ1 S1 ∧ LRel P σ1 ν (us.map (·.2)) vs'
 | [], vs', S, σ, K, hr, h, hv => ⟨[], S, σ, h, rfl, .refl hr, hv⟩
 | x :: ps, vs', S, σ, K, hr, h, hv => by
  obtain ⟨v', r, rfl, h1, h2⟩ := LRel.cons_inv (show LRel P σ ν (x.2 :: ps.map (·.2)) vs' from hv)
  obtain ⟨u, S1, σ1, h, f1, hu⟩ := frzV_ok hr (show frzV P S ts x.2 (fun v S => frzParts P ts ps S fun ps S => K ((x.1, v) :: ps) S) from h) h1
  obtain ⟨us, S2, σ2, h, hm, f2, hus⟩ := frzParts_ok f1.1 h (h2.mono f1.2.1 (.refl _))
  exact ⟨(x.1, u) :: us, S2, σ2, h, by simp [hm], f1.trans f2, .cons (hu.mono f2.2.1 (.refl _)) hus⟩
theorem OpR.frozen {σ1 : Sig} {S1 : SS} {r : Option (Value × AHeap)} {K : V → SS → Prop} (f : FzR P base H0 ν σ S F H σ1 S1) (h : OpR P base H0 ν σ1 S1 F r K) : OpR P base H0 ν σ S F r K := by
 obtain ⟨v', h', hr, v, S', ν', σ', k, sr, hv, hn, hx, hf, hk⟩ := h
 exact ⟨v', h', hr, v, S', ν', σ', k, sr, hv, by rw [← f.2.2.2.1]; exact hn, f.2.1.trans hx, hf.trans f.2.2.1, f.2.2.2.2.trans hk⟩
variable {K : V → SS → Prop}
theorem SR.drop (hr : SR P base H0 ν σ S F H) {b i z : Nat} {k : SB} (hk : S.hp.get b = some k) (hν : ν (Bid.top b) = some (i, z)) (hro : S.ro ≤ b) :
  SR P base H0 ν σ (S.write b none) F ((H.kill (H.mate i)).write i none) := hr.lose hk hν hro (fun _ _ _ _ _ h => by cases h)
theorem SR.rebase {P : Program} (hr : SR P base H0 ν σ S F H) {wl : Nat} (hwl : H.next ≤ wl) : SR P H.next (H, σ) ν σ { S with ro := S.nx } F { H with wlow := wl } := by
 have hat : ∀ x k, At { S with ro := S.nx } x k → At S x k := fun x k h => by cases x <;> exact h
 have hwr : ∀ x k i z, At S x k → Wr { S with ro := S.nx } x → ν x = some (i, z) → False := fun x k i z a hw h => by
  cases x with
  | top b => rw [hr.dom (.top b) hw] at h; cases h
  | sub v j =>
   obtain ⟨b, e, e', l, h1, h2⟩ := hw
   obtain ⟨i', z', h3, _⟩ := hr.blkT b _ h1
   rw [hr.dom (.top b) h2] at h3; cases h3
 exact ⟨hr.fr, hr.fsz, hr.top, hr.mks, fun x k h => hr.blk x k (hat x k h), hr.lt, hr.dom, fun x x' k k' i z z' a1 a2 => hr.inj x x' k k' i z z' (hat _ _ a1) (hat _ _ a2), fun x k i z a hw h => (hwr x k i z (hat _ _ a) hw h).elim, hr.sig, fun x k i z a => hr.apart x k i z (hat _ _ a),
  fun x k i z m h h' hm => ⟨fun hw => (hwr x k i z (hat _ _ h) hw h').elim, (hr.mates x k i z m (hat _ _ h) h' hm).2.1, (hr.mates x k i z m (hat _ _ h) h' hm).2.2.1, fun x2 k2 z2 a2 => (hr.mates x k i z m (hat _ _ h) h' hm).2.2.2 x2 k2 z2 (hat _ _ a2)⟩, hwl, fun _ _ => rfl, Nat.le_refl _, Nat.le_refl _, ⟨fun _ _ h _ => h, hr.sb.2⟩, hr.vers⟩
theorem symSortC_ok {C : Ctx} {G : Msk} {srun : SRun} {run : Run} (hfast : G.fast = false) (hbits : G.bits = C.bits) (hrun : RunS C.P srun run) {args : List V} {args' : List Value}
  (hr : SR C.P base H0 ν σ S F H) (h : symSortC C srun S args K) (hl : LRel C.P σ ν args args') : OpR C.P base H0 ν σ S F (sortCA C.P G run args' H) K := h.out.elim
theorem callE0_sym {C : Ctx} {G : Msk} {srun : SRun} {run : Run} (hfast : G.fast = false) (hbits : G.bits = C.bits) (hora : G.ora = C.ora) (htab : ∀ g, TabOK C.P (G.tab g) (C.tab g)) (hsrt : G.srt = C.srt) (hsrtC : G.srtC = C.srtC) (hrun : RunS C.P srun run) (hcon : ∀ g c, C.con g = some c → Valid C.P G run g c) {g : FuncId} {ts : List TypeId} {args : List V} {args' : List Value}
  (hr : SR C.P base H0 ν σ S F H) (h : symCall C srun g ts args S K) (hl : LRel C.P σ ν args args') : OpR C.P base H0 ν σ S F (callE0 C.P G run g args' H) K := by
 have hext : externA C.P g [undef] = none → externA C.P g args' = none := fun h => by
  unfold externA at h ⊢
  split at h
  ·rename_i fn hf
   split at h
   ·rename_i b hb; first | rfl | simp only [hb]
   ·rename_i hb
    first | simp only [hb] | skip
    simp only at h
    split
    ·rename_i v
     cases hq : (fn.name == "internal/abi.NoEscape" && (fn.origin == "" || fn.origin == "internal/abi.NoEscape")) with
     | true => rw [hq] at h; cases h
     | false => rfl
    ·rfl
  ·rename_i hf; first | rfl | rw [hf]
 have hcp : callP C.P G run g args' H = callF C.P G run g ⟨args'⟩ H := by unfold callP; rw [hfast]; rfl
 unfold symCall at h
 unfold callE0
 split at h
 ·rename_i u x o he
  obtain ⟨x', r, rfl, hx, hn⟩ := hl.cons_inv
  have := hn.nil_inv
  subst this
  have : externA C.P g [x'] = some x' := by
   unfold externA at he ⊢
   split at he
   ·rename_i fn hf
    split at he
    ·cases he
    ·rename_i hb
     simp only at he
     cases hq : (fn.name == "internal/abi.NoEscape" && (fn.origin == "" || fn.origin == "internal/abi.NoEscape")) with
     | true => simp only [hb, hq, cond_true]
     | false => rw [hq] at he; cases he
   ·cases he
  rw [this]
  exact OpR.pure hr hx h
 ·exact h.elim
 ·rename_i v he ho
  rw [hext he]
  have := hl.nil_inv
  subst this
  simp only [hora, ho]
  cases hf : flat1 v with
  | false => rw [hf] at h; exact h.elim
  | true => rw [hf] at h; exact OpR.pure hr (.val hf) h
 ·rename_i A o1 B o2 he hno
  rw [hext he]
  simp only
  suffices hgo : OpR C.P base H0 ν σ S F (match G.tab g args' with | some v => cond (args'.all Ev.flat) (some (v, H)) none | none => (match G.srt g with | some f => sortA f args' H | none => cond (G.srtC g) (sortCA C.P G run args' H) (callP C.P G run g args' H))) K by
   split
   ·rename_i v hv
    have ha : A = [] := List.eq_nil_of_length_eq_zero hl.1
    exact absurd (by rw [← hora]; exact hv) (hno v ha)
   ·exact hgo
  have hT := htab g
  split at h
  ·rename_i c hc
   rw [hc] at hT
   split at h
   ·rename_i p r hcr
    obtain ⟨hall, v, hv, hvr⟩ := hT _ _ _ hcr h.1 _ _ _ hl
    rw [hv, hall]
    exact OpR.pure hr hvr h.2
   ·exact h.elim
  rename_i hct
  rw [hct] at hT
  rw [show G.tab g args' = none from hT args']
  rw [hsrt]
  split at h
  ·rename_i f hsg
   rw [hsg]; exact symSort_ok hr h hl
  rename_i hsg
  rw [hsg]
  rw [hsrtC]
  cases hsc : C.srtC g with
  | true => rw [hsc] at h; exact symSortC_ok hfast hbits hrun hr h hl
  | false =>
  rw [hsc] at h
  simp only [cond_false] at h ⊢
  suffices hgo : OpR C.P base H0 ν σ S F (callF C.P G run g ⟨args'⟩ H) K by
   rw [hcp]; exact hgo
  split at h
  ·rename_i c hc
   obtain ⟨us, h, hus, hfree⟩ := lendAll_ok hr h hl
   split at h
   ·rename_i p r hcr
    cases hq : (r.freeR && (r.plainR || A.all V.freeR)) with
    | false =>
     rw [hq] at h
     obtain ⟨bs, S1, σ1, h, f1, hbs⟩ := frzL_ok hr h hl
     split at h
     ·rename_i p1 r1 hcr1
      obtain ⟨hp1, h⟩ := h
      cases hq1 : (r1.freeR && bs.all V.freeR) with
      | false => rw [hq1] at h; exact h.elim
      | true =>
       rw [hq1] at h
       simp only [Bool.and_eq_true] at hq1
       have hl0 : LRel C.P σ1 (fun _ => none) bs args' := ⟨hbs.1, fun j v v' a b => (hbs.2 j v v' a b).freeR (List.all_eq_true.1 hq1.2 v (List.mem_of_getElem? a)) _⟩
       have hr1 := f1.1
       obtain ⟨v, H', σ', hcall, hx, hs, hnew, hn, hg, hw, hv⟩ := hcon g c hc bs p1 r1 hcr1 hp1 _ H args' ⟨hr1.sig, hr1.sb.2⟩ hl0
       rw [hcall]
       exact OpR.frozen f1 ⟨v, H', rfl, r1, S1, ν, σ', h, hr1.grow hx hs hnew hn hg (hw _ hr1.wl hr1.nxt), hv.mono (.refl _) (fun b c hb => by cases hb), .refl _, hx, rfl, .refl _⟩
     ·exact h.elim
    | true =>
     rw [hq] at h
     obtain ⟨hp, h⟩ := h
     simp only [Bool.and_eq_true, Bool.or_eq_true] at hq
     have hV := hcon g c hc
     have hplain : r.plainR = true → OpR C.P base H0 ν σ S F (callF C.P G run g ⟨args'⟩ H) K := fun hpl => by
      obtain ⟨v, H', σ', hcall, _, _, _, hn, hg, hw, hv⟩ := hV us p r hcr hp _ H args' (lent_stab hr) hus
      rw [hcall]
      refine ⟨v, H', rfl, r, S, ν, σ, h, hr.grow (.refl _) ⟨fun i c hi => ?_, hr.sb.2⟩ (fun i c hi => .inl hi) hn hg (hw _ hr.wl hr.nxt), hv.plainR hpl _ _, .refl _, .refl _, rfl, .refl _⟩
      obtain ⟨q1, e, m, ro, q2⟩ := hr.sig i c hi
      exact ⟨Nat.lt_of_lt_of_le q1 hn, e, m, ro, by rw [hg i q1]; exact q2⟩
     rcases hq.2 with hpl | hfr
     ·exact hplain hpl
     ·have hl0 := hfree hfr
      obtain ⟨v, H', σ', hcall, hx, hs, hnew, hn, hg, hw, hv⟩ := hV us p r hcr hp _ H args' ⟨hr.sig, hr.sb.2⟩ hl0
      rw [hcall]
      exact ⟨v, H', rfl, r, S, ν, σ', h, hr.grow hx hs hnew hn hg (hw _ hr.wl hr.nxt), hv.mono (.refl _) (fun b c hb => by cases hb), .refl _, hx, rfl, .refl _⟩
   ·exact h.elim
  ·exact callF_sym hfast hbits hrun hr h hl
theorem callE_sym {C : Ctx} {G : Msk} {srun : SRun} {run : Run} (hfast : G.fast = false) (hbits : G.bits = C.bits) (hora : G.ora = C.ora) (htab : ∀ g, TabOK C.P (G.tab g) (C.tab g)) (hsrt : G.srt = C.srt) (hsrtC : G.srtC = C.srtC) (hrun : RunS C.P srun run) (hcon : ∀ g c, C.con g = some c → Valid C.P G run g c) {g : FuncId} {ts : List TypeId} {args : List V} {args' : List Value}
  (hr : SR C.P base H0 ν σ S F H) (h : symCall C srun g ts args S K) (hl : LRel C.P σ ν args args') : OpR C.P base H0 ν σ S F (callE C.P G run g args' H) K := by
 obtain ⟨v, H', e, rest⟩ := callE0_sym hfast hbits hora htab hsrt hsrtC hrun hcon hr h hl
 unfold callE
 rw [e]
 exact ⟨v, H', rfl, rest⟩
theorem symExts_ok {C : Ctx} {G : Msk} {run : Run} {g : FuncId} {args : List V} {args' : List Value} {K : V → SS → Prop} {no : Prop} (hfast : G.fast = false) (htab : ∀ g, TabOK C.P (G.tab g) (C.tab g)) (hsrt : G.srt = C.srt) (hsrtC : G.srtC = C.srtC)
  (hr : SR C.P base H0 ν σ S F H) (h : symExts C g args S K no) (hl : LRel C.P σ ν args args') (hno : no → OpR C.P base H0 ν σ S F (callE C.P G run g args' H) K) : OpR C.P base H0 ν σ S F (callE C.P G run g args' H) K := by
 unfold symExts at h
 exact hno h
end
end Go.Ev
