/-
  Part of the engine that the claim is proved with: it states nothing of the document by itself.
-/
import Derived.Test.YtlihfnfigclbmaaDoorCoreSeH

namespace Go.Ev
section
variable {P : Program} {base : Nat} {H0 : AHeap × Sig} {ν : Nu} {σ : Sig} {S : SS} {F : AFrame} {H : AHeap} {K : V → SS → Prop}
theorem sizeIs_ok {t : TypeId} {n : Nat} (h : sizeIs P t n = true) : sizeT P t = some n := by
 unfold sizeIs at h
 split at h
 ·rename_i s hs; rw [hs, Nat.eq_of_beq_eq_true h]
 ·cases h
theorem fnOf_ok {t : TypeId} {a b c} {v : V} {v' : Value} {d : D} (hu : P.underlying t = some (.func a b c)) (hs : sizeT P t = some 1) (h : fnOf v = some d) (hv : VRel P σ ν v v') : ReadsA P σ t d [v'] := by
 unfold fnOf at h
 split at h
 ·cases h
  cases hv with
  | fndN => exact .nilf hu hs
  | fnd h1 h2 hp hi hz hf => exact .fn hu hs h1 h2 hp hi hz hf
 ·cases h
  cases hv with
  | val _ => exact .nilf hu hs
 ·cases h
  cases hv with
  | fn h1 h2 h3 h4 =>
   rename_i fs' cs'
   have e1 := List.eq_nil_of_length_eq_zero h1.symm
   have e2 := List.eq_nil_of_length_eq_zero h3.symm
   subst e1; subst e2
   exact .fn (ii := fun _ => 0) (oo := fun _ => 0) (ss := fun _ => 0) (zz := fun _ => 0) (bb := fun _ => []) hu hs rfl rfl (fun j v h => by simp at h) (fun j h => by simp at h) (fun j t h => by simp at h) (fun j t d h => by simp at h)
 ·cases h
theorem datOf_go {n : Nat} (ih : ∀ (t : TypeId) (vs : List V) (d : D) (cs : List Value), datOf P n t vs = some d → LRel P σ ν vs cs → ReadsA P σ t d cs) : ∀ (fs : List Field) (vs : List V) (ds : List D) (cs : List Value), goDat P (datOf P n) fs vs = some ds → LRel P σ ν vs cs →
  ∃ css : List (List Value), css.flatten = cs ∧ css.length = fs.length ∧ ds.length = fs.length ∧ ∀ (j : Nat) (f : Field) (d : D) (c : List Value), fs[j]? = some f → ds[j]? = some d → css[j]? = some c → ReadsA P σ f.type d c
 | [], [], ds, cs, h, hl => by
  simp only [goDat, Option.some.injEq] at h
  subst h
  rw [hl.nil_inv]
  exact ⟨[], rfl, rfl, rfl, fun j f d c h => by simp at h⟩
 | [], _ :: _, ds, cs, h, hl => by simp [goDat] at h
 | f :: fs, vs, ds, cs, h, hl => by
  simp only [goDat] at h
  split at h
  ·cases h
  ·rename_i s hs
   cases hle : Nat.ble s vs.length with
   | false => rw [hle] at h; cases h
   | true =>
    rw [hle] at h
    simp only [cond_true] at h
    split at h
    ·rename_i d ds' hd hds
     simp only [Option.some.injEq] at h
     subst h
     obtain ⟨css, h1, h2, h3, h4⟩ := datOf_go ih fs (vs.drop s) ds' (cs.drop s) hds (hl.drop s)
     refine ⟨cs.take s :: css, by rw [List.flatten_cons, h1, List.take_append_drop], by simp [h2], by simp [h3], fun j f' d' c' a b c => ?_⟩
     cases j with
     | zero =>
      simp only [List.getElem?_cons_zero, Option.some.injEq] at a b c
      subst a b c
      exact ih _ _ _ _ hd (hl.take s)
     | succ j => exact h4 j f' d' c' (by simpa using a) (by simpa using b) (by simpa using c)
    ·cases h
theorem datOf_ok : ∀ (n : Nat) (t : TypeId) (vs : List V) (d : D) (cs : List Value), datOf P n t vs = some d → LRel P σ ν vs cs → ReadsA P σ t d cs
 | 0, t, vs, d, cs, h, _ => by unfold datOf at h; cases h
 | n + 1, t, vs, d, cs, h, hl => by
  unfold datOf at h
  cases hsz : sizeIs P t vs.length with
  | false => rw [hsz] at h; cases h
  | true =>
   have hs := sizeIs_ok hsz
   rw [hsz] at h
   simp only [cond_true] at h
   split at h
   ·rename_i k v hu
    obtain ⟨v', r, rfl, h1, h2⟩ := hl.cons_inv
    rw [h2.nil_inv]
    split at h
    ·rename_i k' m hi
     cases hk : (k == k') with
     | false => rw [hk] at h; cases h
     | true =>
      rw [hk] at h
      simp only [cond_true, Option.some.injEq] at h
      subst h
      have := eq_of_beq hk
      subst this
      rw [intOf_ok hi h1]
      exact .int hu hs
    ·cases h
   ·rename_i v hu
    obtain ⟨v', r, rfl, h1, h2⟩ := hl.cons_inv
    rw [h2.nil_inv]
    cases hp : propOf v with
    | none => rw [hp] at h; cases h
    | some p => rw [hp] at h; simp only [Option.map_some, Option.some.injEq] at h; subst h; rw [propOf_ok hp h1]; exact .bool hu hs
   ·rename_i v hu
    obtain ⟨v', r, rfl, h1, h2⟩ := hl.cons_inv
    rw [h2.nil_inv]
    cases hp : strOf v with
    | none => rw [hp] at h; cases h
    | some p => rw [hp] at h; simp only [Option.map_some, Option.some.injEq] at h; subst h; rw [strOf_ok hp h1]; exact .str hu hs
   ·rename_i e hu
    obtain ⟨v', r, rfl, h1, h2⟩ := hl.cons_inv
    rw [h2.nil_inv]
    simp only [Option.some.injEq] at h
    subst h
    cases h1 with
    | val _ => exact .nil hu hs
   ·rename_i e t' d' hu
    obtain ⟨v', r, rfl, h1, h2⟩ := hl.cons_inv
    rw [h2.nil_inv]
    cases ht : Nat.beq t t' with
    | false => rw [ht] at h; cases h
    | true =>
     have := Nat.eq_of_beq_eq_true ht
     subst this
     rw [ht] at h
     simp only [cond_true, Option.some.injEq] at h
     subst h
     cases h1 with
     | dat _ h => exact h
   ·rename_i fs hu
    obtain ⟨ds, hg, rfl⟩ := Option.map_eq_some_iff.1 h
    obtain ⟨css, h1, h2, h3, h4⟩ := datOf_go (datOf_ok n) _ _ _ _ hg hl
    subst h1
    refine .sct hu (by simpa using h2) (by simpa using h3) (by rw [hs, hl.1]) fun j f d c a b c' => h4 j f d c (by simpa using a) b c'
   ·rename_i q1 q2 q3 v hu
    obtain ⟨v', r, rfl, h1, h2⟩ := hl.cons_inv
    rw [h2.nil_inv]
    exact fnOf_ok hu hs h h1
   ·cases h
theorem rows_get {z : Nat} {css : List (List Value)} (hz : ∀ c ∈ css, c.length = z) (j : Nat) : (css.flatten.drop (j * z)).take z = (css[j]?).getD [] := by
 induction css generalizing j with
 | nil => simp
 | cons c css ih =>
  have hc := hz c (by simp)
  cases j with
  | zero => simp [List.flatten_cons, ← hc]
  | succ j =>
   rw [List.flatten_cons, show (j + 1) * z = c.length + j * z by rw [hc, Nat.succ_mul]; omega, List.drop_append, ]
   simp only [List.drop_length_add_append, List.getElem?_cons_succ] at *
   rw [show List.drop (c.length + j * z) c = [] from List.drop_eq_nil_of_le (by omega), List.nil_append, show c.length + j * z - c.length = j * z by omega]
   exact ih (fun c hc => hz c (by simp [hc])) j
theorem rows_len {z : Nat} {css : List (List Value)} (hz : ∀ c ∈ css, c.length = z) : css.flatten.length = css.length * z := by
 induction css with
 | nil => simp
 | cons c css ih => rw [List.flatten_cons, List.length_append, hz c (by simp), ih fun c hc => hz c (by simp [hc]), List.length_cons, Nat.succ_mul]; omega
def RowR (P : Program) (σ : Sig) (e : TypeId) (z : Nat) (l : List D) (cs : List Value) : Prop := cs.length = l.length * z ∧ ∀ (j : Nat) (d : D), l[j]? = some d → ReadsA P σ e d ((cs.drop (j * z)).take z)
theorem RowR.mono {σ' : Sig} {e : TypeId} {z : Nat} {l : List D} {cs : List Value} (h : RowR P σ e z l cs) (hx : XS σ σ') : RowR P σ' e z l cs := ⟨h.1, fun j d hd => (h.2 j d hd).mono hx⟩
theorem RowR.nil {e : TypeId} {z : Nat} : RowR P σ e z [] [] := ⟨by simp, fun j d h => by simp at h⟩
theorem RowR.drop {e : TypeId} {z : Nat} {l : List D} {cs : List Value} (h : RowR P σ e z l cs) (n : Nat) : RowR P σ e z (l.drop n) (cs.drop (n * z)) := by
 refine ⟨by rw [List.length_drop, List.length_drop, h.1, Nat.sub_mul], fun j d hd => ?_⟩
 rw [List.drop_drop, ← Nat.add_mul]
 exact h.2 (n + j) d (by simpa using hd)
theorem RowR.take {e : TypeId} {z : Nat} {l : List D} {cs : List Value} (h : RowR P σ e z l cs) (n : Nat) : RowR P σ e z (l.take n) (cs.take (n * z)) := by
 refine ⟨?_, fun j d hd => ?_⟩
 ·rw [List.length_take, List.length_take, h.1]
  rcases Nat.le_total n l.length with hn | hn
  ·rw [Nat.min_eq_left hn, Nat.min_eq_left (Nat.mul_le_mul_right z hn)]
  ·rw [Nat.min_eq_right hn, Nat.min_eq_right (Nat.mul_le_mul_right z hn)]
 ·rw [List.getElem?_take] at hd
  split at hd
  ·rename_i hj
   have := h.2 j d hd
   have hm : j * z + z ≤ n * z := by rw [← Nat.succ_mul]; exact Nat.mul_le_mul_right z hj
   rw [List.drop_take, List.take_take, Nat.min_eq_left (by omega)]
   exact this
  ·cases hd
theorem RowR.append {e : TypeId} {z : Nat} {l l2 : List D} {cs cs2 : List Value} (h : RowR P σ e z l cs) (k : RowR P σ e z l2 cs2) : RowR P σ e z (l ++ l2) (cs ++ cs2) := by
 refine ⟨by rw [List.length_append, List.length_append, h.1, k.1, Nat.add_mul], fun j d hd => ?_⟩
 rw [List.getElem?_append] at hd
 split at hd
 ·rename_i hj
  have hm : j * z + z ≤ l.length * z := by rw [← Nat.succ_mul]; exact Nat.mul_le_mul_right z hj
  rw [List.drop_append_of_le_length (by rw [h.1]; omega), List.take_append_of_le_length (by rw [List.length_drop, h.1]; omega)]
  exact h.2 j d hd
 ·rename_i hj
  have hm : l.length * z ≤ j * z := Nat.mul_le_mul_right z (by omega)
  rw [List.drop_append, List.drop_eq_nil_of_le (by rw [h.1]; omega), List.nil_append, h.1, ← Nat.sub_mul]
  exact k.2 _ d hd
theorem RowR.one {e : TypeId} {z : Nat} {l : List D} {cs : List Value} (h : RowR P σ e z l cs) : cs.all oneCellB = true := by
 rw [List.all_eq_true]
 intro c hc
 obtain ⟨j, hj⟩ := List.mem_iff_getElem?.1 hc
 have hlt : j < cs.length := (List.getElem?_eq_some_iff.1 hj).1
 rw [h.1] at hlt
 have hz : 0 < z := by rcases Nat.eq_zero_or_pos z with h0 | h0; subst h0; simp at hlt; exact h0
 have hq : j / z < l.length := Nat.div_lt_of_lt_mul (by rw [Nat.mul_comm]; exact hlt)
 have := (h.2 (j / z) l[j / z] (List.getElem?_eq_getElem hq)).one
 refine List.all_eq_true.1 this c (List.mem_of_getElem? (i := j % z) ?_)
 rw [List.getElem?_take, if_pos (Nat.mod_lt _ hz), List.getElem?_drop, Nat.mul_comm, Nat.div_add_mod]
 exact hj
theorem RowR.rep {e : TypeId} {z : Nat} {d : D} {cs : List Value} (h : ReadsA P σ e d cs) (hz : cs.length = z) (n : Nat) : RowR P σ e z (List.replicate n d) (List.replicate n cs).flatten := by
 have hall : ∀ c ∈ List.replicate n cs, c.length = z := fun c hc => by rw [(List.mem_replicate.1 hc).2, hz]
 refine ⟨by rw [rows_len hall]; simp, fun j d' hd => ?_⟩
 rw [rows_get hall]
 rw [List.getElem?_replicate] at hd
 split at hd
 ·rename_i hj
  simp only [Option.some.injEq] at hd
  subst hd
  rw [List.getElem?_replicate, if_pos hj]; exact h
 ·cases hd
theorem RowR.single {e : TypeId} {z : Nat} {d : D} {cs : List Value} (h : ReadsA P σ e d cs) (hz : cs.length = z) : RowR P σ e z [d] cs := by
 have := RowR.rep h hz 1
 simpa using this
theorem RowR.set {e : TypeId} {z : Nat} {l : List D} {cs : List Value} (h : RowR P σ e z l cs) {i : Nat} (hi : i < l.length) {d : D} {c : List Value} (hd : ReadsA P σ e d c) (hc : c.length = z) :
  RowR P σ e z (l.set i d) (cs.take (i * z) ++ c ++ cs.drop (i * z + c.length)) := by
 have e1 : l.set i d = l.take i ++ ([d] ++ l.drop (i + 1)) := by rw [List.set_eq_take_append_cons_drop, if_pos hi]; simp
 rw [e1, hc, List.append_assoc, show i * z + z = (i + 1) * z by rw [Nat.succ_mul]]
 exact (h.take i).append ((RowR.single hd hc).append (h.drop (i + 1)))
theorem BRel.arr {z : Nat} {e : TypeId} {l : List D} {cs : List Value} {m : Option Nat} (hs : sizeT P e = some z) (h0 : 0 < z) (h : RowR P σ e z l cs) : BRel P σ ν z (.arr e l) (some (.cells cs e z m false)) := ⟨cs, m, rfl, hs, h0, h.1, h.2⟩
theorem BRel.grd {z : Nat} {a e : TypeId} {l : List D} {cs : List Value} {m : Option Nat} (hs : sizeT P e = some z) (h0 : 0 < z) (h : RowR P σ e z l cs) : BRel P σ ν z (.grd a e l) (some (.cells cs a 0 m false)) := ⟨cs, m, rfl, hs, h0, h.1, h.2⟩
theorem writeCells_eq {i o : Nat} {vs cs : List Value} {e : TypeId} {esz : Nat} {m : Option Nat} (hg : H.get i = some (.cells cs e esz m false)) (hle : o + vs.length ≤ cs.length) (h1 : vs.all oneCellB = true) :
  writeCells H i o vs = some ((H.kill (H.mate i)).write i (some (.cells (spliceL cs o vs) e esz none false))) := by
 unfold writeCells
 rw [hg, mate_cells hg]
 simp only [h1, Nat.ble_eq_true_of_le hle, Bool.and_self, cond_true]
theorem boolsOf_ok {e : TypeId} (hu : P.underlying e = some .bool) (hs : sizeT P e = some 1) : ∀ (vs : List V) (ds : List D) (cs : List Value), boolsOf vs = some ds → LRel P σ ν vs cs → RowR P σ e 1 ds cs
 | [], ds, cs, h, hl => by
  simp only [boolsOf, Option.some.injEq] at h
  subst h
  rw [hl.nil_inv]; exact .nil
 | v :: vs, ds, cs, h, hl => by
  simp only [boolsOf] at h
  split at h
  ·rename_i p ds' hp hds
   simp only [Option.some.injEq] at h
   subst h
   obtain ⟨v', r, rfl, hv, hr⟩ := hl.cons_inv
   have h1 : datOf P 1 e [v] = some (.bool p) := by
    unfold datOf
    simp only [sizeIs, hs, List.length_singleton, Nat.beq_refl, cond_true, hu, hp, Option.map_some]
   have hR := datOf_ok _ _ _ _ [v'] h1 (.cons hv .nil)
   exact (RowR.single hR rfl).append (boolsOf_ok hu hs vs ds' r hds hr)
  ·cases h
theorem symStore_ok {t : TypeId} {a x : V} {a' x' : Value} (hr : SR P base H0 ν σ S F H) (h : symStore P S t a x K) (ha : VRel P σ ν a a') (hx : VRel P σ ν x x') : OpR P base H0 ν σ S F (storeO P t a' x' H) K := by
 have hxc := hx.cells
 unfold symStore at h
 split at h
 ·rename_i b o
  cases ha with
  | ptr hν =>
  rename_i i z
  split at h
  ·rename_i e cs s hb hs
   cases hc : (Nat.ble S.ro b && Nat.beq x.cells.length s && Nat.ble (o + s) cs.length && x.cells.all V.one) with
   | false => rw [hc] at h; exact h.elim
   | true =>
    rw [hc] at h
    simp only [Bool.and_eq_true] at hc
    obtain ⟨⟨⟨c1, c2⟩, c3⟩, c4⟩ := hc
    have c1 := Nat.le_of_ble_eq_true c1
    have c2 := Nat.eq_of_beq_eq_true c2
    have c3 := Nat.le_of_ble_eq_true c3
    obtain ⟨i', z', hν', hB⟩ := hr.blk _ _ hb
    rw [hν] at hν'; cases hν'
    obtain ⟨cs', m, hg, hl⟩ := hB
    have hlen : x'.cells.toList.length = s := by rw [← hxc.1, c2]
    have hw := writeCells_eq (o := o) hg (by rw [hlen, ← hl.1]; exact c3) (hxc.one c4)
    have hst : storeO P t (.pointer (some ⟨i, o, none⟩)) x' H = some (undef, (H.kill (H.mate i)).write i (some (.cells (spliceL cs' o x'.cells.toList) e 0 none false))) := by
     unfold storeO storeA
     have : Nat.beq x'.cells.size s = true := by rw [show x'.cells.size = s by rw [← hlen]; simp]; exact Nat.beq_refl s
     simp only [hs, this, cond_true, hw]
    rw [hst]
    refine ⟨_, _, rfl, .val undef, _, ν, σ, h, hr.write hb hν c1 ?_, .undef, .refl _, .refl _, rfl, .write _ _ _ c1⟩
    refine ⟨_, none, rfl, ?_⟩
    unfold spliceL
    rw [← hxc.1]
    exact ((hl.take o).append hxc).append (hl.drop _)
  ·rename_i a e l s hb hs
   split at h
   ·rename_i ds hds
    cases hc : (Nat.beq o 0 && Nat.beq a t && isBoolT P e && sizeIs P e 1 && Nat.ble S.ro b && Nat.beq ds.length s && Nat.beq s l.length) with
    | false => rw [hc] at h; exact h.elim
    | true =>
     rw [hc] at h
     simp only [Bool.and_eq_true] at hc
     obtain ⟨⟨⟨⟨⟨⟨c1, c2⟩, c3⟩, c4⟩, c5⟩, c6⟩, c7⟩ := hc
     have c1 := Nat.eq_of_beq_eq_true c1
     have c2 := Nat.eq_of_beq_eq_true c2
     subst c1; subst c2
     have c5 := Nat.le_of_ble_eq_true c5
     have c6 := Nat.eq_of_beq_eq_true c6
     have hu : P.underlying e = some .bool := by unfold isBoolT at c3; split at c3 <;> simp_all
     have hs1 := sizeIs_ok c4
     have hrow := boolsOf_ok hu hs1 _ _ _ hds hxc
     obtain ⟨i', z', hν', hB⟩ := hr.blk _ _ hb
     rw [hν] at hν'; cases hν'
     obtain ⟨cs', m, hg, hsz, h0, hlen, hrd⟩ := hB
     have hz : z = 1 := by rw [hs1] at hsz; exact (Option.some.inj hsz).symm
     subst hz
     have hxl : x'.cells.toList.length = s := by rw [hrow.1, Nat.mul_one, c6]
     have hle : s = l.length := Nat.eq_of_beq_eq_true c7
     have hw := writeCells_eq (o := 0) hg (by rw [hxl, hle, hlen]; omega) hrow.one
     have hst : storeO P a (.pointer (some ⟨i, 0, none⟩)) x' H = some (undef, (H.kill (H.mate i)).write i (some (.cells x'.cells.toList a 0 none false))) := by
      have e1 : spliceL cs' 0 x'.cells.toList = x'.cells.toList := by
       unfold spliceL
       rw [List.take_zero, List.nil_append, Nat.zero_add, List.drop_eq_nil_of_le (by rw [hxl, hlen, hle]; omega), List.append_nil]
      rw [e1] at hw
      unfold storeO storeA
      have : Nat.beq x'.cells.size s = true := by rw [show x'.cells.size = s by rw [← hxl]; simp]; exact Nat.beq_refl s
      simp only [hs, this, cond_true, hw]
     rw [hst]
     refine ⟨_, _, rfl, .val undef, _, ν, σ, h, hr.write hb hν c5 ?_, .undef, .refl _, .refl _, rfl, .write _ _ _ c5⟩
     exact .grd hs1 (by omega) hrow
   ·exact h.elim
  ·exact h.elim
 ·rename_i b n
  cases ha with
  | ept hν =>
  rename_i i z
  split at h
  ·rename_i e l hb
   cases hc : (Nat.beq e t && Nat.ble S.ro b) with
   | false => rw [hc] at h; exact h.elim
   | true =>
    rw [hc] at h
    simp only [Bool.and_eq_true] at hc
    obtain ⟨c1, c2⟩ := hc
    have c1 := Nat.eq_of_beq_eq_true c1
    subst c1
    have c2 := Nat.le_of_ble_eq_true c2
    simp only [cond_true] at h
    split at h
    ·rename_i d hd
     obtain ⟨hlt, h⟩ := h
     obtain ⟨i', z', hν', hB⟩ := hr.blk _ _ hb
     rw [hν] at hν'; cases hν'
     obtain ⟨cs', m, hg, hs, h0, hlen, hrd⟩ := hB
     have hR := datOf_ok _ _ _ _ _ hd hxc
     have hxl : x'.cells.toList.length = z := by have := hR.size; rw [hs] at this; exact (Option.some.inj this).symm
     have hm : n.v * z + z ≤ l.length * z := by rw [← Nat.succ_mul]; exact Nat.mul_le_mul_right z hlt
     have hw := writeCells_eq (o := n.v * z) hg (by rw [hxl]; omega) hR.one
     have hst : storeO P e (.pointer (some ⟨i, n.v * z, none⟩)) x' H = some (undef, (H.kill (H.mate i)).write i (some (.cells (spliceL cs' (n.v * z) x'.cells.toList) e z none false))) := by
      unfold storeO storeA
      have : Nat.beq x'.cells.size z = true := by rw [show x'.cells.size = z by rw [← hxl]; simp]; exact Nat.beq_refl z
      simp only [hs, this, cond_true, hw]
     rw [hst]
     refine ⟨_, _, rfl, .val undef, _, ν, σ, h, hr.write hb hν c2 ?_, .undef, .refl _, .refl _, rfl, .write _ _ _ c2⟩
     exact .arr hs h0 (RowR.set ⟨hlen, hrd⟩ hlt hR hxl)
    ·exact h.elim
  ·rename_i a e l hb
   cases hc : (Nat.beq e t && Nat.ble S.ro b) with
   | false => rw [hc] at h; exact h.elim
   | true =>
    rw [hc] at h
    simp only [Bool.and_eq_true] at hc
    obtain ⟨c1, c2⟩ := hc
    have c1 := Nat.eq_of_beq_eq_true c1
    subst c1
    have c2 := Nat.le_of_ble_eq_true c2
    simp only [cond_true] at h
    split at h
    ·rename_i d hd
     obtain ⟨hlt, h⟩ := h
     obtain ⟨i', z', hν', hB⟩ := hr.blk _ _ hb
     rw [hν] at hν'; cases hν'
     obtain ⟨cs', m, hg, hs, h0, hlen, hrd⟩ := hB
     have hR := datOf_ok _ _ _ _ _ hd hxc
     have hxl : x'.cells.toList.length = z := by have := hR.size; rw [hs] at this; exact (Option.some.inj this).symm
     have hm : n.v * z + z ≤ l.length * z := by rw [← Nat.succ_mul]; exact Nat.mul_le_mul_right z hlt
     have hw := writeCells_eq (o := n.v * z) hg (by rw [hxl]; omega) hR.one
     have hst : storeO P e (.pointer (some ⟨i, n.v * z, none⟩)) x' H = some (undef, (H.kill (H.mate i)).write i (some (.cells (spliceL cs' (n.v * z) x'.cells.toList) a 0 none false))) := by
      unfold storeO storeA
      have : Nat.beq x'.cells.size z = true := by rw [show x'.cells.size = z by rw [← hxl]; simp]; exact Nat.beq_refl z
      simp only [hs, this, cond_true, hw]
     rw [hst]
     refine ⟨_, _, rfl, .val undef, _, ν, σ, h, hr.write hb hν c2 ?_, .undef, .refl _, .refl _, rfl, .write _ _ _ c2⟩
     exact .grd hs h0 (RowR.set ⟨hlen, hrd⟩ hlt hR hxl)
    ·exact h.elim
  ·exact h.elim
 ·exact h.elim
theorem newRowA_eq {cs : List Value} {e : TypeId} {esz : Nat} (h1 : cs.all oneCellB = true) (H : AHeap) : newRowA H cs e esz = some (H.next, H.alloc (.cells cs e esz none false)) := by
 unfold newRowA
 rw [h1]
 simp only [cond_true, forceNat_eq]
theorem symBox_ok {e : TypeId} {x : V} {x' : Value} (hr : SR P base H0 ν σ S F H) (h : symBox S e x K) (hx : VRel P σ ν x x') : OpR P base H0 ν σ S F (boxA e x' H) K := by
 unfold symBox at h
 cases hc : x.cells.all V.one with
 | false => rw [hc] at h; exact h.elim
 | true =>
  rw [hc] at h
  have hxc := hx.cells
  unfold boxA
  rw [newRowA_eq (hxc.one hc)]
  refine ⟨_, _, rfl, _, _, _, σ, h, hr.alloc (z := 0) (k := .box e x.cells) (fun ν' hν => ⟨_, none, rfl, hxc.mono (.refl _) hν⟩), .ptr (if_pos rfl), xnewn _ _ _, .refl _, rfl, .alloc _ _⟩
theorem flat_cells' {z : Value} (h : Ev.flat z = true) : z.cells.toList.all flat1 = true := by
 cases z with
 | agg cs => simpa [Ev.flat, Value.cells] using h
 | _ => simpa [Ev.flat, Value.cells] using h
theorem flat1_one {l : List Value} (h : l.all flat1 = true) : l.all oneCellB = true := by
 rw [List.all_eq_true] at h ⊢
 intro v hv
 have := h v hv
 cases v <;> simp_all [flat1, oneCellB]
theorem allZ_eq : ∀ (l : List Value), allZ l = true → l = (List.replicate l.length [Value.int .i64 0]).flatten
 | [], _ => rfl
 | v :: l, h => by
  unfold allZ at h
  split at h
  ·rename_i h'; cases h'
  ·rename_i l' h'
   cases h'
   have := allZ_eq l h
   rw [List.length_cons, List.replicate_succ, List.flatten_cons, ← this]; rfl
  ·cases h
theorem allF_eq : ∀ (l : List Value), allF l = true → l = (List.replicate l.length [Value.bool false]).flatten
 | [], _ => rfl
 | v :: l, h => by
  unfold allF at h
  split at h
  ·rename_i h'; cases h'
  ·rename_i l' h'
   cases h'
   have := allF_eq l h
   rw [List.length_cons, List.replicate_succ, List.flatten_cons, ← this]; rfl
  ·cases h
theorem symAlloc_ok {e : TypeId} (hr : SR P base H0 ν σ S F H) (h : symAlloc P S e K) : OpR P base H0 ν σ S F (allocA P e H) K := by
 unfold symAlloc at h
 split at h
 ·rename_i z hz
  split at h
  ·rename_i t n hat
   cases hc : (Ev.flat z && allZ z.cells.toList && Nat.beq z.cells.toList.length n && isI64T P t && sizeIs P t 1) with
   | false => rw [hc] at h; exact h.elim
   | true =>
    rw [hc] at h
    simp only [Bool.and_eq_true] at hc
    obtain ⟨⟨⟨⟨c1, c2⟩, c3⟩, c4⟩, c5⟩ := hc
    have c3 := Nat.eq_of_beq_eq_true c3
    have c5 := sizeIs_ok c5
    have hu : P.underlying t = some (.int .i64) := by unfold isI64T at c4; split at c4 <;> simp_all
    have hrow : RowR P σ t 1 (List.replicate n (.int 0)) z.cells.toList := by
     have := RowR.rep (P := P) (σ := σ) (e := t) (z := 1) (d := .int 0) (cs := [.int .i64 0]) (.int hu c5) rfl n
     rw [← c3] at this ⊢
     rw [← allZ_eq _ c2] at this
     exact this
    unfold allocA
    simp only [hz, c1, cond_true]
    rw [newRowA_eq (flat1_one (flat_cells' c1))]
    refine ⟨_, _, rfl, _, _, _, σ, h, hr.alloc (z := 1) (k := .grd e t (List.replicate n (.int 0))) (fun ν' hν => .grd c5 (by omega) hrow), .ptr (if_pos rfl), xnewn _ _ _, .refl _, rfl, .alloc _ _⟩
  ·split at h
   ·rename_i t n hat
    cases hc : (Ev.flat z && allF z.cells.toList && Nat.beq z.cells.toList.length n && isBoolT P t && sizeIs P t 1) with
    | false => rw [hc] at h; exact h.elim
    | true =>
     rw [hc] at h
     simp only [Bool.and_eq_true] at hc
     obtain ⟨⟨⟨⟨c1, c2⟩, c3⟩, c4⟩, c5⟩ := hc
     have c3 := Nat.eq_of_beq_eq_true c3
     have c5 := sizeIs_ok c5
     have hu : P.underlying t = some .bool := by unfold isBoolT at c4; split at c4 <;> simp_all
     have hrow : RowR P σ t 1 (List.replicate n (.bool False)) z.cells.toList := by
      have hb : ReadsA P σ t (.bool False) [.bool false] := by
       have := ReadsA.bool (P := P) (σ := σ) (p := False) hu c5
       rw [dec_false (fun h => h)] at this
       exact this
      have := RowR.rep (P := P) (σ := σ) (e := t) (z := 1) hb rfl n
      rw [← c3] at this ⊢
      rw [← allF_eq _ c2] at this
      exact this
     unfold allocA
     simp only [hz, c1, cond_true]
     rw [newRowA_eq (flat1_one (flat_cells' c1))]
     refine ⟨_, _, rfl, _, _, _, σ, h, hr.alloc (z := 1) (k := .grd e t (List.replicate n (.bool False))) (fun ν' hν => .grd c5 (by omega) hrow), .ptr (if_pos rfl), xnewn _ _ _, .refl _, rfl, .alloc _ _⟩
   ·cases hc : Ev.flat z with
    | false => rw [hc] at h; exact h.elim
    | true =>
     rw [hc] at h
     unfold allocA
     simp only [hz, hc, cond_true]
     rw [newRowA_eq (flat1_one (flat_cells' hc))]
     refine ⟨_, _, rfl, _, _, _, σ, h, hr.alloc (z := 0) (k := .box e (z.cells.toList.map .val)) (fun ν' hν => ⟨_, none, rfl, LRel.vals (flat_cells' hc)⟩), .ptr (if_pos rfl), xnewn _ _ _, .refl _, rfl, .alloc _ _⟩
 ·exact h.elim
end
end Go.Ev
