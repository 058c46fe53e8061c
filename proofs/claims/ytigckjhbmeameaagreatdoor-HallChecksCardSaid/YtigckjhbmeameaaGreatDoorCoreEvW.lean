/-
  Part of the engine that the claim is proved with: it states nothing of the document by itself.
-/
import Derived.Test.YtigckjhbmeameaaGreatDoorCoreEvV
import Derived.Lib.UnsafeStr

namespace Go.Ev
open Go.RowKit
section
variable {P : Program} {μ : Nat → Option Loc} {H H' : AHeap} {w : World} {v : Value}

theorem PRel.of_map {ps : Array (Nat × Operand)} {ρ ρ' : Operand → Value} (h : ∀ x, x ∈ ps.toList.map (·.2) → VR μ (ρ x) (ρ' x)) : PRel μ (ps.map fun (i, x) => (i, ρ x)).toList (ps.map fun (i, x) => (i, ρ' x)).toList := by
  refine ⟨by simp, fun j a b ha hb => ?_⟩
  simp only [Array.toList_map, List.getElem?_map] at ha hb
  cases hp : ps.toList[j]? with
  | none => rw [hp] at ha; cases ha
  | some q =>
    rw [hp] at ha hb
    simp only [Option.map_some, Option.some.injEq] at ha hb
    subst ha; subst hb
    exact ⟨rfl, h _ (List.mem_map.2 ⟨q, List.mem_of_getElem? hp, rfl⟩)⟩

theorem buildSliceA_ok {F : AFrame} {t : TypeId} {len : Nat} {parts : Array (Nat × Operand)} {ρ' : Operand → Value} (hr : Rel μ H w) (h : buildSliceA P F t len parts H = some (v, H'))
    (hp : ∀ x, x ∈ parts.toList.map (·.2) → VR μ (aeval F x) (ρ' x)) : OpOK P (Instr.buildSlice t len (parts.map fun (i, x) => (i, ρ' x))) v μ H w H' := by
  unfold buildSliceA at h
  split at h
  · rename_i elem hu
    split at h
    · rename_i size z hs hz
      cases hc : (Nat.ble len 16777216 && Nat.ble (len * size) 16777216 && Ev.flat z && Nat.beq z.cells.size size) with
      | false => rw [hc] at h; cases h
      | true =>
        rw [hc] at h
        simp only [cond_true] at h
        simp only [Bool.and_eq_true] at hc
        obtain ⟨⟨⟨c0, c1⟩, c2⟩, c3⟩ := hc
        have c0 := Nat.le_of_ble_eq_true c0
        have c1 := Nat.le_of_ble_eq_true c1
        have c3 := Nat.eq_of_beq_eq_true c3
        split at h
        · rename_i cs hf
          split at h
          · rename_i i h2 hrow
            simp only [Option.some.injEq, Prod.mk.injEq] at h
            obtain ⟨rfl, rfl⟩ := h
            have hz0 : AR μ (List.replicate len z.cells.toList).flatten.toArray (List.replicate len z.cells.toList).flatten.toArray := (LR.rep (flat_cells c2) len).toA
            obtain ⟨cs', hf', hcs⟩ := fill_rel _ _ _ _ _ _ (PRel.of_map hp) hz0 hf
            obtain ⟨rfl, hpost, _⟩ := newRow_post hr hrow hcs.toL #[]
            have hflen : ∀ (ps : List (Nat × Value)) (a r : Array Value), Instr.fill (fun i => some (i * size, size)) a ps = some r → r.size = a.size := by
              intro ps
              induction ps with
              | nil => intro a r hh; simp [Instr.fill] at hh; subst hh; rfl
              | cons q ps ih =>
                intro a r hh
                simp only [Instr.fill] at hh
                split at hh
                · cases hh
                · have := ih _ _ hh
                  rw [this, zip_fold_eq]
                  have : ∀ (l : List (Value × Nat)) (a : Array Value) (off : Nat), (l.foldl (fun cs (x : Value × Nat) => cs.setIfInBounds (off + x.2) x.1) a).size = a.size := by
                    intro l
                    induction l with
                    | nil => intro a off; rfl
                    | cons x l ih2 => intro a off; simp only [List.foldl_cons]; rw [ih2]; simp
                  exact this _ _ _
            have hsz := hflen _ _ _ hf'
            have hl0 : (List.replicate len z.cells.toList).flatten.length = len * size := by
              rw [List.length_flatten, List.map_replicate, List.sum_replicate_nat]; simp [c3]
            refine ⟨_, .slice (some ⟨w.heap.size, 0, none⟩) len len, _, ?_, ?_, hpost⟩
            · have e1 := row_zero (P := P) (w := w) (n := len) hz c3
              unfold Instr.buildSlice
              simp only [Sem.run_bind, run_underlying hu, Result.andThen_ok, run_sizeT hs]
              rw [if_neg (by omega)]
              by_cases h0 : len * size = 0
              · rw [if_pos h0] at e1 ⊢
                simp only [Sem.run_bind, Sem.run_pure, Result.andThen_ok] at e1 ⊢
                rw [(Result.ok.inj e1).1, hf']
                simp [newRow]
              · rw [if_neg h0] at e1 ⊢
                simp only [Sem.run_bind, run_zeroT hz, Sem.run_pure, Result.andThen_ok] at e1 ⊢
                rw [(Result.ok.inj e1).1, hf']
                simp [newRow]
            · have hcl : cs'.toList.length = len * size := by rw [Array.length_toList, hsz]; simpa using hl0
              exact VR.slice (p := ⟨w.heap.size, 0, cs'.toList.length + (#[] : Array Value).size, size⟩) (if_pos rfl) (by unfold UNK; omega) (Nat.le_refl _) (by show 0 + len * size ≤ _; rw [hcl]; simp)
          · cases h
        · cases h
    · cases h
  · cases h

theorem AR.flatEq {args args' : Array Value} (h : AR μ args args') (hf : args.toList.all Ev.flat = true) : args' = args :=
  arr_ext h.1 fun i v v' hv hv' => (h.2 i v v' hv hv').eq (List.all_eq_true.1 hf v (by rw [Array.mem_toList_iff]; exact Array.mem_of_getElem? hv))

theorem flatB_ok {b : Builtin} {ats : Array TypeId} {type : TypeId} {consts : Array Bool} {args args' : Array Value} (hr : Rel μ H w) (h : flatB P b ats type consts args H = some (v, H')) (ha : AR μ args args') :
    (builtin b ats type consts args').run P w = .ok (.value v) w ∧ VR μ v v ∧ H' = H := by
  unfold flatB at h
  cases hf : args.toList.all Ev.flat with
  | false => rw [hf] at h; cases h
  | true =>
    rw [hf] at h
    simp only [cond_true] at h
    rw [ha.flatEq hf]
    split at h
    · rename_i u hu
      cases hfu : Ev.flat u with
      | false => rw [hfu] at h; cases h
      | true =>
        rw [hfu] at h
        simp only [cond_true, Option.some.injEq, Prod.mk.injEq] at h
        obtain ⟨rfl, rfl⟩ := h
        exact ⟨val?_run P _ hu w, .of_flat hfu, rfl⟩
    · cases h

theorem append_congr {ats : Array TypeId} {type ty : TypeId} {args : Array Value} {t tx : TypeId} {s x : Value} (h0 : ats[0]? = some t) (h1 : ats[1]? = some tx) (h2 : args[0]? = some s) (h3 : args[1]? = some x) :
    Builtin.append_ ats type args = Builtin.append_ #[t, tx] ty #[s, x] := by
  unfold Builtin.append_
  rw [h0, h1, h2, h3]
  rfl

theorem copyA_ok {ats : Array TypeId} {ty t : TypeId} {d s d' s' : Value} {args' : Array Value} (hr : Rel μ H w) (h : copyA P H t d s = some (v, H')) (h0 : ats[0]? = some t) (h1 : args'[0]? = some d') (h2 : args'[1]? = some s') (hd : VR μ d d') (hs : VR μ s s') :
    OpOK P (Builtin.copy_ ats ty args') v μ H w H' := by
  unfold copyA at h
  split at h
  · rename_i elem i o dl dc j p sl sc hu
    split at h
    · rename_i size hsz
      rw [forceNat_eq] at h
      have hmin : Nat.min sl dl = cond (Nat.ble sl dl) sl dl := by
        show min sl dl = _
        cases hb : Nat.ble sl dl with
        | true => have := Nat.le_of_ble_eq_true hb; simp; omega
        | false => have : ¬ sl ≤ dl := fun hle => by rw [Nat.ble_eq_true_of_le hle] at hb; cases hb
                   simp; omega
      obtain ⟨da, dc', rfl⟩ : ∃ ad c', d' = .slice (some ad) dl c' := by
        rcases hd.slice_inv with ⟨p, c', _, rfl, _⟩ | ⟨rfl, _, a, rfl⟩ <;> exact ⟨_, _, rfl⟩
      obtain ⟨sa, sc', rfl⟩ : ∃ ad c', s' = .slice (some ad) sl c' := by
        rcases hs.slice_inv with ⟨p, c', _, rfl, _⟩ | ⟨rfl, _, a, rfl⟩ <;> exact ⟨_, _, rfl⟩
      have hdef : ∀ (us : List Value) (w' : World), (loadCells sa (Nat.min sl dl * size)).run P w = .ok us.toArray w → (storeCells da us).run P w = .ok () w' → (Builtin.copy_ ats ty args').run P w = .ok (goInt (Nat.min sl dl)) w' := by
        intro us w' hl hst
        unfold Builtin.copy_
        rw [h0, h1, h2]
        simp only [Sem.run_bind, run_underlying hu, Result.andThen_ok, Builtin.lenOf, Sem.run_pure, run_sizeT hsz, Builtin.firstCells, hl, hst]
      generalize hn : cond (Nat.ble sl dl) sl dl = n at h hmin
      cases hz : Nat.beq n 0 with
      | true =>
        rw [hz] at h
        have := Nat.eq_of_beq_eq_true hz
        subst this
        simp only [cond_true, Option.some.injEq, Prod.mk.injEq] at h
        obtain ⟨rfl, rfl⟩ := h
        refine OpOK.still hr (v' := .int .i64 0) ?_ (.flat rfl)
        have := hdef [] w (by rw [hmin, Nat.zero_mul]; exact run_loadCells_part rfl (fun j u hu => by simp at hu)) (by simp [storeCells])
        rw [hmin] at this
        exact this
      | false =>
        rw [hz] at h
        simp only [cond_false] at h
        have hn0 : n ≠ 0 := fun e => by subst e; simp at hz
        have hmn : min sl dl = n := hmin
        split at h
        · rename_i cs hc
          cases hle : Nat.ble (p + n * size) cs.length with
          | false => rw [hle] at h; cases h
          | true =>
            rw [hle] at h
            simp only [cond_true] at h
            split at h
            · rename_i h1' hw
              simp only [Option.some.injEq, Prod.mk.injEq] at h
              obtain ⟨rfl, rfl⟩ := h
              rcases hs.slice_inv with ⟨q, c', hq, hsv, _⟩ | ⟨e, _⟩
              · rcases hd.slice_inv with ⟨q', c2, hq', hdv, _⟩ | ⟨e, _⟩
                · injection hsv with hsv _ _
                  injection hsv with hsv
                  injection hdv with hdv _ _
                  injection hdv with hdv
                  subst hsv hdv
                  obtain ⟨us, hus, hl, hcell⟩ := cells_part hr hc hq (Nat.le_of_ble_eq_true hle)
                  obtain ⟨w', hst, hp⟩ := writeCells_ok (P := P) hr hw hq' hl
                  refine ⟨μ, .int .i64 n, w', ?_, .flat rfl, hp⟩
                  have := hdef us w' (by rw [hmin]; exact run_loadCells_part hus hcell) hst
                  rw [hmin] at this
                  exact this
                · exfalso; omega
              · exfalso; omega
            · cases h
        · cases h
    · cases h
  · cases h

/-! ### unsafe.String -/
theorem bytesA_ok : ∀ (cs : List Value) (l : List UInt8), bytesA cs = some l → cs = l.map fun b => Value.int .u8 b.toNat
  | [], l, h => by simp only [bytesA, Option.some.injEq] at h; subst h; rfl
  | c :: cs, l, h => by
    unfold bytesA at h
    split at h
    · rename_i hh; cases hh
    · rename_i k r hh
      cases hh
      cases hk : Nat.blt k 256 with
      | false => rw [hk] at h; cases h
      | true =>
        rw [hk] at h
        simp only [cond_true] at h
        split at h
        · rename_i l' hl
          simp only [Option.some.injEq] at h
          subst h
          have hk' : k + 1 ≤ 256 := Nat.le_of_ble_eq_true hk
          rw [List.map_cons, ← bytesA_ok _ _ hl]
          have e : ((UInt8.ofNat k).toNat : Int) = Int.ofNat k := by
            rw [UInt8.toNat_ofNat']
            show ((k % 2 ^ 8 : Nat) : Int) = (k : Int)
            rw [Nat.mod_eq_of_lt (by omega)]
          rw [e]
        · cases h
    · cases h

theorem lies_bytes {e : TypeId} (hc : P.cellsOf e = 1) (count off n : Nat) (hn : off + n ≤ count) : liesAt P P.depth e count off e n = true := by
  have hd : P.depth = (2 * (P.types.size + Made.depth) + 1) + 1 := rfl
  rw [hd]
  simp only [liesAt, Bool.or_eq_true]
  left
  rw [hd]
  simp [rowAt, hc, hn, sameLayout, Nat.mod_one]

theorem run_unsafeString_at (ats : Array TypeId) (pt ty e : TypeId) (h0 : ats[0]? = some pt) (hp : P.underlying pt = some (.pointer e)) (hc : P.cellsOf e = 1) (g off cells : Nat) (hsh : w.shape? g = some (e, cells)) (l : List UInt8) (hl0 : l ≠ []) (hn : off + l.length ≤ cells) (h63 : l.length ≤ 9223372036854775807)
    (hcell : ∀ j x, l[j]? = some x → w.cell? ((⟨g, off, none⟩ : Addr).add j) = some (.int .u8 x.toNat)) :
    (Builtin.unsafeString_ ats ty #[.pointer (some ⟨g, off, none⟩), .int .i64 l.length]).run P w = .ok (.string ⟨l.toArray⟩) (w.freeze ⟨g, off, none⟩ l.length) := by
  have hl : l.length ≠ 0 := by simpa using hl0
  have hlb := Lib.run_loadBytes (P := P) w l ⟨g, off, none⟩ .empty hcell
  have hlies := lies_bytes (P := P) hc (cells / P.cellsOf e) off l.length (by rw [hc]; simpa using hn)
  have h63' : ¬ (9223372036854775807 : Int) < (l.length : Int) := by omega
  have hmax : IntKind.i64.max = 9223372036854775807 := rfl
  have hneg : ¬ (l.length : Int) < 0 := by omega
  rw [show Builtin.unsafeString_ ats ty #[.pointer (some ⟨g, off, none⟩), .int .i64 l.length] = bind (asInt (.int .i64 l.length)) _ from rfl, h0]
  simp [asInt, asIntOf, hmax, h63', hneg, hl, variablesAt, hsh, elemOf, run_underlying hp, hlies, hlb]

theorem one_arg {args args' : Array Value} {x : Value} (ha : AR μ args args') (hl : args.toList = [x]) : ∃ x', args' = #[x'] ∧ VR μ x x' := by
  have h0 : args[0]? = some x := by rw [← Array.getElem?_toList, hl]; rfl
  obtain ⟨x', hx', hv⟩ := ha.get h0
  have hsz : args'.size = 1 := by rw [← ha.1, ← Array.length_toList, hl]; rfl
  refine ⟨x', Array.ext (by simp [hsz]) fun i h1 h2 => ?_, hv⟩
  have : i = 0 := by omega
  subst this
  rw [Array.getElem?_eq_getElem h1] at hx'
  simpa using hx'
theorem two_args {args args' : Array Value} {x y : Value} (ha : AR μ args args') (hl : args.toList = [x, y]) : ∃ x' y', args' = #[x', y'] ∧ VR μ x x' ∧ VR μ y y' := by
  have h0 : args[0]? = some x := by rw [← Array.getElem?_toList, hl]; rfl
  have h1 : args[1]? = some y := by rw [← Array.getElem?_toList, hl]; rfl
  obtain ⟨x', hx', hv⟩ := ha.get h0
  obtain ⟨y', hy', hv2⟩ := ha.get h1
  have hsz : args'.size = 2 := by rw [← ha.1, ← Array.length_toList, hl]; rfl
  refine ⟨x', y', Array.ext (by simp [hsz]) fun i h1 h2 => ?_, hv, hv2⟩
  have : i = 0 ∨ i = 1 := by omega
  rcases this with rfl | rfl
  · rw [Array.getElem?_eq_getElem h1] at hx'; simpa using hx'
  · rw [Array.getElem?_eq_getElem h1] at hy'; simpa using hy'

theorem stringA_ok {ats : Array TypeId} {ty : TypeId} {args args' : Array Value} (hr : Rel μ H w) (h : stringA P ats args.toList H = some (v, H')) (ha : AR μ args args') : OpOK P (Builtin.unsafeString_ ats ty args') v μ H w H' := by
  unfold stringA at h
  split at h
  · rename_i pt h0 hl
    simp only [Option.some.injEq, Prod.mk.injEq] at h
    obtain ⟨rfl, rfl⟩ := h
    obtain ⟨x', y', rfl, hx, hy⟩ := two_args ha hl
    have := hx.eq1 rfl; subst this
    have := hy.int_inv; subst this
    refine .still hr (v' := .string ⟨#[]⟩) ?_ (.flat rfl)
    have hmax : IntKind.i64.max = 9223372036854775807 := rfl
    rw [show Builtin.unsafeString_ ats ty #[.pointer none, .int .i64 (Int.ofNat 0)] = bind (asInt (.int .i64 (Int.ofNat 0))) _ from rfl, h0]
    simp [asInt, asIntOf, hmax]
    rfl
  · rename_i pt i o n h0 hl
    split at h
    · rename_i e cs e' esz m hu hg
      cases hc : (Nat.beq e e' && Nat.beq (P.cellsOf e) 1 && Nat.blt 0 n && Nat.ble (o + n) cs.length && Nat.ble n 16777216) with
      | false => rw [hc] at h; cases h
      | true =>
        rw [hc] at h
        simp only [Bool.and_eq_true] at hc
        obtain ⟨⟨⟨⟨c1, c2⟩, c3⟩, c4⟩, c5⟩ := hc
        have c1 := Nat.eq_of_beq_eq_true c1
        have c2 := Nat.eq_of_beq_eq_true c2
        have c3 : 0 + 1 ≤ n := Nat.le_of_ble_eq_true c3
        have c4 := Nat.le_of_ble_eq_true c4
        have c5 := Nat.le_of_ble_eq_true c5
        subst c1
        simp only [cond_true] at h
        split at h
        · rename_i l hb
          simp only [Option.some.injEq, Prod.mk.injEq] at h
          obtain ⟨rfl, rfl⟩ := h
          obtain ⟨x', y', rfl, hx, hy⟩ := two_args ha hl
          obtain ⟨p, hp, rfl⟩ := hx.ptr_inv
          have := hy.int_inv; subst this
          have hbl := bytesA_ok _ _ hb
          have hlen : l.length = n := by
            have := congrArg List.length hbl
            simp at this; omega
          have hcells : H.cells i = some cs := by unfold AHeap.cells; rw [hg]
          obtain ⟨us, hus, hlr, hcell⟩ := cells_part hr hcells hp c4
          obtain ⟨arr, fz, harr, hb1, hb2, hb3, hb4, hb5⟩ := hr.cells _ _ _ _ _ _ _ hg hp
          have hfr : us = l.map fun b => Value.int .u8 b.toNat := by
            rw [← hbl]
            apply List.ext_getElem? 
            intro j
            rcases Nat.lt_or_ge j us.length with hj | hj
            · have hj2 : j < ((cs.drop o).take n).length := by rw [hlr.1]; exact hj
              have hv := hlr.2 j _ _ (List.getElem?_eq_getElem hj2) (List.getElem?_eq_getElem hj)
              rw [List.getElem?_eq_getElem hj, List.getElem?_eq_getElem hj2]
              have hflat : flat1 (((cs.drop o).take n)[j]) = true := by
                have hm : ((cs.drop o).take n)[j] ∈ (l.map fun b => Value.int .u8 b.toNat) := by rw [← hbl]; exact List.getElem_mem _
                obtain ⟨_, _, hq⟩ := List.mem_map.1 hm
                rw [← hq]; rfl
              rw [hv.eq1 hflat]
            · rw [List.getElem?_eq_none hj, List.getElem?_eq_none (by rw [hlr.1]; exact hj)]
          have hsh : w.shape? p.b = some (e, arr.size) := by simp [World.shape?, harr]
          have hrun := run_unsafeString_at (P := P) (w := w) ats pt ty e h0 hu c2 p.b (p.base + o) arr.size hsh l (fun hnil => by rw [hnil] at hlen; simp at hlen; omega) (by omega) (by omega) (fun j x hx => hcell j _ (by rw [hfr]; simp [hx]))
          have hlt : p.b < w.heap.size := (Array.getElem?_eq_some_iff.1 harr).1
          have hmate : H.mate i = m := by unfold AHeap.mate; rw [hg]
          obtain ⟨fz', hfz⟩ : ∃ fz', (w.freeze ⟨p.b, p.base + o, none⟩ l.length).heap[p.b]? = some (.cells arr e fz') := by
            unfold World.freeze
            rw [if_neg (by omega)]
            simp only [Array.getElem?_modify, if_true, harr, Option.map_some]
            exact ⟨_, rfl⟩
          have hpost := Post.turn (w' := w.freeze ⟨p.b, p.base + o, none⟩ l.length) hr hg (by unfold AHeap.ro; rw [hg]) (some (.cells cs e esz none true))
            (by unfold World.freeze; split <;> rfl) (by unfold World.freeze; split <;> rfl) (by unfold World.freeze; split <;> rfl) (by unfold World.freeze; split <;> simp)
            (fun b hb => by
              unfold World.freeze
              split
              · rfl
              · simp only [Array.getElem?_modify]; rw [if_neg (fun e => hb p hp e.symm)])
            (fun _ _ _ _ _ hh => by cases hh; rfl) (fun q hq => by rw [hp] at hq; cases hq; exact ⟨arr, fz', hfz, hb1, hb2, hb3, hb4, fun hh => by cases hh⟩)
          rw [hmate] at hpost
          refine ⟨μ, .string ⟨l.toArray⟩, _, ?_, .flat rfl, hpost⟩
          rw [← hrun, hlen]; rfl
        · cases h
    · cases h
  · cases h

theorem builtinA_ok {b : Builtin} {ats : Array TypeId} {type : TypeId} {consts : Array Bool} {args args' : Array Value} (hr : Rel μ H w) (h : builtinA P b ats type consts args H = some (v, H')) (ha : AR μ args args') :
    ∃ μ' v' w', (builtin b ats type consts args').run P w = .ok (.value v') w' ∧ VR μ' v v' ∧ Post μ H w μ' H' w' := by
  unfold builtinA at h
  split at h
  · split at h
    · rename_i t t2 s x h0 h1 h2 h3
      obtain ⟨s', h2', hs⟩ := ha.get h2
      obtain ⟨x', h3', hx⟩ := ha.get h3
      have fin : ∀ (hk : (∃ e', P.underlying t2 = some (.slice e')) ∨ P.underlying t2 = some .string) (h : appendA P H t s x = some (v, H')),
          ∃ μ' v' w', (builtin .append ats type consts args').run P w = .ok (.value v') w' ∧ VR μ' v v' ∧ Post μ H w μ' H' w' := fun hk h => by
        obtain ⟨μ', v', w', hrun, hv, hp⟩ := appendA_ok (P := P) (ty := type) hr h hs hx hk
        refine ⟨μ', v', w', ?_, hv, hp⟩
        simp only [builtin, append_congr (ty := type) h0 h1 h2' h3', Sem.run_bind, hrun, Result.andThen_ok, Sem.run_pure]
      split at h
      · rename_i e' hk; exact fin (.inl ⟨e', hk⟩) h
      · rename_i hk; exact fin (.inr hk) h
      · cases h
    · cases h
  · split at h
    · rename_i t d s h0 h1 h2
      obtain ⟨d', h1', hd⟩ := ha.get h1
      obtain ⟨s', h2', hs⟩ := ha.get h2
      obtain ⟨μ', v', w', hrun, hv, hp⟩ := copyA_ok (P := P) (ty := type) hr h h0 h1' h2' hd hs
      refine ⟨μ', v', w', ?_, hv, hp⟩
      simp only [builtin, Sem.run_bind, hrun, Result.andThen_ok, Sem.run_pure]
    · cases h
  · unfold dataA at h
    split at h
    · rename_i i o n c hl
      cases hn : Nat.beq n 0 with
      | true => rw [hn] at h; cases h
      | false =>
        rw [hn] at h
        simp only [cond_false, Option.some.injEq, Prod.mk.injEq] at h
        obtain ⟨rfl, rfl⟩ := h
        obtain ⟨x', hargs, hx⟩ := one_arg ha hl
        have hn0 : n ≠ 0 := fun e => by subst e; simp at hn
        rcases hx.slice_inv with ⟨p, c', hp, rfl, hlc, _⟩ | ⟨e, _⟩
        · refine ⟨μ, .pointer (some ⟨p.b, p.base + o, none⟩), w, ?_, .ptr hp, .refl hr⟩
          rw [hargs]
          simp only [builtin, Sem.run_bind, Lib.run_unsafeSliceData_row w ats type _ n c' (by omega), Result.andThen_ok, Sem.run_pure]
        · exact absurd e hn0
    · rename_i n c hl
      simp only [Option.some.injEq, Prod.mk.injEq] at h
      obtain ⟨rfl, rfl⟩ := h
      obtain ⟨x', hargs, hx⟩ := one_arg ha hl
      obtain ⟨rfl, _⟩ := nil_of_none hx
      refine ⟨μ, .pointer none, w, ?_, .flat rfl, .refl hr⟩
      rw [hargs]
      simp only [builtin, Sem.run_bind, Lib.run_unsafeSliceData_nil, Result.andThen_ok, Sem.run_pure]
    · cases h
  · obtain ⟨μ', v', w', hrun, hv, hp⟩ := stringA_ok (P := P) (ty := type) hr h ha
    refine ⟨μ', v', w', ?_, hv, hp⟩
    simp only [builtin, Sem.run_bind, hrun, Result.andThen_ok, Sem.run_pure]
  · unfold lenA at h
    split at h
    · rename_i t i o n c h0 h1
      obtain ⟨x', h1', hx⟩ := ha.get h1
      obtain ⟨ad, c', rfl⟩ : ∃ ad c', x' = .slice (some ad) n c' := by
        rcases hx.slice_inv with ⟨p, c', _, rfl, _⟩ | ⟨rfl, _, a, rfl⟩ <;> exact ⟨_, _, rfl⟩
      split at h
      · rename_i e hu
        simp only [Option.some.injEq, Prod.mk.injEq] at h
        obtain ⟨rfl, rfl⟩ := h
        refine ⟨μ, .int .i64 n, w, ?_, .flat rfl, .refl hr⟩
        simp only [builtin, Builtin.len_, h0, h1', Sem.run_bind, run_underlying hu, Result.andThen_ok, Sem.run_pure, goInt]
      · cases h
    · obtain ⟨h1, h2, rfl⟩ := flatB_ok hr h ha
      exact ⟨μ, v, w, h1, h2, .refl hr⟩
  · obtain ⟨h1, h2, rfl⟩ := flatB_ok hr h ha
    exact ⟨μ, v, w, h1, h2, .refl hr⟩
  · obtain ⟨h1, h2, rfl⟩ := flatB_ok hr h ha
    exact ⟨μ, v, w, h1, h2, .refl hr⟩
  · cases h
end
end Go.Ev
