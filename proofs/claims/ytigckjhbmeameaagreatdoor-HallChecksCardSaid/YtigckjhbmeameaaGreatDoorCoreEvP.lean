/-
  Part of the engine that the claim is proved with: it states nothing of the document by itself.
-/
import Derived.Test.YtigckjhbmeameaaGreatDoorCoreEvO
import Derived.IntWalk

namespace Go.Ev
open Go.RowKit

theorem val?_bind (P : Program) {α β : Type} (x : Sem α) (f : α → Sem β) : (x >>= f).val? P = (x.val? P).bind fun a => (f a).val? P := by
  show (Sem.bind x f).val? P = _
  induction x with
  | pure b => rfl
  | program k ih => exact ih P
  | mark m k ih => exact ih
  | _ => rfl
theorem val?_pure (P : Program) {α : Type} (a : α) : (Pure.pure a : Sem α).val? P = some a := rfl

section
variable {P : Program} {μ : Nat → Option Loc} {H H' : AHeap} {w : World} {v : Value}

def AR (μ : Nat → Option Loc) (cs cs' : Array Value) : Prop := cs.size = cs'.size ∧ ∀ (i : Nat) (v v' : Value), cs[i]? = some v → cs'[i]? = some v' → VR μ v v'
theorem AR.get {cs cs' : Array Value} (h : AR μ cs cs') {i : Nat} {v : Value} (hv : cs[i]? = some v) : ∃ v', cs'[i]? = some v' ∧ VR μ v v' := by
  have hi : i < cs.size := (Array.getElem?_eq_some_iff.1 hv).1
  have h' : cs'[i]? = some (cs'[i]'(h.1 ▸ hi)) := Array.getElem?_eq_getElem _
  exact ⟨_, h', h.2 i _ _ hv h'⟩
theorem AR.toL {cs cs' : Array Value} (h : AR μ cs cs') : LR μ cs.toList cs'.toList := ⟨by simpa using h.1, fun j v v' hv hv' => h.2 j v v' (by simpa using hv) (by simpa using hv')⟩
theorem LR.toA {cs cs' : List Value} (h : LR μ cs cs') : AR μ cs.toArray cs'.toArray := ⟨by simpa using h.1, fun j v v' hv hv' => h.2 j v v' (by simpa using hv) (by simpa using hv')⟩
theorem AR.ofL {cs cs' : Array Value} (h : LR μ cs.toList cs'.toList) : AR μ cs cs' := ⟨by simpa using h.1, fun j v v' hv hv' => h.2 j v v' (by simpa using hv) (by simpa using hv')⟩
theorem VR.agg_inv {cs : Array Value} {v' : Value} (h : VR μ (.agg cs) v') : ∃ cs', v' = .agg cs' ∧ AR μ cs cs' := by
  cases h with
  | flat h => simp [flat1] at h
  | agg h1 h2 => exact ⟨_, rfl, h1, h2⟩
theorem VR.tuple_inv {cs : Array Value} {v' : Value} (h : VR μ (.tuple cs) v') : ∃ cs', v' = .tuple cs' ∧ AR μ cs cs' := by
  cases h with
  | flat h => simp [flat1] at h
  | tuple h1 h2 => exact ⟨_, rfl, h1, h2⟩
theorem VR.int_inv {k : IntKind} {n : Int} {v' : Value} (h : VR μ (.int k n) v') : v' = .int k n := h.eq1 rfl
theorem VR.bool_inv {b : Bool} {v' : Value} (h : VR μ (.bool b) v') : v' = .bool b := h.eq1 rfl

theorem AR.extract {cs cs' : Array Value} (h : AR μ cs cs') (a b : Nat) : AR μ (cs.extract a b) (cs'.extract a b) := by
  apply AR.ofL
  simp only [Array.toList_extract]
  exact (h.toL.drop _).take _

theorem partA_ok {t : TypeId} {cs cs' : Array Value} {off : Nat} (h : partA P t cs off = some v) (hc : AR μ cs cs') : ∃ v', (part t cs' off).run P w = .ok v' w ∧ VR μ v v' := by
  unfold partA at h
  split at h
  · rename_i s hagg hs
    cases h
    refine ⟨.agg (cs'.extract off (off + s)), ?_, .agg (hc.extract _ _).1 (hc.extract _ _).2⟩
    simp only [part, Sem.run_bind, run_isAggT hagg, Result.andThen_ok, if_true, run_sizeT hs, Sem.run_pure]
  · rename_i hagg
    obtain ⟨v', hv', hvr⟩ := hc.get h
    refine ⟨v', ?_, hvr⟩
    simp only [part, Sem.run_bind, run_isAggT hagg, Result.andThen_ok, Bool.false_eq_true, if_false, hv', Sem.run_pure]
  · cases h

theorem fieldA_ok {t : TypeId} {f : Nat} {fd : Field} (h : fieldA P t f = some fd) : ∃ fs, P.underlying t = some (.struct fs) ∧ fs[f]? = some fd := by
  unfold fieldA at h
  split at h
  · rename_i fs hu; exact ⟨fs, hu, h⟩
  · cases h

theorem valA_ok {x : Option Value} (h : valA x H = some (v, H')) : x = some v ∧ H' = H := by
  unfold valA at h
  cases x with
  | none => cases h
  | some u => simp at h; exact ⟨by rw [h.1], h.2.symm⟩

theorem fieldO_ok {t : TypeId} {f : Nat} {x x' : Value} (hr : Rel μ H w) (h : fieldO P t x f H = some (v, H')) (hx : VR μ x x') : OpOK P (Instr.field t x' f) v μ H w H' := by
  unfold fieldO at h
  split at h
  · rename_i cs fd hfd
    obtain ⟨hp, rfl⟩ := valA_ok h
    obtain ⟨cs', rfl, hc⟩ := hx.agg_inv
    obtain ⟨fs, hu, hf⟩ := fieldA_ok hfd
    obtain ⟨v', hrun, hv⟩ := partA_ok (w := w) hp hc
    refine .still hr ?_ hv
    simp only [Instr.field, Sem.run_bind, run_underlying hu, Result.andThen_ok, hf, asAgg, Sem.run_pure, hrun]
  · cases h

theorem extractA_ok {ix : Nat} {x x' : Value} (hr : Rel μ H w) (h : extractA x ix H = some (v, H')) (hx : VR μ x x') : OpOK P (Instr.extract x' ix) v μ H w H' := by
  unfold extractA at h
  split at h
  · rename_i vs
    obtain ⟨hp, rfl⟩ := valA_ok h
    obtain ⟨vs', rfl, hc⟩ := hx.tuple_inv
    obtain ⟨v', hv', hv⟩ := hc.get hp
    refine .still hr ?_ hv
    simp [Instr.extract, hv']
  · cases h

theorem VR.slice_inv {i o l c : Nat} {v' : Value} (h : VR μ (.slice (some ⟨i, o, none⟩) l c) v') :
    (∃ p c', μ i = some p ∧ v' = .slice (some ⟨p.b, p.base + o, none⟩) l c' ∧ l ≤ c' ∧ o + c' * p.esz ≤ p.n ∧ (c = UNK ∨ c = c')) ∨ (l = 0 ∧ c = UNK ∧ ∃ a, v' = .slice (some a) 0 0) := by
  cases h with
  | flat h => simp [flat1] at h
  | slice h hc hl hn => exact .inl ⟨_, _, h, rfl, hl, hn, .inr rfl⟩
  | sliceU h hl hn => exact .inl ⟨_, _, h, rfl, hl, hn, .inl rfl⟩
  | slice0 => exact .inr ⟨rfl, rfl, _, rfl⟩

theorem indexAddrA_ok {t : TypeId} {x x' ix ix' : Value} (hr : Rel μ H w) (h : indexAddrA P t x ix = some v) (hx : VR μ x x') (hi : VR μ ix ix') : OpOK P (Instr.indexAt t x' ix') v μ H w H := by
  unfold indexAddrA at h
  split at h
  · rename_i k n
    have := hi.int_inv; subst this
    split at h
    · rename_i elem i o len c hu
      split at h
      · rename_i s hs
        cases hlt : Nat.blt n len with
        | false => simp [hlt] at h
        | true =>
          have hlt' : n + 1 ≤ len := Nat.le_of_ble_eq_true hlt
          simp only [hlt, cond_true, Option.some.injEq] at h
          subst h
          rcases hx.slice_inv with ⟨p, c', hp, rfl, hl, hn, _⟩ | ⟨rfl, _⟩
          · refine .still hr ?_ (.ptr hp)
            have hnn : (0 : Int) ≤ (Int.ofNat n) ∧ (Int.ofNat n) < (len : Int) := by constructor <;> simp <;> omega
            simp only [Instr.indexAt, asIntOf, Sem.run_bind, Sem.run_pure, Result.andThen_ok, run_underlying hu, if_pos hnn, run_sizeT hs]
            rw [add_at]
            simp [Nat.add_assoc]
          · omega
      · cases h
    · rename_i len elem i o hu
      split at h
      · rename_i s hs
        cases hlt : Nat.blt n len with
        | false => simp [hlt] at h
        | true =>
          have hlt' : n + 1 ≤ len := Nat.le_of_ble_eq_true hlt
          simp only [hlt, cond_true, Option.some.injEq] at h
          subst h
          obtain ⟨p, hp, rfl⟩ := hx.ptr_inv
          refine .still hr ?_ (.ptr hp)
          have hnn : (0 : Int) ≤ (Int.ofNat n) ∧ (Int.ofNat n) < (len : Int) := by constructor <;> simp <;> omega
          simp only [Instr.indexAt, asIntOf, Sem.run_bind, Sem.run_pure, Result.andThen_ok, run_underlying hu, Instr.sureAddr, if_pos hnn, run_sizeT hs]
          rw [add_at]
          simp [Nat.add_assoc]
      · cases h
    · cases h
  · cases h

theorem fieldAddrA_ok {s : TypeId} {f : Nat} {x x' : Value} (hr : Rel μ H w) (h : fieldAddrA P s x f H = some (v, H')) (hx : VR μ x x') : OpOK P (Instr.fieldAt s x' f) v μ H w H' := by
  unfold fieldAddrA at h
  split at h
  · rename_i i o fd hfd
    obtain ⟨fs, hu, hf⟩ := fieldA_ok hfd
    obtain ⟨p, hp, rfl⟩ := hx.ptr_inv
    split at h
    · cases h
    · cases h
    · rename_i n hn0 hs
      simp only [Option.some.injEq, Prod.mk.injEq] at h
      obtain ⟨rfl, rfl⟩ := h
      refine .still hr ?_ (.ptr hp)
      have hne : ¬ n = 0 := fun e => hn0 e
      simp only [Instr.fieldAt, Sem.run_bind, run_underlying hu, Result.andThen_ok, hf, Instr.sureAddr, Sem.run_pure, fieldPlace, run_sizeT hs, if_neg hne]
      rw [add_at, Nat.add_assoc]
  · cases h

theorem pickA_ok {c a b c' a' b' : Value} (h : pickA c a b H = some (v, H')) (hc : VR μ c c') (ha : VR μ a a') (hb : VR μ b b') :
    ∃ v', (do pure (Next.value (if ← asBool c' then a' else b')) : Sem Next).run P w = .ok (.value v') w ∧ VR μ v v' ∧ H' = H := by
  unfold pickA at h
  split at h
  · rename_i t
    have := hc.bool_inv; subst this
    simp only [Option.some.injEq, Prod.mk.injEq] at h
    obtain ⟨rfl, rfl⟩ := h
    cases t
    · exact ⟨b', by simp [asBool], by simpa using hb, rfl⟩
    · exact ⟨a', by simp [asBool], by simpa using ha, rfl⟩
  · cases h

theorem nilCheck_func {f : FuncId} {fs cs : Array Value} {v' : Value} (h : VR μ (.func (.func f) fs cs) v') : ∃ fs' cs', v' = .func (.func f) fs' cs' := by
  cases h with
  | flat h => exact ⟨_, _, rfl⟩
  | func _ _ _ _ => exact ⟨_, _, rfl⟩

theorem VR.func_inv {f : FuncId} {fs cs : Array Value} {v' : Value} (h : VR μ (.func (.func f) fs cs) v') : ∃ fs' cs', v' = .func (.func f) fs' cs' ∧ AR μ fs fs' ∧ AR μ cs cs' := by
  cases h with
  | flat h =>
    simp [flat1] at h
    obtain ⟨rfl, rfl⟩ := h
    exact ⟨_, _, rfl, ⟨rfl, fun i v v' hv _ => by simp at hv⟩, ⟨rfl, fun i v v' hv _ => by simp at hv⟩⟩
  | func a b c d => exact ⟨_, _, rfl, ⟨a, b⟩, ⟨c, d⟩⟩
theorem VR.yield_inv {l : Nat} {fs cs : Array Value} {v' : Value} (h : VR μ (.func (.yield l) fs cs) v') : ∃ p, μ l = some p ∧ v' = .func (.yield p.b) #[] #[] ∧ fs = #[] ∧ cs = #[] := by
  cases h with
  | flat h => simp [flat1] at h
  | yield h => exact ⟨_, h, rfl, rfl, rfl⟩
theorem VR.ptrSome {ad : Addr} {v' : Value} (h : VR μ (.pointer (some ad)) v') : ∃ ad', v' = .pointer (some ad') := by
  cases h with
  | flat h => simp [flat1] at h
  | ptr h => exact ⟨_, rfl⟩

theorem nilCheckA_ok {x x' : Value} (h : nilCheckA x H = some (v, H')) (hx : VR μ x x') (o : Oper) (ρ : Operand → Value) (y : Operand) (ho : o.op = .nilCheck y) (hy : ρ y = x') :
    (execOp ρ o).run P w = .ok (.value x') w ∧ VR μ v x' ∧ H' = H := by
  unfold nilCheckA at h
  split at h
  · obtain ⟨ad', rfl⟩ := hx.ptrSome
    simp only [Option.some.injEq, Prod.mk.injEq] at h
    obtain ⟨rfl, rfl⟩ := h
    exact ⟨by simp [execOp, ho, hy], hx, rfl⟩
  · obtain ⟨fs', cs', rfl⟩ := nilCheck_func hx
    simp only [Option.some.injEq, Prod.mk.injEq] at h
    obtain ⟨rfl, rfl⟩ := h
    exact ⟨by simp [execOp, ho, hy], hx, rfl⟩
  · obtain ⟨p, hp, rfl, _, _⟩ := hx.yield_inv
    simp only [Option.some.injEq, Prod.mk.injEq] at h
    obtain ⟨rfl, rfl⟩ := h
    exact ⟨by simp [execOp, ho, hy], hx, rfl⟩
  · cases h

theorem makeIfaceA_ok {t : TypeId} {x x' : Value} (hr : Rel μ H w) (h : makeIfaceA P t x H = some (v, H')) (hx : VR μ x x') : OpOK P (Instr.makeInterface t x') v μ H w H' := by
  unfold makeIfaceA at h
  split at h
  · cases h
  · rename_i d hni hu
    simp only [Option.some.injEq, Prod.mk.injEq] at h
    obtain ⟨rfl, rfl⟩ := h
    refine .still hr ?_ (.iface hx)
    simp only [Instr.makeInterface, Sem.run_bind, run_underlying hu, Result.andThen_ok, Sem.run_pure]
  · cases h

theorem allocA_ok {e : TypeId} (hr : Rel μ H w) (h : allocA P e H = some (v, H')) : OpOK P (Instr.alloc e true (.tuple #[])) v μ H w H' := by
  unfold allocA at h
  split at h
  · rename_i z hz
    cases hf : Ev.flat z with
    | false => simp [hf] at h
    | true =>
      simp only [hf, cond_true, ptrA] at h
      split at h
      · rename_i i h2 hn
        simp only [Option.some.injEq, Prod.mk.injEq] at h
        obtain ⟨rfl, rfl⟩ := h
        obtain ⟨μ', v', w', hrun, hv, hp⟩ := newVar_ok (P := P) hr hn (LR.flat (flat_cells hf))
        refine ⟨μ', v', w', ?_, hv, hp⟩
        simp only [Instr.alloc, Sem.run_bind, run_zeroT hz, Result.andThen_ok] at hrun ⊢
        exact hrun
      · cases h
  · cases h

theorem boxA_ok {e : TypeId} {x x' : Value} (hr : Rel μ H w) (h : boxA e x H = some (v, H')) (hx : VR μ x x') : OpOK P (Instr.box e x') v μ H w H' := by
  unfold boxA ptrA at h
  split at h
  · rename_i i h2 hn
    simp only [Option.some.injEq, Prod.mk.injEq] at h
    obtain ⟨rfl, rfl⟩ := h
    exact newVar_ok (P := P) hr hn hx.cellsR
  · cases h

/-! ### Literals -/
theorem AR.set {cs cs' : Array Value} (h : AR μ cs cs') (i : Nat) {v v' : Value} (hv : VR μ v v') : AR μ (cs.setIfInBounds i v) (cs'.setIfInBounds i v') := by
  refine ⟨by simpa using h.1, fun j u u' hu hu' => ?_⟩
  rw [Array.getElem?_setIfInBounds] at hu hu'
  by_cases e : i = j
  · subst e
    simp only [if_true] at hu hu'
    by_cases hi : i < cs.size
    · rw [if_pos hi] at hu
      rw [if_pos (h.1 ▸ hi)] at hu'
      cases hu; cases hu'; exact hv
    · rw [if_neg hi] at hu; cases hu
  · rw [if_neg e] at hu hu'
    exact h.2 j u u' hu hu'

theorem fold_rel (off : Nat) : ∀ (l l' : List Value) (k : Nat) (cs cs' : Array Value), LR μ l l' → AR μ cs cs' →
    AR μ ((l.zipIdx k).foldl (fun cs (x : Value × Nat) => cs.setIfInBounds (off + x.2) x.1) cs) ((l'.zipIdx k).foldl (fun cs (x : Value × Nat) => cs.setIfInBounds (off + x.2) x.1) cs') := by
  intro l
  induction l with
  | nil =>
    intro l' k cs cs' hl hc
    have : l' = [] := List.eq_nil_of_length_eq_zero hl.1.symm
    subst this; exact hc
  | cons v l ih =>
    intro l' k cs cs' hl hc
    match l', hl with
    | [], hl => cases hl.1
    | v' :: l', hl =>
      simp only [List.zipIdx_cons, List.foldl_cons]
      refine ih l' (k + 1) _ _ ⟨by have := hl.1; simpa using this, fun j u u' hu hu' => hl.2 (j + 1) u u' (by simpa using hu) (by simpa using hu')⟩ (hc.set _ (hl.2 0 v v' rfl rfl))

def PRel (μ : Nat → Option Loc) (ps ps' : List (Nat × Value)) : Prop := ps.length = ps'.length ∧ ∀ (j : Nat) (a b : Nat × Value), ps[j]? = some a → ps'[j]? = some b → a.1 = b.1 ∧ VR μ a.2 b.2

theorem zip_fold_eq (off : Nat) (cs : Array Value) (v : Value) : (v.cells.zipIdx.foldl (fun cs (c, j) => cs.setIfInBounds (off + j) c) cs) = ((v.cells.toList.zipIdx 0).foldl (fun cs (x : Value × Nat) => cs.setIfInBounds (off + x.2) x.1) cs) := by
  rw [← Array.foldl_toList]
  simp

theorem fill_rel (place : Nat → Option (Nat × Nat)) : ∀ (ps ps' : List (Nat × Value)) (cs cs' r : Array Value), PRel μ ps ps' → AR μ cs cs' → Instr.fill place cs ps = some r →
    ∃ r', Instr.fill place cs' ps' = some r' ∧ AR μ r r' := by
  intro ps
  induction ps with
  | nil =>
    intro ps' cs cs' r hp hc h
    have : ps' = [] := List.eq_nil_of_length_eq_zero hp.1.symm
    subst this
    simp [Instr.fill] at h
    subst h
    exact ⟨cs', rfl, hc⟩
  | cons a ps ih =>
    intro ps' cs cs' r hp hc h
    match ps', hp with
    | [], hp => cases hp.1
    | b :: ps', hp =>
      obtain ⟨i, v⟩ := a
      obtain ⟨i', v'⟩ := b
      obtain ⟨e, hv⟩ := hp.2 0 _ _ rfl rfl
      simp only at e hv
      subst e
      have hcl := hv.cellsR
      have hsz : v'.cells.size = v.cells.size := by have := hcl.1; simpa using this.symm
      simp only [Instr.fill] at h ⊢
      cases hpl : place i with
      | none => rw [hpl] at h; cases h
      | some os =>
        obtain ⟨off, size⟩ := os
        rw [hpl] at h
        simp only at h ⊢
        rw [hsz, ← hc.1]
        split at h
        · cases h
        · rename_i hcond
          rw [if_neg hcond]
          rw [zip_fold_eq] at h ⊢
          exact ih ps' _ _ r ⟨by have := hp.1; simpa using this, fun j a b ha hb => hp.2 (j + 1) a b (by simpa using ha) (by simpa using hb)⟩ (fold_rel off _ _ 0 _ _ hcl hc) h

theorem build_ok {t : TypeId} {ps ps' : Array (Nat × Value)} (hr : Rel μ H w) (h : (Instr.build t ps).val? P = some v) (hp : PRel μ ps.toList ps'.toList)
    (hz : zflat P t = true) : OpOK P (Instr.build t ps') v μ H w H := by
  unfold Instr.build at h
  rw [val?_bind] at h
  cases hzv : (zeroValue t).val? P with
  | none => rw [hzv] at h; cases h
  | some z =>
    rw [hzv] at h
    simp only [Option.bind_some] at h
    rw [val?_bind] at h
    have hzr := val?_run P _ hzv
    have hzt : zeroT P t = some z := by
      have := hzr (default : World)
      unfold zeroT
      cases hi : P.info? t with
      | none => simp [zeroValue, typeInfo, hi, stuck] at this
      | some i =>
        simp only [zeroValue, Sem.run_bind, run_typeInfo _ hi, Result.andThen_ok] at this
        cases hz0 : i.zero with
        | none => rw [hz0] at this; simp [unsupported] at this
        | some z0 => rw [hz0] at this; simp at this; simp [hz0, this]
    have hzl : AR μ z.cells z.cells := AR.ofL (LR.flat (flat_cells (by unfold zflat at hz; rw [hzt] at hz; exact hz)))
    cases huv : (underlying t).val? P with
    | none => rw [huv] at h; cases h
    | some d =>
      rw [huv] at h
      simp only [Option.bind_some] at h
      have hur := val?_run P _ huv
      cases d with
      | struct fields =>
        simp only at h
        rw [val?_bind] at h
        cases hmv : (fields.mapM fun f => do pure (f.offset, ← sizeOf f.type) : Sem (Array (Nat × Nat))).val? P with
        | none => rw [hmv] at h; cases h
        | some places =>
          rw [hmv] at h
          simp only [Option.bind_some] at h
          cases hf : Instr.fill (places[·]?) z.cells ps.toList with
          | none => simp only [hf] at h; cases h
          | some r =>
            simp only [hf, val?_pure, Option.some.injEq] at h
            subst h
            obtain ⟨r', hf', hrr⟩ := fill_rel _ _ _ _ _ _ hp hzl hf
            refine .still hr ?_ (.agg hrr.1 hrr.2)
            unfold Instr.build
            simp only [Sem.run_bind, hzr w, Result.andThen_ok, hur w, val?_run P _ hmv w, hf', Sem.run_pure]
      | array len elem =>
        simp only at h
        rw [val?_bind] at h
        cases hsv : (sizeOf elem).val? P with
        | none => rw [hsv] at h; cases h
        | some size =>
          rw [hsv] at h
          simp only [Option.bind_some] at h
          cases hf : Instr.fill (fun i => some (i * size, size)) z.cells ps.toList with
          | none => simp only [hf] at h; cases h
          | some r =>
            simp only [hf, val?_pure, Option.some.injEq] at h
            subst h
            obtain ⟨r', hf', hrr⟩ := fill_rel _ _ _ _ _ _ hp hzl hf
            refine .still hr ?_ (.agg hrr.1 hrr.2)
            unfold Instr.build
            simp only [Sem.run_bind, hzr w, Result.andThen_ok, hur w, val?_run P _ hsv w, hf', Sem.run_pure]
      | _ => cases h

theorem nil_of_none {μ : Nat → Option Loc} {v' : Value} {n c : Nat} (h : VR μ (.slice none n c) v') : v' = .slice none n c ∧ n = 0 := by
  cases h with
  | flat h =>
    refine ⟨rfl, ?_⟩
    unfold flat1 at h
    split at h <;> simp_all

theorem rep_arr (z : Array Value) (n size : Nat) (hs : z.size = size) (_h0 : 0 < size) : (Array.range (n * size)).map (fun i => z[i % z.size]!) = (List.replicate n z.toList).flatten.toArray := by
  apply Array.ext'
  simp only [Array.toList_map, Array.toList_range]
  induction n with
  | zero => simp
  | succ n ih =>
    rw [Nat.succ_mul, List.range_add, List.map_append, ih, List.replicate_succ', List.flatten_append]
    congr 1
    simp only [List.flatten_cons, List.flatten_nil, List.append_nil, List.map_map]
    apply List.ext_getElem?
    intro j
    by_cases hj : j < size
    · simp only [List.getElem?_map, List.getElem?_range hj, Option.map_some, Function.comp_apply]
      rw [hs, show (n * size + j) % size = j by rw [Nat.mul_comm, Nat.mul_add_mod]; exact Nat.mod_eq_of_lt hj]
      have : j < z.size := by omega
      simp [this]
    · rw [List.getElem?_eq_none (by simp; omega), List.getElem?_eq_none (by simp; omega)]

theorem rep_arr0 (z : Array Value) (n : Nat) : (Array.range (n * 0)).map (fun i => z[i % z.size]!) = (List.replicate n ([] : List Value)).flatten.toArray := by
  simp

theorem LR.rep {z : List Value} (hz : z.all flat1 = true) (n : Nat) : LR μ (List.replicate n z).flatten (List.replicate n z).flatten :=
  LR.flat (by
    rw [List.all_eq_true]
    intro v hv
    obtain ⟨l, hl, hv⟩ := List.mem_flatten.1 hv
    rw [List.eq_of_mem_replicate hl] at hv
    exact List.all_eq_true.1 hz v hv)

theorem row_zero {elem : TypeId} {z : Value} {n size : Nat} (hz : zeroT P elem = some z) (hs : z.cells.size = size) :
    ((if n * size = 0 then pure #[] else do pure (← zeroValue elem).cells : Sem (Array Value)) >>= fun zero => pure ((Array.range (n * size)).map (zero[· % zero.size]!))).run P w = .ok (List.replicate n z.cells.toList).flatten.toArray w := by
  by_cases h0 : n * size = 0
  · rw [if_pos h0]
    simp only [Sem.run_bind, Sem.run_pure, Result.andThen_ok, h0]
    have : (List.replicate n z.cells.toList).flatten = [] := by
      rcases Nat.mul_eq_zero.1 h0 with rfl | rfl
      · rfl
      · have : z.cells.toList = [] := by simpa using hs
        rw [this]; simp
    rw [this]; simp
  · rw [if_neg h0]
    simp only [Sem.run_bind, run_zeroT hz, Sem.run_pure, Result.andThen_ok]
    rw [rep_arr z.cells n size hs (by rcases Nat.eq_zero_or_pos size with rfl | h; simp at h0; exact h)]

theorem run_askRoom (n : Nat) : (askRoom n).run P w = .ok () w := by unfold askRoom; split <;> rfl

theorem makeSliceA_ok {t : TypeId} {l l' c c' : Value} (hr : Rel μ H w) (h : makeSliceA P t l c H = some (v, H')) (hl : VR μ l l') (hc : VR μ c c') : OpOK P (Instr.makeSlice t l' c') v μ H w H' := by
  unfold makeSliceA at h
  split at h
  · rename_i elem k1 n k2 m hu
    have := hl.int_inv; subst this
    have := hc.int_inv; subst this
    split at h
    · rename_i inf hi
      split at h
      · rename_i z hz
        cases hcond : (Nat.ble n m && Nat.ble m 16777216 && Nat.ble (inf.bytes * m) 281474976710656 && Ev.flat z && Nat.beq z.cells.size inf.size) with
        | false => simp [hcond] at h
        | true =>
          simp only [hcond, cond_true] at h
          simp only [Bool.and_eq_true] at hcond
          obtain ⟨⟨⟨⟨h1, h2⟩, h3⟩, h4⟩, h5⟩ := hcond
          have h1 := Nat.le_of_ble_eq_true h1
          have h2 := Nat.le_of_ble_eq_true h2
          have h3 := Nat.le_of_ble_eq_true h3
          have h5 := Nat.eq_of_beq_eq_true h5
          split at h
          · rename_i i h' hn
            simp only [Option.some.injEq, Prod.mk.injEq] at h
            obtain ⟨rfl, rfl⟩ := h
            obtain ⟨rfl, hp, _⟩ := newRow_post hr hn (LR.rep (flat_cells h4) m) #[]
            have hzt : zeroT P elem = some z := by simp [zeroT, hi, hz]
            have hlen : (List.replicate m z.cells.toList).flatten.length = m * inf.size := by
              rw [List.length_flatten, List.map_replicate, List.sum_replicate_nat]; simp [h5]
            refine ⟨_, .slice (some ⟨w.heap.size, 0, none⟩) n m, _, ?_, ?_, hp⟩
            · have w1 : ∀ q : Nat, q ≤ 16777216 → IntKind.i64.wrap (Int.ofNat q) = Int.ofNat q := fun q hq => by
                have := IntWalk.i64_in (Int.ofNat q) (by constructor <;> simp <;> omega)
                exact this
              unfold Instr.makeSlice
              simp only [Sem.run_bind, run_underlying hu, Result.andThen_ok, asInt, asIntOf, Sem.run_pure, run_typeInfo _ hi, w1 n (by omega), w1 m h2]
              have hb : ((inf.bytes : Int) * Int.ofNat m) ≤ 281474976710656 := by
                have := Int.ofNat_le.2 h3
                rw [Int.natCast_mul] at this
                exact Int.le_trans this (by decide)
              have hcf : (decide (Int.ofNat m < 0) || decide ((inf.bytes : Int) * Int.ofNat m > 2 ^ 48) || decide (Int.ofNat n < 0) || decide (Int.ofNat n > Int.ofNat m)) = false := by
                have a1 : ¬ Int.ofNat m < 0 := by simp
                have a2 : ¬ ((inf.bytes : Int) * Int.ofNat m > 2 ^ 48) := by omega
                have a3 : ¬ Int.ofNat n < 0 := by simp
                have a4 : ¬ Int.ofNat n > Int.ofNat m := by simp; omega
                rw [decide_eq_false a1, decide_eq_false a2, decide_eq_false a3, decide_eq_false a4]; rfl
              rw [hcf]
              simp only [Bool.false_eq_true, if_false, Sem.run_bind, run_askRoom, Result.andThen_ok, run_infoSize hi, show (Int.ofNat m).toNat = m from rfl, show (Int.ofNat n).toNat = n from rfl]
              have e1 := row_zero (P := P) (w := w) (n := m) hzt h5
              by_cases h0 : m * inf.size = 0
              · rw [if_pos h0] at e1 ⊢
                simp only [Sem.run_bind, Sem.run_pure, Result.andThen_ok] at e1 ⊢
                have e2 := (Result.ok.inj e1).1
                rw [e2]
                simp [newRow]
              · rw [if_neg h0] at e1 ⊢
                simp only [Sem.run_bind, run_zeroT hzt, Sem.run_pure, Result.andThen_ok] at e1 ⊢
                have e2 := (Result.ok.inj e1).1
                rw [e2]
                simp [newRow]
            · refine VR.slice (p := ⟨w.heap.size, 0, (List.replicate m z.cells.toList).flatten.length + (#[] : Array Value).size, inf.size⟩) (if_pos rfl) (by unfold UNK; omega) h1 (by simp [hlen])
          · cases h
      · cases h
    · cases h
  · cases h
end
end Go.Ev
