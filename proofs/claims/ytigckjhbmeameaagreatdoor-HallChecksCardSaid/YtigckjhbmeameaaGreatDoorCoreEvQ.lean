/-
  Part of the engine that the claim is proved with: it states nothing of the document by itself.
-/
import Derived.Test.YtigckjhbmeameaaGreatDoorCoreEvP
import Derived.LaidEql

namespace Go.Ev
open Go.RowKit
section
variable {P : Program} {μ : Nat → Option Loc} {H H' : AHeap} {w : World} {v : Value}

/-! ### Numbers -/
theorem blt_lt {n m : Nat} (h : Nat.blt n m = true) : n < m := Nat.le_of_ble_eq_true h
theorem ltI_eq (a b : Int) : ltI a b = decide (a < b) := by
  cases a with
  | ofNat a =>
    cases b with
    | ofNat b =>
      show Nat.blt a b = _
      rw [Bool.eq_iff_iff, decide_eq_true_iff]
      constructor
      · intro h; have : a + 1 ≤ b := Nat.le_of_ble_eq_true h; simp; omega
      · intro h; have : a < b := by simpa using h
        exact Nat.ble_eq_true_of_le this
    | negSucc b =>
      show false = _
      symm; rw [decide_eq_false_iff_not]; intro h
      have := Int.negSucc_lt_zero b
      have h2 : (0 : Int) ≤ Int.ofNat a := Int.natCast_nonneg a
      omega
  | negSucc a =>
    cases b with
    | ofNat b =>
      show true = _
      symm; rw [decide_eq_true_iff]
      have := Int.negSucc_lt_zero a
      have h2 : (0 : Int) ≤ Int.ofNat b := Int.natCast_nonneg b
      omega
    | negSucc b =>
      show Nat.blt b a = _
      rw [Bool.eq_iff_iff, decide_eq_true_iff]
      constructor
      · intro h; have : b + 1 ≤ a := Nat.le_of_ble_eq_true h; simp only [Int.negSucc_eq]; omega
      · intro h; simp only [Int.negSucc_eq] at h
        exact Nat.ble_eq_true_of_le (by omega)
theorem eqI_eq (a b : Int) : eqI a b = (a == b) := by
  have nb : ∀ x y : Nat, Nat.beq x y = decide (x = y) := fun x y => by
    rw [Bool.eq_iff_iff, decide_eq_true_iff]
    exact ⟨Nat.eq_of_beq_eq_true, fun h => by subst h; exact Nat.beq_refl x⟩
  cases a with
  | ofNat a =>
    cases b with
    | ofNat b => show Nat.beq a b = _; rw [nb, Bool.eq_iff_iff]; simp; omega
    | negSucc b => show false = _; symm; simp
  | negSucc a =>
    cases b with
    | ofNat b => show false = _; symm; simp
    | negSucc b => show Nat.beq a b = _; rw [nb, Bool.eq_iff_iff]; simp

theorem wrap_i64_nat (m : Nat) (h : m < 9223372036854775808) : IntKind.i64.wrap (m : Int) = (m : Int) := IntWalk.i64_in (m : Int) ⟨by omega, by omega⟩
theorem wrap_i64_neg (m : Nat) (h : m < 9223372036854775808) : IntKind.i64.wrap (Int.negSucc m) = Int.negSucc m := by
  have e := Int.negSucc_eq m
  have h2 : -9223372036854775808 ≤ Int.negSucc m := by rw [e]; omega
  have h3 : Int.negSucc m ≤ 9223372036854775807 := by rw [e]; omega
  exact IntWalk.i64_in (Int.negSucc m) ⟨h2, h3⟩
theorem wrap_u8_nat (m : Nat) (h : m < 256) : IntKind.u8.wrap (m : Int) = (m : Int) := by
  unfold IntKind.wrap; simp [IntKind.bits, IntKind.signed]; omega
theorem wrap_small (k : IntKind) (m : Nat) (h : m < 128) : k.wrap (m : Int) = (m : Int) := by
  cases k <;> unfold IntKind.wrap <;> simp [IntKind.bits, IntKind.signed] <;> omega
theorem cond_eq {α : Type} {b : Bool} {x y : α} (h : b = true → x = y) : cond b x y = y := by cases b with | false => rfl | true => exact h rfl
theorem wrapF_pos (k : IntKind) (m : Nat) (h : m < wrapLim k) : Int.ofNat m = k.wrap (Int.ofNat m) := by
  cases k with
  | i64 => exact (wrap_i64_nat m h).symm
  | u8 => exact (wrap_u8_nat m h).symm
  | i8 => exact (wrap_small .i8 m h).symm
  | i16 => exact (wrap_small .i16 m h).symm
  | i32 => exact (wrap_small .i32 m h).symm
  | u16 => exact (wrap_small .u16 m h).symm
  | u32 => exact (wrap_small .u32 m h).symm
  | u64 => exact (wrap_small .u64 m h).symm
theorem wrapF_neg (k : IntKind) (m : Nat) : wrapF k (.negSucc m) = k.wrap (.negSucc m) := by
  cases k with
  | i64 => exact cond_eq fun h => (wrap_i64_neg m (blt_lt h)).symm
  | _ => rfl
theorem wrapF_eq (k : IntKind) (n : Int) : wrapF k n = k.wrap n := by
  cases n with
  | ofNat m => exact cond_eq fun h => wrapF_pos k m (blt_lt h)
  | negSucc m => exact wrapF_neg k m
theorem notlt (a b : Int) : decide (a ≤ b) = !decide (b < a) := by
  rw [Bool.eq_iff_iff]; simp
theorem intBin_ok {op : BinOp} {k : IntKind} {a b : Int} {t : TypeId} (h : intBin op k a b = some v) : (binOp op t (.int k a) (.int k b)).run P w = .ok v w ∧ flat1 v = true := by
  cases op <;> simp only [intBin, Option.some.injEq, reduceCtorEq] at h <;> subst h <;>
    simp [binOp, Op.intArith, Op.intCmp, wrapF_eq, ltI_eq, eqI_eq, flat1, Int.add_def, bne] <;> first | rfl | exact notlt _ _ | skip

/-! ### Binary operators -/
theorem VR.ptrSomeI {ad : Addr} {v' : Value} (h : VR μ (.pointer (some ad)) v') : ∃ ad', v' = .pointer (some ad') := h.ptrSome
theorem VR.sliceSome {ad : Addr} {l c : Nat} {v' : Value} (h : VR μ (.slice (some ad) l c) v') : ∃ ad' l' c', v' = .slice (some ad') l' c' := by
  cases h with
  | flat h => simp [flat1] at h
  | slice _ _ _ _ => exact ⟨_, _, _, rfl⟩
  | sliceU _ _ _ => exact ⟨_, _, _, rfl⟩
  | slice0 => exact ⟨_, _, _, rfl⟩
theorem VR.funcSome {f : Fn} {a b : Array Value} {v' : Value} (h : VR μ (.func f a b) v') : ∃ f' a' b', v' = .func f' a' b' := by
  cases h with
  | flat h => exact ⟨_, _, _, rfl⟩
  | func _ _ _ _ => exact ⟨_, _, _, rfl⟩
  | yield _ => exact ⟨_, _, _, rfl⟩
theorem VR.ptrNone {v' : Value} (h : VR μ (.pointer none) v') : v' = .pointer none := h.eq1 rfl
theorem VR.sliceNone {l c : Nat} {v' : Value} (h : VR μ (.slice none l c) v') : v' = .slice none l c := (nil_of_none h).1
theorem VR.nilFunc {v' : Value} (h : VR μ .nilFunc v') : v' = .nilFunc := h.eq1 rfl

def refs (x y : Value) : Prop := (∃ a b, x = .pointer a ∧ y = .pointer b) ∨ (∃ a b c d e f, x = .slice a b c ∧ y = .slice d e f) ∨ (∃ a b c, x = .func a b c ∧ y = .nilFunc) ∨ (∃ a b c, x = .nilFunc ∧ y = .func a b c)
theorem eqGuard_run {op : BinOp} {t : TypeId} {ox oy : Operand} {x y : Value} (h : refs x y) : (eqGuard op t ox oy x y).run P w = .ok () w := by
  unfold eqGuard
  rcases h with ⟨a, b, rfl, rfl⟩ | ⟨a, b, c, d, e, f, rfl, rfl⟩ | ⟨a, b, c, rfl, rfl⟩ | ⟨a, b, c, rfl, rfl⟩ <;> split <;> simp
theorem eql_def {t : TypeId} {x y : Value} (h : refs x y) : binOp .eql t x y = (do pure (.bool (← Op.equal t x y))) := by
  rcases h with ⟨a, b, rfl, rfl⟩ | ⟨a, b, c, d, e, f, rfl, rfl⟩ | ⟨a, b, c, rfl, rfl⟩ | ⟨a, b, c, rfl, rfl⟩ <;> rfl
theorem neq_def {t : TypeId} {x y : Value} (h : refs x y) : binOp .neq t x y = (do pure (.bool (!(← Op.equal t x y)))) := by
  rcases h with ⟨a, b, rfl, rfl⟩ | ⟨a, b, c, d, e, f, rfl, rfl⟩ | ⟨a, b, c, rfl, rfl⟩ | ⟨a, b, c, rfl, rfl⟩ <;> rfl

theorem equal_of {t : TypeId} {x y : Value} {b : Bool} (h : ∀ d, (Op.equalIn (d + 1) t x y).run P w = .ok b w) : (Op.equal t x y).run P w = .ok b w := h 9999

theorem nilEqK_ok {t : TypeId} {x y x' y' : Value} {b : Bool} (h : nilEqK P t x y = some b) (hx : VR μ x x') (hy : VR μ y y') : refs x' y' ∧ (Op.equal t x' y').run P w = .ok b w := by
  unfold nilEqK at h
  split at h
  · rename_i hu
    cases h
    obtain ⟨a', rfl⟩ := hx.ptrSome
    have := hy.ptrNone; subst this
    exact ⟨.inl ⟨_, _, rfl, rfl⟩, equal_of fun d => by simp only [Op.equalIn, Sem.run_bind, run_underlying hu, Result.andThen_ok, Sem.run_pure]⟩
  · rename_i hu
    cases h
    obtain ⟨a', rfl⟩ := hy.ptrSome
    have := hx.ptrNone; subst this
    exact ⟨.inl ⟨_, _, rfl, rfl⟩, equal_of fun d => by simp only [Op.equalIn, Sem.run_bind, run_underlying hu, Result.andThen_ok, Sem.run_pure]; rfl⟩
  · rename_i e i o j o2 hu
    cases hb : (Nat.beq i j && Nat.beq o o2) with
    | false => rw [hb] at h; cases h
    | true =>
      rw [hb] at h
      simp only [cond_true] at h
      simp only [Bool.and_eq_true] at hb
      have e1 := Nat.eq_of_beq_eq_true hb.1
      have e2 := Nat.eq_of_beq_eq_true hb.2
      subst e1 e2
      split at h
      · rename_i sz hsz
        cases h
        obtain ⟨p, hp, rfl⟩ := hx.ptr_inv
        obtain ⟨q, hq, rfl⟩ := hy.ptr_inv
        rw [hp] at hq; cases hq
        refine ⟨.inl ⟨_, _, rfl, rfl⟩, equal_of fun d => ?_⟩
        simp only [Op.equalIn, Sem.run_bind, run_underlying hu, Result.andThen_ok, run_sizeT hsz]
        by_cases hz : sz = 0
        · subst hz; simp
        · rw [if_pos hz]; exact run_sameAddr_same w _
      · cases h
  · rename_i hu
    cases h
    obtain ⟨a', l', c', rfl⟩ := hx.sliceSome
    have := hy.sliceNone; subst this
    exact ⟨.inr (.inl ⟨_, _, _, _, _, _, rfl, rfl⟩), equal_of fun d => by simp only [Op.equalIn, Sem.run_bind, run_underlying hu, Result.andThen_ok, Sem.run_pure]⟩
  · rename_i hu
    cases h
    obtain ⟨a', l', c', rfl⟩ := hy.sliceSome
    have := hx.sliceNone; subst this
    exact ⟨.inr (.inl ⟨_, _, _, _, _, _, rfl, rfl⟩), equal_of fun d => by simp only [Op.equalIn, Sem.run_bind, run_underlying hu, Result.andThen_ok, Sem.run_pure]; rfl⟩
  · rename_i hu
    cases h
    obtain ⟨a', l', c', rfl⟩ := hx.funcSome
    have := hy.nilFunc; subst this
    exact ⟨.inr (.inr (.inl ⟨_, _, _, rfl, rfl⟩)), equal_of fun d => by simp only [Op.equalIn, Sem.run_bind, run_underlying hu, Result.andThen_ok, Sem.run_pure]⟩
  · rename_i hu
    cases h
    obtain ⟨a', l', c', rfl⟩ := hy.funcSome
    have := hx.nilFunc; subst this
    exact ⟨.inr (.inr (.inr ⟨_, _, _, rfl, rfl⟩)), equal_of fun d => by simp only [Op.equalIn, Sem.run_bind, run_underlying hu, Result.andThen_ok, Sem.run_pure]⟩
  · cases h

theorem nilEqA_ok {op : BinOp} {t : TypeId} {ox oy : Operand} {x y x' y' : Value} (hr : Rel μ H w) (h : nilEqA P op t x y = some v) (hx : VR μ x x') (hy : VR μ y y') :
    OpOK P (do eqGuard op t ox oy x' y'; binOp op t x' y') v μ H w H := by
  unfold nilEqA at h
  split at h
  · rename_i b hk
    obtain ⟨hrf, he⟩ := nilEqK_ok (w := w) hk hx hy
    split at h
    · cases h
      refine .still hr (v' := .bool b) ?_ (.flat rfl)
      rw [eql_def hrf]
      simp only [Sem.run_bind, eqGuard_run hrf, Result.andThen_ok, he, Sem.run_pure]
    · cases h
      refine .still hr (v' := .bool (Bool.not b)) ?_ (.flat rfl)
      rw [neq_def hrf]
      simp only [Sem.run_bind, eqGuard_run hrf, Result.andThen_ok, he, Sem.run_pure]
    · cases h
  · cases h

theorem binA_ok {op : BinOp} {t : TypeId} {ox oy : Operand} {x y x' y' : Value} (hr : Rel μ H w) (h : binA P op t ox oy x y H = some (v, H')) (hx : VR μ x x') (hy : VR μ y y') :
    OpOK P (do eqGuard op t ox oy x' y'; binOp op t x' y') v μ H w H' := by
  unfold binA at h
  split at h
  · rename_i k a k' b
    have := hx.int_inv; subst this
    have := hy.int_inv; subst this
    have hg : (eqGuard op t ox oy (.int k a) (.int k' b)).run P w = .ok () w := by unfold eqGuard; split <;> simp
    split at h
    · rename_i u hu
      cases hk : (k == k') with
      | false => simp [hk] at hu
      | true =>
        simp only [hk, cond_true] at hu
        have := eq_of_beq hk; subst this
        simp only [Option.some.injEq, Prod.mk.injEq] at h
        obtain ⟨rfl, rfl⟩ := h
        obtain ⟨h1, h2⟩ := intBin_ok (P := P) (w := w) (t := t) hu
        exact .still hr (by simp [hg, h1]) (.flat h2)
    · obtain ⟨μ', v', w', h1, h2, h3⟩ := OpOK.of_flatVal (P := P) hr h
      exact ⟨μ', v', w', by simp [hg, h1], h2, h3⟩
  · split at h
    · rename_i u hu
      simp only [Option.some.injEq, Prod.mk.injEq] at h
      obtain ⟨rfl, rfl⟩ := h
      exact nilEqA_ok hr hu hx hy
    · cases hf : (Ev.flat x && Ev.flat y) with
      | false => simp [hf] at h
      | true =>
        simp only [hf, cond_true] at h
        simp only [Bool.and_eq_true] at hf
        have := hx.eq hf.1; subst this
        have := hy.eq hf.2; subst this
        exact .of_flatVal hr h

theorem unA_ok {op : UnOp} {x x' : Value} (hr : Rel μ H w) (h : unA P op x H = some (v, H')) (hx : VR μ x x') : OpOK P (Op.unary op x') v μ H w H' := by
  unfold unA at h
  cases hf : Ev.flat x with
  | false => simp [hf] at h
  | true =>
    simp only [hf, cond_true] at h
    have := hx.eq hf; subst this
    exact .of_flatVal hr h
theorem run_seenAt {ad : Addr} {e : TypeId} {n : Nat} (hsh : w.shape? ad.block = some (e, n)) : (Conv.seenAt ad).run P w = .ok ad w := by
  have hv : (viewAt ad.block).run P w = .ok none w := by simp [viewAt, hsh]
  unfold Conv.seenAt
  simp only [Sem.run_bind, hv, Result.andThen_ok, Sem.run_pure]

theorem lies_var {e : TypeId} {k : Nat} (hc : P.cellsOf e = k) (hk : 0 < k) (count : Nat) (hn : 1 ≤ count) : liesAt P P.depth e count 0 e 1 = true := by
  have hd : P.depth = (2 * (P.types.size + Made.depth) + 1) + 1 := rfl
  rw [hd]
  simp only [liesAt, Bool.or_eq_true]
  left
  rw [hd]
  have hk0 : ¬ k = 0 := by omega
  simp [rowAt, hc, hn, sameLayout, hk0]

theorem convP_ok {s d : TypeId} {i o : Nat} {p : Loc} (hr : Rel μ H w) (h : convP P s d i o H = true) (hp : μ i = some p) : (convert s d (.pointer (some ⟨p.b, p.base + o, none⟩))).run P w = .ok (.pointer (some ⟨p.b, p.base + o, none⟩)) w := by
  unfold convP at h
  split at h
  · rename_i t cs e esz m ro hs hd hg
    obtain ⟨arr, fz, ha, h1, h2, h3, h4, h5⟩ := hr.cells _ _ _ _ _ _ _ hg hp
    simp only [Bool.and_eq_true] at h
    have ho : o + 1 ≤ cs.length := Nat.le_of_ble_eq_true h.1
    have h6 := h.2
    split at h6
    · rename_i k hk
      have hk0 : 0 + 1 ≤ k := Nat.le_of_ble_eq_true h6
      have hkn : ¬ k = 0 := by omega
      have hsh : w.shape? p.b = some (e, arr.size) := by simp [World.shape?, ha]
      have hoff : ¬ arr.size ≤ p.base + o := by omega
      have hun : (Conv.unsafePointer s d (.pointer (some ⟨p.b, p.base + o, none⟩))).run P w = .ok (.pointer (some ⟨p.b, p.base + o, none⟩)) w := by
        unfold Conv.unsafePointer
        simp [run_underlying hs, run_underlying hd, run_seenAt (P := P) (w := w) (ad := ⟨p.b, p.base + o, none⟩) hsh, cellsIn, hsh, hoff, run_sizeT hk, hkn]
      unfold convert
      simp only [Sem.run_bind, run_underlying hs, run_underlying hd, Result.andThen_ok]
      exact hun
    · cases h6
  · rename_i u cs e m ro hs hd hg
    obtain ⟨arr, fz, ha, h1, h2, h3, h4, h5⟩ := hr.cells _ _ _ _ _ _ _ hg hp
    simp only [Bool.and_eq_true] at h
    obtain ⟨⟨c1, c2⟩, h6⟩ := h
    have c1 := Nat.eq_of_beq_eq_true c1
    have c2 := Nat.eq_of_beq_eq_true c2
    subst c1 c2
    split at h6
    · rename_i k hk
      simp only [Bool.and_eq_true] at h6
      obtain ⟨⟨d1, d2⟩, d3⟩ := h6
      have d1 : 0 + 1 ≤ k := Nat.le_of_ble_eq_true d1
      have d2 := Nat.le_of_ble_eq_true d2
      have d3 := Nat.eq_of_beq_eq_true d3
      have hkn : ¬ k = 0 := by omega
      have hb0 := h3.2 rfl
      have hsh : w.shape? p.b = some (e, arr.size) := by simp [World.shape?, ha]
      have hlies := lies_var (P := P) d3 (by omega) (arr.size / P.cellsOf e) (by rw [d3]; exact (Nat.one_le_div_iff (by omega)).2 (by omega))
      have hun : (Conv.unsafePointer s d (.pointer (some ⟨p.b, p.base + 0, none⟩))).run P w = .ok (.pointer (some ⟨p.b, p.base + 0, none⟩)) w := by
        rw [hb0]
        unfold Conv.unsafePointer
        simp [run_underlying hs, run_underlying hd, run_seenAt (P := P) (w := w) (ad := ⟨p.b, 0, none⟩) hsh, hsh, run_sizeT hk, hkn, variablesAt, hlies]
      unfold convert
      simp only [Sem.run_bind, run_underlying hs, run_underlying hd, Result.andThen_ok]
      exact hun
    · cases h6
  · cases h

theorem convA_ok {s d : TypeId} {x x' : Value} (hr : Rel μ H w) (h : convA P s d x H = some (v, H')) (hx : VR μ x x') : OpOK P (convert s d x') v μ H w H' := by
  unfold convA at h
  split at h
  · rename_i i o
    cases hc : convP P s d i o H with
    | false => rw [hc] at h; cases h
    | true =>
      rw [hc] at h
      simp only [cond_true, Option.some.injEq, Prod.mk.injEq] at h
      obtain ⟨rfl, rfl⟩ := h
      obtain ⟨p, hp, rfl⟩ := hx.ptr_inv
      exact .still hr (convP_ok hr hc hp) (.ptr hp)
  · cases hf : Ev.flat x with
    | false => rw [hf] at h; cases h
    | true =>
      rw [hf] at h
      simp only [cond_true] at h
      have := hx.eq hf; subst this
      exact .of_flatVal hr h

theorem indexO_ok {t : TypeId} {x x' ix ix' : Value} (hr : Rel μ H w) (h : indexO P t x ix H = some (v, H')) (hx : VR μ x x') (hi : VR μ ix ix') : OpOK P (Instr.index t x' ix') v μ H w H' := by
  unfold indexO at h
  split at h
  · rename_i cs k n
    have := hi.int_inv; subst this
    obtain ⟨cs', rfl, hc⟩ := hx.agg_inv
    split at h
    · rename_i len elem hu
      split at h
      · rename_i s hs
        cases hlt : Nat.blt n len with
        | false => simp [hlt] at h
        | true =>
          have hlt' : n + 1 ≤ len := Nat.le_of_ble_eq_true hlt
          simp only [hlt, cond_true] at h
          obtain ⟨hp, rfl⟩ := valA_ok h
          obtain ⟨v', hrun, hv⟩ := partA_ok (w := w) hp hc
          refine .still hr ?_ hv
          have hnn : (0 : Int) ≤ (Int.ofNat n) ∧ (Int.ofNat n) < (len : Int) := by constructor <;> simp <;> omega
          simp only [Instr.index, asIntOf, Sem.run_bind, Sem.run_pure, Result.andThen_ok, run_underlying hu, if_pos hnn, run_sizeT hs]
          simpa using hrun
      · cases h
    · cases h
  · have := hi.int_inv; subst this
    have := hx.eq1 rfl; subst this
    exact .of_flatVal hr h
  · cases h

/-! ### Slice expressions -/
theorem boundA_ok {x x' : Option Value} {y d n Y : Nat} {code : BoundsCode} (h : boundA x y d = some n) (hy : y ≤ Y) (hx : ∀ a, x = some a → ∃ a', x' = some a' ∧ VR μ a a') (hn : x = none → x' = none) :
    (x = none ∧ x' = none ∧ n = d) ∨ (∃ a', x' = some a' ∧ (Instr.sliceBound a' Y code).run P w = .ok n w ∧ n ≤ y) := by
  unfold boundA at h
  split at h
  · cases h; exact .inl ⟨rfl, hn rfl, rfl⟩
  · rename_i k m
    obtain ⟨a', rfl, ha⟩ := hx _ rfl
    have := ha.int_inv; subst this
    cases hle : Nat.ble m y with
    | false => simp [hle] at h
    | true =>
      have hle' := Nat.le_of_ble_eq_true hle
      simp only [hle, cond_true, Option.some.injEq] at h
      subst h
      refine .inr ⟨_, rfl, ?_, hle'⟩
      have hc : (0 : Int) ≤ Int.ofNat m ∧ Int.ofNat m ≤ (Y : Int) := by constructor <;> simp <;> omega
      simp only [Instr.sliceBound, asIntOf, Sem.run_bind, Sem.run_pure, Result.andThen_ok, if_pos hc]
      rfl
  · cases h

def OVR (μ : Nat → Option Loc) (x x' : Option Value) : Prop := (∀ a, x = some a → ∃ a', x' = some a' ∧ VR μ a a') ∧ (x = none → x' = none)
end
end Go.Ev
