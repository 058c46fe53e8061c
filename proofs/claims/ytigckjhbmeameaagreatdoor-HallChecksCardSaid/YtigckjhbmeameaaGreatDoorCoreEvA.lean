/-
  Part of the engine that the claim is proved with: it states nothing of the document by itself.
-/
import Derived.Test.YtigckjhbmeameaaGreatDoorCoreEvZ

namespace Go.Ev
open Go.RowKit

section
variable {P : Program} {μ : Nat → Option Loc} {H H' : AHeap} {w : World} {v : Value}

/-- The functions that are let in have bodies that are served. -/
def GOK (P : Program) (G : Msk) : Prop := (∀ g fn body, Nat.testBit G.bits g = true → P.funcs[g]? = some fn → fn.body = some body → (fn.name == "runtime.NumGoroutine") = false ∧ okCode body = true) ∧
  ∀ g v, G.ora g = some v → flatR v = true ∧ ∀ n w, (∀ w, (callFunc g #[]).run P w = .ok (.enter g #[]) w) ∧ CallsIn (FNC none) n P g #[] w (fun e w' => e = .returned v ∧ (∀ b, b < w.heap.size → w'.heap[b]? = w.heap[b]?) ∧ w.heap.size ≤ w'.heap.size ∧ w'.os = w.os ∧ w'.tape = w.tape ∧ w'.output = w.output)

theorem run_callFunc_in {G : Msk} (hG : GOK P G) {g : FuncId} {fn : Func} {body : Code} (hg : Nat.testBit G.bits g = true) (hf : P.funcs[g]? = some fn) (hb : fn.body = some body) (args : Array Value) (w : World) :
    (callFunc g args).run P w = .ok (.enter g args) w := by
  obtain ⟨hn, _⟩ := hG.1 g fn body hg hf hb
  have hn' : ¬ fn.name = "runtime.NumGoroutine" := by simpa using hn
  simp [callFunc, Sem.run_bind, program, Sem.run, Result.andThen, hf, hb, hn']

/-! ### A new frame -/
theorem fold_get (m : Nat) : ∀ (l : List Value) (k : Nat) (t : T Value), k + l.length ≤ TOP →
    ((l.zipIdx k).foldl (fun t (x : Value × Nat) => t.set 40 x.2 (some x.1)) t).get m = if k ≤ m ∧ m < k + l.length then l[m - k]? else t.get m
  | [], k, t, _ => by simp; intro h1 h2; omega
  | v :: l, k, t, h => by
    rw [List.zipIdx_cons, List.foldl_cons, fold_get m l (k + 1) _ (by simp at h; omega)]
    simp only [List.length_cons] at h ⊢
    by_cases h1 : k + 1 ≤ m ∧ m < k + 1 + l.length
    · rw [if_pos h1, if_pos (by omega)]
      have : m - k = (m - (k + 1)) + 1 := by omega
      rw [this, List.getElem?_cons_succ]
    · rw [if_neg h1, T.get_set40 _ _ _ _ (by omega)]
      by_cases e : m = k
      · subst e; simp
      · rw [if_neg e, if_neg (by omega)]

theorem frameOf_get (n : Nat) (args : Array Value) (h : args.size ≤ TOP) (m : Nat) : (frameOf n args).get m = (args[m]?).getD undef := by
  rw [AFrame.get_eq]
  have := fold_get m args.toList 0 .leaf (by simpa using h)
  simp only [frameOf]
  have e : (args.toList.zipIdx.foldl (fun t (x : Value × Nat) => t.set 40 x.2 (some x.1)) (.leaf : T Value)).get m = if m < args.size then args[m]? else none := by
    rw [show args.toList.zipIdx = args.toList.zipIdx 0 from rfl, this]
    simp [T.get_leaf]
  rw [e]
  by_cases hm : m < args.size
  · rw [if_pos hm]
  · rw [if_neg hm]; simp [Array.getElem?_eq_none (by omega : args.size ≤ m)]

theorem FR.frameOf {n : Nat} {args args' : Array Value} (ha : AR μ args args') (hn : args.size ≤ n) (ht : n ≤ TOP) : FR μ (frameOf n args) (args' ++ Array.replicate (n - args'.size) undef) := by
  refine ⟨?_, ht, fun m => ?_⟩
  · have := ha.1; simp [Ev.frameOf]; omega
  · rw [frameOf_get n args (by omega)]
    by_cases hm : m < args.size
    · have hm' : m < args'.size := by rw [← ha.1]; exact hm
      obtain ⟨u, hu, hv⟩ := ha.get (i := m) (v := args[m]) (by simp [hm])
      rw [Array.getElem?_eq_getElem hm, Array.getD_eq_getD_getElem?, Array.getElem?_append_left hm', hu]
      exact hv
    · have hm' : ¬ m < args'.size := by rw [← ha.1]; exact hm
      rw [Array.getElem?_eq_none (by omega), Array.getD_eq_getD_getElem?, Array.getElem?_append_right (by omega)]
      simp only [Option.getD_none, Array.getElem?_replicate]
      split <;> exact .undef μ

/-! ### Results -/
def resM (tmps : Array Value) : ResultVar → Sem Value
  | .tmp t => pure (tmps.getD t undef)
  | .cell a t => do loadVar t (← asAddr (tmps.getD a undef))
theorem results_eq (fn : Func) (tmps : Array Value) : results fn tmps = (do let vs ← fn.results.mapM (resM tmps); pure (if h : vs.size = 1 then vs[0] else .tuple vs)) := by
  unfold results
  have e : (fun x => match x with
      | ResultVar.tmp t => (pure (tmps.getD t undef) : Sem Value)
      | .cell a t => do loadVar t (← asAddr (tmps.getD a undef))) = resM tmps := by funext x; cases x <;> rfl
  rw [← e]
  rfl

theorem resL_ok (hr : Rel μ H w) {F : AFrame} {tmps : Array Value} (hF : FR μ F tmps) : ∀ (rs : List ResultVar) (vs : List Value), resultA P H F rs = some vs →
    ∃ us, (rs.mapM (resM tmps)).run P w = .ok us w ∧ LR μ vs us
  | [], vs, h => by
    simp only [resultA, Option.some.injEq] at h
    subst h
    exact ⟨[], by simp, rfl, fun j v v' hv _ => by simp at hv⟩
  | .tmp t :: rs, vs, h => by
    simp only [resultA] at h
    split at h
    · rename_i vs' h1
      simp only [Option.some.injEq] at h
      subst h
      obtain ⟨us, hu, hl⟩ := resL_ok hr hF rs vs' h1
      refine ⟨tmps.getD t undef :: us, by rw [List.mapM_cons]; simp only [Sem.run_bind, resM, Sem.run_pure, Result.andThen_ok, hu], by simp [hl.1], fun j v v' hv hv' => ?_⟩
      cases j with
      | zero => simp at hv hv'; subst hv hv'; have := hF.2.2 t; rwa [Array.getD_eq_getD_getElem?] at this
      | succ j => exact hl.2 j v v' (by simpa using hv) (by simpa using hv')
    · cases h
  | .cell a t :: rs, vs, h => by
    simp only [resultA] at h
    split at h
    · rename_i v0 vs' h0 h1
      simp only [Option.some.injEq] at h
      subst h
      obtain ⟨us, hu, hl⟩ := resL_ok hr hF rs vs' h1
      obtain ⟨v', ⟨ad, ha, hrun⟩, hv⟩ := loadA_ok hr h0 (hF.2.2 a)
      refine ⟨v' :: us, ?_, by simp [hl.1], fun j x x' hx hx' => ?_⟩
      · rw [List.mapM_cons]; simp only [Sem.run_bind, resM]
        rw [ha]
        simp only [asAddr, Sem.run_pure, Result.andThen_ok, hrun, hu]
      · cases j with
        | zero => simp at hx hx'; subst hx hx'; exact hv
        | succ j => exact hl.2 j x x' (by simpa using hx) (by simpa using hx')
    · cases h

theorem results_ok (hr : Rel μ H w) {F : AFrame} {tmps : Array Value} (hF : FR μ F tmps) {fn : Func} (h : resultsA P H F fn = some v) : ∃ v', (results fn tmps).run P w = .ok v' w ∧ VR μ v v' := by
  unfold resultsA at h
  have e : fn.results = fn.results.toList.toArray := by simp
  have key : ∀ us, (fn.results.toList.mapM (resM tmps)).run P w = .ok us w →
      (results fn tmps).run P w = .ok (if h : us.toArray.size = 1 then us.toArray[0] else .tuple us.toArray) w := by
    intro us hu
    rw [results_eq, e, List.mapM_toArray]
    simp only [Sem.run_bind, Sem.run_map, hu, Result.andThen, Sem.run_pure]
  split at h
  · rename_i v0 h0
    simp only [Option.some.injEq] at h
    subst h
    obtain ⟨us, hu, hl⟩ := resL_ok hr hF _ _ h0
    have hlen : us.length = 1 := by have := hl.1; simpa using this.symm
    obtain ⟨u, rfl⟩ := List.length_eq_one_iff.1 hlen
    exact ⟨u, by rw [key _ hu]; simp, hl.2 0 v0 u rfl rfl⟩
  · rename_i vs h1 h0
    simp only [Option.some.injEq] at h
    subst h
    obtain ⟨us, hu, hl⟩ := resL_ok hr hF _ _ h0
    have hlen : ¬ us.toArray.size = 1 := by
      intro e1
      have : vs.length = 1 := by rw [hl.1]; simpa using e1
      obtain ⟨x, rfl⟩ := List.length_eq_one_iff.1 this
      exact h1 x rfl
    exact ⟨.tuple us.toArray, by rw [key _ hu, dif_neg hlen], .tuple (by simpa using hl.1) (fun i x x' hx hx' => hl.2 i x x' (by simpa using hx) (by simpa using hx'))⟩
  · cases h

/-! ### The way out -/
theorem mark_post (hr : Rel μ H w) {D : Nat} {p : Loc} (hD : H.get D = some .deferred) (hp : μ D = some p) :
    (Instr.takeDeferred p.b).run P w = .ok [] (w.putObj p.b (.deferred none)) ∧ Post μ H w μ (H.write D none) (w.putObj p.b (.deferred none)) := by
  have hd := hr.defs D p hD hp
  refine ⟨run_takeDeferred hd, ?_⟩
  have hm : H.mate D = none := by unfold AHeap.mate; rw [hD]
  have := Post.turn (w' := w.putObj p.b (.deferred none)) hr hD (by unfold AHeap.ro; rw [hD]) none rfl rfl rfl (by simp) (fun b hb => World.putObj_heap_other (hb p hp)) (fun _ _ _ _ _ h => by cases h) (fun _ _ => trivial)
  rw [hm] at this
  exact this

theorem leaves_ok {F : AFrame} {tmps : Array Value} {fn : Func} {R : Ending → World → Prop} {h2 : AHeap} {n : Nat} : ∀ (ms : List Nat) (H : AHeap) (w : World) (ds : List Deferred), endMarks H ms = some h2 → MR μ ms ds → Rel μ H w → FR μ F tmps →
    resultsA P h2 F fn = some v → (∀ w' v', Post μ H w μ h2 w' → VR μ v v' → R (.returned v') w') → LeavesInM (FNC none) n P fn tmps R ds .returning w
  | [], H, w, ds, he, hM, hr, hF, hv, hR => by
    cases hM
    simp only [endMarks, Option.some.injEq] at he
    subst he
    obtain ⟨v', h1, h2⟩ := results_ok hr hF hv
    exact ⟨v', h1, hR w v' (.refl hr) h2⟩
  | m :: ms, H, w, ds, he, hM, hr, hF, hv, hR => by
    cases hM with
    | cons hp ht =>
      rename_i p ds'
      simp only [endMarks] at he
      split at he
      · rename_i hD
        obtain ⟨h1, h2⟩ := mark_post (P := P) hr hD hp
        refine ⟨by simp, .inl ⟨p.b, _, rfl, h1, ?_⟩⟩
        exact leaves_ok ms _ _ ds' he ht h2.rel hF hv fun w' v' hp' hv' => hR w' v' (h2.trans hp') hv'
      · cases he

/-- What a call leaves behind. -/
theorem leave_ok {fast : Bool} {μ2 : Nat → Option Loc} {h h2 : AHeap} {w w' : World} {v v' : Value} (hr : Rel μ h w) (hp : Post μ { h with wlow := h.next } w μ2 h2 w') (hv : VR μ2 v v') :
    ∃ μ', VR μ' v v' ∧ Post μ h w μ' (leave fast h h2 v) w' := by
  unfold leave
  cases hq : fast && (Nat.ble h.next h2.wlow && flatR v) with
  | true =>
    simp only [Bool.and_eq_true] at hq
    have hq := hq.2
    have hle : h.next ≤ h2.wlow := Nat.le_of_ble_eq_true hq.1
    obtain ⟨k1, k2⟩ := Post.quiet (hr.wlow h.next) hp hle
    have hrel := hr.world k1
    simp only [cond_true]
    refine ⟨μ, by rw [hv.eqR hq.2]; exact .of_flatR hq.2, .refl _, fun _ _ => rfl, hrel, hp.os, hp.tape, hp.output, hp.size, Nat.le_refl _, Nat.le_refl _, fun _ _ _ => rfl, fun T N _ hN hμ => ⟨fun b hb => k1 b (by omega), hμ⟩⟩
  | false =>
    simp only [cond_false]
    have hlow : ∀ T, T ≤ (cond (Nat.ble h.wlow h2.wlow) h.wlow h2.wlow) → T ≤ h.wlow ∧ T ≤ h2.wlow := by
      intro T hT
      cases hb : Nat.ble h.wlow h2.wlow with
      | true => rw [hb] at hT; have := Nat.le_of_ble_eq_true hb; simp at hT; omega
      | false =>
        rw [hb] at hT
        have : ¬ h.wlow ≤ h2.wlow := fun hle => by rw [Nat.ble_eq_true_of_le hle] at hb; cases hb
        simp at hT; omega
    exact ⟨μ2, hv, hp.ext, hp.only, hp.rel.wlow _, hp.os, hp.tape, hp.output, hp.size, (hlow _ (Nat.le_refl _)).1, hp.nxt,
      fun i hi hn => hp.old i (hlow (i + 1) hi).2 hn, fun T N hT hN hμ => hp.keep T N (hlow T hT).2 hN hμ⟩

theorem callF_ok {G : Msk} (hG : GOK P G) {run : Run} (hrun : RunOK P run) {g : FuncId} {args args' : Array Value} (h : callF P G run g args H = some (v, H')) (n : Nat) (hr : Rel μ H w) (ha : AR μ args args') :
    (∀ w, (callFunc g args').run P w = .ok (.enter g args') w) ∧ CallsIn (FNC none) n P g args' w (Ret μ H w v H') := by
  unfold callF at h
  cases hg : Nat.testBit G.bits g with
  | false => rw [hg] at h; simp at h
  | true =>
    rw [hg] at h
    simp only [cond_true] at h
    split at h
    · rename_i fn hf
      split at h
      · rename_i body hb
        cases hc : (Nat.blt fn.ntmps args.size || Nat.blt 1000000 fn.ntmps) with
        | true => rw [hc] at h; simp at h
        | false =>
          rw [hc] at h
          simp only [cond_false] at h
          simp only [Bool.or_eq_false_iff] at hc
          have hn1 : args.size ≤ fn.ntmps := Nat.le_of_not_lt fun hlt => by have := Nat.ble_eq_true_of_le hlt; rw [show Nat.blt fn.ntmps args.size = Nat.ble (fn.ntmps + 1) args.size from rfl, this] at hc; cases hc.1
          have hn2 : fn.ntmps ≤ 1000000 := Nat.le_of_not_lt fun hlt => by have := Nat.ble_eq_true_of_le hlt; rw [show Nat.blt 1000000 fn.ntmps = Nat.ble (1000000 + 1) fn.ntmps from rfl, this] at hc; cases hc.2
          obtain ⟨_, hok⟩ := hG.1 g fn body hg hf hb
          refine ⟨fun w => run_callFunc_in hG hg hf hb args' w, ?_⟩
          split at h
          · rename_i e F1 h1 hev
            have hbody := hrun none body _ _ e F1 h1 hev hok n μ none { tmps := args' ++ Array.replicate (fn.ntmps - args'.size) undef, defers := [] } w (hr.wlow H.next)
              (FR.frameOf ha hn1 (Nat.le_trans hn2 (by decide))) .nil trivial
            have key : ∀ ex : AEx, (∀ id, ex ≠ .exit id) → (match endMarks h1 F1.marks with | some h2 => (match resultsA P h2 F1 fn with | some v => some (v, leave G.fast H h2 v) | none => none) | none => none) = some (v, H') →
                ∀ (a' : Act) (w' : World) (μ2 : Nat → Option Loc), FR μ2 F1 a'.tmps → MR μ2 F1.marks a'.defers → Post μ { H with wlow := H.next } w μ2 h1 w' → LeavesInM (FNC none) n P fn a'.tmps (Ret μ H w v H') a'.defers .returning w' := by
              intro ex _ hh a' w' μ2 hF hM hp
              split at hh
              · rename_i h2 he
                split at hh
                · rename_i v0 hv0
                  simp only [Option.some.injEq, Prod.mk.injEq] at hh
                  obtain ⟨rfl, rfl⟩ := hh
                  refine leaves_ok F1.marks h1 w' a'.defers he hM hp.rel hF hv0 fun w'' v' hp2 hv => ?_
                  obtain ⟨μ', hv', hp'⟩ := leave_ok hr (hp.trans hp2) hv
                  exact ⟨μ', v', rfl, hv', hp'⟩
                · cases hh
              · cases hh
            refine callsIn_of_wp_marks hf hb trivial (wpIn_mono hbody fun ex a' w' hq => ?_)
            obtain ⟨rfl, μ2, hF, hM, hp⟩ := hq
            cases e with
            | exit id => cases h
            | normal => exact key .normal (by simp) h a' w' μ2 hF hM hp
            | ret => exact key .ret (by simp) h a' w' μ2 hF hM hp
          · cases h
      · cases h
    · cases h
end
end Go.Ev
