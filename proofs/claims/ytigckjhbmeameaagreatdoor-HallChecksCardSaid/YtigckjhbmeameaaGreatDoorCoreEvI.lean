/-
  Part of the engine that the claim is proved with: it states nothing of the document by itself.
-/
import Derived.Test.YtigckjhbmeameaaGreatDoorCoreEvN

namespace Go.Ev
open Go.RowKit

section
variable {P : Program} {μ : Nat → Option Loc} {w : World}

theorem region_ok {G : Msk} (hG : GOK P G) (hm : P.follows .mixedOrders = true) {run : Run} (hrun : RunOK P run) {id : Nat} {ops : Array Oper} {draw : Bool} (hok : ∀ o, o ∈ ops.toList → okOpB o.op = true) {F F' : AFrame} {h h' : AHeap} {e : AEx}
    (hev : evRegion P G run ops draw F h = some (e, F', h')) {n : Nat} {rd' : Option Nat} {a : Act} (hr : Rel μ h w) (hF : FR μ F a.tmps) (hM : MR μ F.marks a.defers) : (Code.region id ops draw).wpIn (FNC rd') n P (QOK μ h w e F' h') a w := by
  unfold evRegion at hev
  split at hev
  · rename_i F1 h1 hb
    simp only [Option.some.injEq, Prod.mk.injEq] at hev
    obtain ⟨rfl, rfl, rfl⟩ := hev
    cases draw with
    | false =>
      simp only [cond_false] at hb
      refine wpIn_region ?_
      have := stepOps_ok (callA_ok hG hrun) hok (rd := rd') (n := n) (Q := QOK μ h w .normal F1 h1) ops.toList 0 F F1 h h1 μ a w (by simp) hb hr hF hM fun μ' a' w' h1 h2 h3 => ⟨rfl, μ', h1, h2, h3⟩
      simpa using this
    | true =>
      simp only [cond_true] at hb
      exact wpIn_region_any hm (drawW_ok (callA_ok hG hrun) hok (tailFrom_le _ _ _) hb (hr.drew _) hF hM fun μ' a' w' h1 h2 h3 => ⟨rfl, μ', h1, h2, h3.drew _⟩)
  · cases hev

theorem step_ok {G : Msk} (hG : GOK P G) (hm : P.follows .mixedOrders = true) {out run : Run} (hout : RunOK P out) (hrun : RunOK P run) {m : Nat} (hl : LoopOK P run m) : RunOK P (evStep P G out run) ∧ LoopOK P (evStep P G out run) (m + 1) := by
  have hloop : LoopOK P (evStep P G out run) (m + 1) := by
    intro rd c F h e F' h' hev hc n μ rd' a w hr hF hM hd
    exact loop_ok hrun hl hc hev hr hF hM hd
  refine ⟨?_, hloop⟩
  intro rd c F h e F' h' hev hc n μ rd' a w hr hF hM hd
  cases c with
  | skip =>
    simp only [evStep, Option.some.injEq, Prod.mk.injEq] at hev
    obtain ⟨rfl, rfl, rfl⟩ := hev
    exact wpIn_skip ⟨rfl, μ, hF, hM, .refl hr⟩
  | label l =>
    simp only [evStep, Option.some.injEq, Prod.mk.injEq] at hev
    obtain ⟨rfl, rfl, rfl⟩ := hev
    exact wpIn_label ⟨rfl, μ, hF, hM, .refl hr⟩
  | exit id =>
    simp only [evStep, Option.some.injEq, Prod.mk.injEq] at hev
    obtain ⟨rfl, rfl, rfl⟩ := hev
    exact wpIn_exit ⟨rfl, μ, hF, hM, .refl hr⟩
  | ret =>
    simp only [evStep, Option.some.injEq, Prod.mk.injEq] at hev
    obtain ⟨rfl, rfl, rfl⟩ := hev
    exact wpIn_ret ⟨rfl, μ, hF, hM, .refl hr⟩
  | seq x y =>
    simp only [okCode, Bool.and_eq_true] at hc
    exact seq_ok hrun hc.1 hc.2 hev hr hF hM hd
  | cond c x y =>
    simp only [okCode, Bool.and_eq_true] at hc
    exact cond_ok hrun hc.1.1 hc.1.2 hc.2 hev hr hF hM hd
  | block id b => exact block_ok hrun (show okCode b = true from hc) hev hr hF hM hd
  | loop b => exact wpIn_loop_rounds (m + 1) (hloop rd b F h e F' h' hev hc n μ rd' a w hr hF hM hd)
  | scope b => exact scope_ok hrun (show okCode b = true from hc) hev hr hF hM hd
  | region id ops draw => exact region_ok hG hm hout (List.all_eq_true.1 hc) hev hr hF hM
  | rangeFunc g params assign body =>
    simp only [okCode, Bool.and_eq_true] at hc
    exact range_ok hG hout hev hc.1.1 hc.1.2 hc.2 hr hF hM hd
  | goto l => simp [evStep] at hev
  | refuse x => simp [evStep] at hev

theorem evIn_ok {G : Msk} (hG : GOK P G) (hm : P.follows .mixedOrders = true) {out : Run} (hout : RunOK P out) : ∀ k, RunOK P (evIn P G out k) ∧ LoopOK P (evIn P G out k) k
  | 0 => ⟨fun _ _ _ _ _ _ _ h => (by cases h), fun _ _ _ _ _ _ _ h => (by cases h)⟩
  | k + 1 => by
    obtain ⟨h1, h2⟩ := evIn_ok hG hm hout k
    exact step_ok hG hm hout h1 h2

theorem ev_ok {G : Msk} (hG : GOK P G) (hm : P.follows .mixedOrders = true) : ∀ d, RunOK P (ev P G d)
  | 0 => fun _ _ _ _ _ _ _ h => by cases h
  | d + 1 => (evIn_ok hG hm (ev_ok hG hm d) 1000000000000000).1

/-- The functions of the mask have bodies that are served. -/
noncomputable def okMask (P : Program) (G : Msk) : Bool :=
  (List.range P.funcs.size).all fun g => !Nat.testBit G.bits g || (match P.funcs[g]? with | some fn => (match fn.body with | some b => !(fn.name == "runtime.NumGoroutine") && okCode b | none => true) | none => true)

theorem GOK.of' {G : Msk} (h : okMask P G = true) (ho : ∀ g v, G.ora g = some v → flatR v = true ∧ ∀ n w, (∀ w, (callFunc g #[]).run P w = .ok (.enter g #[]) w) ∧ CallsIn (FNC none) n P g #[] w (fun e w' => e = .returned v ∧ (∀ b, b < w.heap.size → w'.heap[b]? = w.heap[b]?) ∧ w.heap.size ≤ w'.heap.size ∧ w'.os = w.os ∧ w'.tape = w.tape ∧ w'.output = w.output)) : GOK P G := by
  refine ⟨?_, ho⟩
  intro g fn body hg hf hb
  have hlt : g < P.funcs.size := (Array.getElem?_eq_some_iff.1 hf).1
  have := List.all_eq_true.1 h g (List.mem_range.2 hlt)
  simp only [hg, Bool.not_true, Bool.false_or, hf, hb, Bool.and_eq_true, Bool.not_eq_true'] at this
  exact this

theorem GOK.of {bits : Nat} {fast : Bool} (h : okMask P ⟨bits, fast, fun _ => none⟩ = true) : GOK P ⟨bits, fast, fun _ => none⟩ := GOK.of' h (fun _ _ h => by cases h)

/-- What a call that was worked out does: its value; nothing that was there is turned. -/
def Did (w : World) (v : Value) : Ending → World → Prop := fun e w' =>
  e = .returned v ∧ (∀ b, b < w.heap.size → w'.heap[b]? = w.heap[b]?) ∧ w.heap.size ≤ w'.heap.size ∧ w'.os = w.os ∧ w'.tape = w.tape ∧ w'.output = w.output

/-- A call with plain arguments, worked out. -/
noncomputable def evCall (P : Program) (G : Msk) (d : Nat) (g : FuncId) (args : List Value) : Option Value :=
  cond (args.all flat) (match callF P G (ev P G d) g ⟨args⟩ { t := .leaf, next := 0, wlow := UNK } with
    | some (v, _) => cond (flatR v) (some v) none
    | none => none) none

theorem calls_of_ev {G : Msk} {d : Nat} {g : FuncId} {args : List Value} {v : Value} (hG : GOK P G) (hm : P.follows .mixedOrders = true) (h : evCall P G d g args = some v) (w : World) : Calls P g ⟨args⟩ w (Did w v) := by
  unfold evCall at h
  cases hf : args.all flat with
  | false => rw [hf] at h; cases h
  | true =>
    rw [hf] at h
    simp only [cond_true] at h
    split at h
    · rename_i v0 H0 h0
      cases hv : flatR v0 with
      | false => rw [hv] at h; cases h
      | true =>
        rw [hv] at h
        simp only [cond_true, Option.some.injEq] at h
        subst h
        have ha0 : AR (fun _ => none) (⟨args⟩ : Array Value) ⟨args⟩ := ⟨rfl, fun i v v' hv hv' => by
          rw [hv] at hv'; cases hv'
          exact .of_flat (List.all_eq_true.1 hf v (List.mem_of_getElem? (by simpa using hv)))⟩
        obtain ⟨_, c2⟩ := callF_ok hG (ev_ok hG hm d) h0 0 (Rel.empty w) ha0
        refine callsIn_wide.1 (CallsIn.mono (show CallsIn Fence.wide 0 P g _ w _ from c2) fun e w' he => ?_)
        obtain ⟨μ', v', rfl, hv', hp⟩ := he
        obtain ⟨k1, k2⟩ := Post.quiet (Rel.empty w) hp (Nat.zero_le _)
        have := hv'.eqR hv
        subst this
        exact ⟨rfl, k1, hp.size, hp.os, hp.tape, hp.output⟩
    · cases h
end

/-- A function without parameters that was worked out can serve as known. -/
theorem ora_of_ev {P : Program} {G : Msk} {d : Nat} {g : FuncId} {v : Value} (hG : GOK P G) (hm : P.follows .mixedOrders = true) (h : evCall P G d g [] = some v) : flatR v = true ∧ ∀ n w, (∀ w, (callFunc g #[]).run P w = .ok (.enter g #[]) w) ∧ CallsIn (FNC none) n P g #[] w (fun e w' => e = .returned v ∧ (∀ b, b < w.heap.size → w'.heap[b]? = w.heap[b]?) ∧ w.heap.size ≤ w'.heap.size ∧ w'.os = w.os ∧ w'.tape = w.tape ∧ w'.output = w.output) := by
  unfold evCall at h
  simp only [List.all_nil, cond_true] at h
  split at h
  · rename_i v0 H0 h0
    cases hv : flatR v0 with
    | false => rw [hv] at h; cases h
    | true =>
      rw [hv] at h
      simp only [cond_true, Option.some.injEq] at h
      subst h
      refine ⟨hv, fun n w => ?_⟩
      obtain ⟨c1, c2⟩ := callF_ok hG (ev_ok hG hm d) h0 n (Rel.empty w) (args' := #[]) ⟨rfl, fun i v v' h _ => by simp at h⟩
      refine ⟨c1, CallsIn.mono c2 fun e w' he => ?_⟩
      obtain ⟨μ', v', rfl, hv', hp⟩ := he
      obtain ⟨k1, k2⟩ := Post.quiet (Rel.empty w) hp (Nat.zero_le _)
      have := hv'.eqR hv
      subst this
      exact ⟨rfl, k1, hp.size, hp.os, hp.tape, hp.output⟩
  · cases h
#print axioms calls_of_ev
end Go.Ev
