/-
  Part of the engine that the claim is proved with: it states nothing of the document by itself.
-/
import Derived.Test.YtigckjhbmeameaaGreatDoorCoreEvB

namespace Go.Ev
open Go.RowKit

section
variable {P : Program} {μ : Nat → Option Loc} {H H' : AHeap} {w : World} {v : Value}

theorem loop_drop (hr : Rel μ H w) {l : Nat} {p : Loc} {st : LoopState} {pend : Option Code} {F : AFrame} {params : Array Tmp} {assign body : Code} (hl : H.get l = some (.loop st pend F params assign body)) (hp : μ l = some p) (hst : st ≠ .busy) :
    ∃ w', (Instr.endLoop p.b).run P w = .ok pend w' ∧ Post μ H w μ (H.write l none) w' := by
  obtain ⟨fn, tmps, D, hb, hF, h1, h2⟩ := hr.loops l st pend F params assign body p hl hp
  have hm : H.mate l = none := by unfold AHeap.mate; rw [hl]
  refine ⟨_, run_endLoop hb hst, ?_⟩
  have := Post.turn (w' := w.putObj p.b (.loop { state := .exhausted, pending := pend, fn, tmps, params, assign, body, defers := D })) hr hl (by unfold AHeap.ro; rw [hl]) none rfl rfl rfl (by simp)
    (fun b hb => World.putObj_heap_other (hb p hp)) (fun _ _ _ _ _ h => by cases h) (fun _ _ => trivial)
  rw [hm] at this
  exact this

theorem FR.same {F F2 : AFrame} {tmps : Array Value} (h : FR μ F tmps) (hs : F2.size = F.size) (ht : F2.t = F.t) : FR μ F2 tmps :=
  ⟨hs.trans h.1, hs ▸ h.2.1, fun t => by have := h.2.2 t; unfold AFrame.get at this ⊢; rw [ht]; exact this⟩

theorem range1_ok {G : Msk} (hG : GOK P G) {run : Run} (hrun : RunOK P run) {gf : FuncId} {first captured fs' cs' : Array Value} {params : Array Tmp} {assign body : Code} {F F2 F' : AFrame} {H1 : AHeap} {e : AEx} {h h' : AHeap}
    (hev : evRange1 P G run gf first captured params assign body F H1 F2 = some (e, F', h')) (ha : okCode assign = true) (hb : okCode body = true) {μ μ1 : Nat → Option Loc} {w w1 : World} (hp : Post μ h w μ1 H1 w1)
    {a' : Act} (hF : FR μ1 F a'.tmps) (hs : F2.size = F.size) (htt : F2.t = F.t) (hM : MR μ1 F2.marks a'.defers) (h1 : AR μ1 first fs') (h2 : AR μ1 captured cs') (fn : FuncId) (D n n' : Nat) (rd' : Option Nat) :
    (∀ w, (callFunc gf (fs' ++ #[.func (.yield w1.heap.size) #[] #[]] ++ cs')).run P w = .ok (.enter gf (fs' ++ #[.func (.yield w1.heap.size) #[] #[]] ++ cs')) w) ∧
    CallsIn (FNC rd') n' P gf (fs' ++ #[.func (.yield w1.heap.size) #[] #[]] ++ cs') (w1.alloc (.loop { state := .ready, pending := none, fn, tmps := a'.tmps, params, assign, body, defers := D }))
      (rangePost (FNC rd') n P w1.heap.size (QOK μ h w e F' h') a') := by
  unfold evRange1 at hev
  rw [forceNat_eq] at hev
  have hnew : Post μ1 H1 w1 (fun i => if i = H1.next then some ⟨w1.heap.size, 0, 0, 0⟩ else μ1 i) (H1.alloc (.loop .ready none F params assign body)) (w1.alloc (.loop { state := .ready, pending := none, fn, tmps := a'.tmps, params, assign, body, defers := D })) :=
    Post.new hp.rel (.loop .ready none F params assign body) _ ⟨w1.heap.size, 0, 0, 0⟩ rfl fun μ' hx => ⟨fn, a'.tmps, D, rfl, hF.mono hx, ha, hb⟩
  have hL : (fun i => if i = H1.next then some (⟨w1.heap.size, 0, 0, 0⟩ : Loc) else μ1 i) H1.next = some ⟨w1.heap.size, 0, 0, 0⟩ := if_pos rfl
  generalize hμ2 : (fun i => if i = H1.next then some (⟨w1.heap.size, 0, 0, 0⟩ : Loc) else μ1 i) = μ2 at hnew hL
  split at hev
  · rename_i v0 H3 hcall
    have hAR : AR μ2 (first ++ #[.func (.yield H1.next) #[] #[]] ++ captured) (fs' ++ #[.func (.yield w1.heap.size) #[] #[]] ++ cs') := by
      refine AR.ofL ?_
      have hy : LR μ2 [Value.func (.yield H1.next) #[] #[]] [Value.func (.yield w1.heap.size) #[] #[]] := ⟨rfl, fun j x x' hx hx' => by
        cases j with
        | zero => simp at hx hx'; subst hx hx'; exact .yield hL
        | succ j => simp at hx⟩
      have := ((h1.toL.mono hnew.ext).append hy).append (h2.toL.mono hnew.ext)
      simpa using this
    obtain ⟨k1, k2⟩ := callF_ok hG hrun hcall n' hnew.rel hAR
    refine ⟨k1, ?_⟩
    refine CallsIn.mono (F := FNC rd') (show CallsIn (FNC rd') n' P gf _ _ _ from k2) fun en w3 he => ?_
    obtain ⟨μ3, v3, rfl, _, hp3⟩ := he
    have hall := hp.trans (hnew.trans hp3)
    have hL3 := hp3.ext _ _ hL
    have hx13 : Ext μ1 μ3 := hnew.ext.trans hp3.ext
    have hF3 : FR μ3 F2 a'.tmps := (hF.mono hx13).same hs htt
    have hM3 := hM.mono hx13
    split at hev
    · rename_i hl
      simp only [Option.some.injEq, Prod.mk.injEq] at hev
      obtain ⟨rfl, rfl, rfl⟩ := hev
      obtain ⟨w4, hend, hp4⟩ := loop_drop (P := P) hp3.rel hl hL3 (by simp)
      exact ⟨_, w4, hend, rfl, μ3, hF3, hM3, hall.trans hp4⟩
    · rename_i hl
      simp only [Option.some.injEq, Prod.mk.injEq] at hev
      obtain ⟨rfl, rfl, rfl⟩ := hev
      obtain ⟨w4, hend, hp4⟩ := loop_drop (P := P) hp3.rel hl hL3 (by simp)
      exact ⟨_, w4, hend, wpIn_ret ⟨rfl, μ3, hF3, hM3, hall.trans hp4⟩⟩
    · rename_i id _ _ _ _ hl
      simp only [Option.some.injEq, Prod.mk.injEq] at hev
      obtain ⟨rfl, rfl, rfl⟩ := hev
      obtain ⟨w4, hend, hp4⟩ := loop_drop (P := P) hp3.rel hl hL3 (by simp)
      exact ⟨_, w4, hend, wpIn_exit ⟨rfl, μ3, hF3, hM3, hall.trans hp4⟩⟩
    · cases hev
  · cases hev

theorem range_ok {G : Msk} (hG : GOK P G) {run : Run} (hrun : RunOK P run) {rd : Option Nat} {g : Operand} {params : Array Tmp} {assign body : Code} {F F' : AFrame} {h h' : AHeap} {e : AEx}
    (hev : evRange P G run rd (aeval F g) params assign body F h = some (e, F', h')) (hg : okOperand g = true) (ha : okCode assign = true) (hb : okCode body = true)
    {n : Nat} {rd' : Option Nat} {a : Act} (hr : Rel μ h w) (hF : FR μ F a.tmps) (hM : MR μ F.marks a.defers) (hd : RD μ rd rd') : (Code.rangeFunc g params assign body).wpIn (FNC rd') n P (QOK μ h w e F' h') a w := by
  have hgv := evalR hF hg
  unfold evRange at hev
  split at hev
  · rename_i gf first captured hgf
    rw [hgf] at hgv
    obtain ⟨fs', cs', hev', h1, h2⟩ := hgv.func_inv
    have hres : ∀ (l : Nat) (w : World), (resolve a.eval (rangeCall g l) 0).run P w = .ok { target := .fn (.func gf) cs', args := fs' ++ #[.func (.yield l) #[] #[]] } w := by
      intro l w
      have e : (#[Operand.const (.func (.yield l) #[] #[])] : Array Operand).map a.eval = #[.func (.yield l) #[] #[]] := by simp; rfl
      show (Deferred.ofValue (a.eval g) ((#[Operand.const (.func (.yield l) #[] #[])] : Array Operand).map a.eval)).run P w = _
      rw [hev', e]; rfl
    refine wpIn_rangeFunc fun fn _ => ?_
    cases rd with
    | none =>
      cases rd' with
      | some l' => exact hd.elim
      | none =>
        simp only at hev
        have hnew : Post μ h w (fun i => if i = h.next then some ⟨w.heap.size, 0, 0, 0⟩ else μ i) (h.alloc .deferred) (w.alloc (.deferred (some []))) :=
          Post.new hr .deferred _ ⟨w.heap.size, 0, 0, 0⟩ rfl fun μ' hx => rfl
        have hL : (fun i => if i = h.next then some (⟨w.heap.size, 0, 0, 0⟩ : Loc) else μ i) h.next = some ⟨w.heap.size, 0, 0, 0⟩ := if_pos rfl
        generalize hμ1 : (fun i => if i = h.next then some (⟨w.heap.size, 0, 0, 0⟩ : Loc) else μ i) = μ1 at hnew hL
        obtain ⟨k1, k2⟩ := range1_ok hG hrun hev ha hb hnew (a' := { a with defers := [{ target := .collected w.heap.size, args := #[] }] ++ a.defers }) (hF.mono hnew.ext) rfl rfl
          (.cons hL (hM.mono hnew.ext)) ⟨h1.1, fun i x x' hx hx' => (h1.2 i x x' hx hx').mono hnew.ext⟩ ⟨h2.1, fun i x x' hx hx' => (h2.2 i x x' hx hx').mono hnew.ext⟩ fn w.heap.size n (n - 1) none
        rw [World.size_alloc] at k1 k2
        exact ⟨_, _, _, _, _, _, _, _, run_enterLoop_outer _ _ _ _ _, hres _ _, fun _ _ => trivial, k1 _, fun h => (by cases h), k2⟩
    | some l =>
      cases rd' with
      | none => exact hd.elim
      | some l' =>
        obtain ⟨p, hp, hpl⟩ := hd
        subst hpl
        simp only at hev
        split at hev
        · rename_i st pend F0 ps0 as0 bd0 hl
          obtain ⟨fn0, tmps0, D0, hb0, _⟩ := hr.loops _ _ _ _ _ _ _ p hl hp
          obtain ⟨k1, k2⟩ := range1_ok hG hrun hev ha hb (.refl hr) (a' := { a with defers := [] ++ a.defers }) hF rfl rfl hM h1 h2 fn D0 n (n - 1) (some p.b)
          refine ⟨w.heap.size, [], w.alloc (.loop { state := .ready, pending := none, fn, tmps := a.tmps, params, assign, body, defers := D0 }), _, _, _, _, _, ?_, hres _ _, fun _ _ => trivial, k1 _, fun h => (by cases h), k2⟩
          show (Instr.enterLoop fn a.tmps params assign body (some p.b)).run P w = _
          unfold Instr.enterLoop
          simp only [Sem.run_bind, run_getLoop hb0, run_newObj_alloc, Result.andThen, Sem.run_pure]
        · cases hev
  · cases hev
end
end Go.Ev
