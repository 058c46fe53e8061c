/-
  Part of the engine that the claim is proved with: it states nothing of the document by itself.
-/
import Derived.Test.YtigckjhbmeameaaGreatDoorCoreEvA
import Derived.Laws.Externs
import Derived.KernelRfl

namespace Go.Ev
open Go.RowKit

section
variable {P : Program} {μ : Nat → Option Loc} {H H' : AHeap} {w : World} {v : Value}

theorem args__eq {β : Type} (F : AFrame) : ∀ (l : List Operand) (k : List Value → β), args_ F l k = k (l.map (aeval F))
  | [], k => rfl
  | x :: l, k => by
    show forceV (aeval F x) (fun v => args_ F l fun l => k (v :: l)) = _
    rw [forceV_eq, args__eq F l]; rfl

theorem Rel.empty (w : World) : Rel (fun _ => none) { t := .leaf, next := 0, wlow := UNK } w where
  fresh _ _ := rfl
  below i hi := absurd rfl hi
  top := trivial
  mlt := trivial
  cells i cs e esz m ro p hg := by simp [AHeap.get, T.get_leaf] at hg
  loops i st pend F ps a b p hg := by simp [AHeap.get, T.get_leaf] at hg
  defs i p hg := by simp [AHeap.get, T.get_leaf] at hg
  excl i j p q _ hi := absurd rfl hi

theorem AR.flats {args : List Value} {args' : Array Value} (hf : args.all flat = true) (ha : AR μ ⟨args⟩ args') : args' = ⟨args⟩ :=
  arr_ext ha.1 fun i v v' hv hv' => (ha.2 i v v' hv hv').eq (List.all_eq_true.1 hf v (List.mem_of_getElem? (by simpa using hv)))

theorem callP_ok {G : Msk} (hG : GOK P G) {run : Run} (hrun : RunOK P run) {g : FuncId} {args : List Value} {args' : Array Value} (h : callP P G run g args H = some (v, H')) (n : Nat) (hr : Rel μ H w) (ha : AR μ ⟨args⟩ args') :
    (∀ w, (callFunc g args').run P w = .ok (.enter g args') w) ∧ CallsIn (FNC none) n P g args' w (Ret μ H w v H') := by
  unfold callP at h
  cases hf : G.fast && args.all flat with
  | false => rw [hf] at h; exact callF_ok hG hrun h n hr ha
  | true =>
    rw [hf] at h
    simp only [cond_true] at h
    simp only [Bool.and_eq_true] at hf
    have hf := hf.2
    split at h
    · rename_i v0 H0 h0
      cases hv : flatR v0 with
      | false => rw [hv] at h; exact callF_ok hG hrun h n hr ha
      | true =>
        rw [hv] at h
        simp only [cond_true, Option.some.injEq, Prod.mk.injEq] at h
        obtain ⟨rfl, rfl⟩ := h
        have hargs := ha.flats hf
        subst hargs
        have ha0 : AR (fun _ => none) (⟨args⟩ : Array Value) ⟨args⟩ := ⟨rfl, fun i v v' hv hv' => by
          rw [hv] at hv'; cases hv'
          exact .of_flat (List.all_eq_true.1 hf v (List.mem_of_getElem? (by simpa using hv)))⟩
        obtain ⟨c1, c2⟩ := callF_ok hG hrun h0 n (Rel.empty w) ha0
        refine ⟨c1, CallsIn.mono c2 fun e w' he => ?_⟩
        obtain ⟨μ', v', rfl, hv', hp⟩ := he
        obtain ⟨k1, k2⟩ := Post.quiet (Rel.empty w) hp (Nat.zero_le _)
        have := hv'.eqR hv
        subst this
        exact ⟨μ, v', rfl, .of_flatR hv, .refl _, fun _ _ => rfl, hr.world k1, hp.os, hp.tape, hp.output, hp.size, Nat.le_refl _, Nat.le_refl _, fun _ _ _ => rfl, fun T N _ hN hμ => ⟨fun b hb => k1 b (by omega), hμ⟩⟩
    · cases h

/-! ### A round -/
theorem putAll_ok (d : List Deferred) : ∀ (ps : List Tmp) (vs us : List Value) (F F1 : AFrame) (tmps : Array Value), putAll F (ps.zip vs) = some F1 → FR μ F tmps → LR μ vs us →
    FR μ F1 ((ps.zip us).foldl (fun tmps (x : Tmp × Value) => tmps.setIfInBounds x.1 x.2) tmps) ∧ F1.marks = F.marks
  | [], vs, us, F, F1, tmps, h, hF, _ => by
    simp only [putAll, List.zip_nil_left, List.foldl_nil, Option.some.injEq] at h ⊢
    subst h; exact ⟨hF, rfl⟩
  | p :: ps, [], us, F, F1, tmps, h, hF, hl => by
    have : us = [] := List.eq_nil_of_length_eq_zero hl.1.symm
    subst this
    simp only [putAll, List.zip_nil_right, List.foldl_nil, Option.some.injEq] at h ⊢
    subst h; exact ⟨hF, rfl⟩
  | p :: ps, v :: vs, [], F, F1, tmps, h, hF, hl => by have := hl.1; simp at this
  | p :: ps, v :: vs, u :: us, F, F1, tmps, h, hF, hl => by
    simp only [List.zip_cons_cons, List.foldl_cons]
    simp only [putAll, List.zip_cons_cons, List.foldl_cons] at h
    cases hq : F.put (some p) v with
    | none =>
      rw [hq] at h
      have : ∀ (l : List (Tmp × Value)), l.foldl (fun (F : Option AFrame) (p : Tmp × Value) => match F with | some F => F.put (some p.1) p.2 | none => none) none = none := fun l => by induction l <;> simp_all
      have := (this _).symm.trans h; cases this
    | some F2 =>
      rw [hq] at h
      obtain ⟨h2, hm⟩ := FR.put (a := { tmps := tmps, defers := d }) hF (hl.2 0 v u rfl rfl) hq
      obtain ⟨h3, hm3⟩ := putAll_ok d ps vs us F2 F1 _ h h2 ⟨by have := hl.1; simpa using this, fun j x x' hx hx' => hl.2 (j + 1) x x' (by simpa using hx) (by simpa using hx')⟩
      exact ⟨h3, hm3.trans hm⟩

theorem loop_turn (hr : Rel μ H w) {l : Nat} {p : Loc} {st : LoopState} {pend : Option Code} {F : AFrame} {params : Array Tmp} {assign body : Code} (hl : H.get l = some (.loop st pend F params assign body)) (hp : μ l = some p)
    (st' : LoopState) (pend' : Option Code) : ∃ fn tmps D, w.heap[p.b]? = some (.loop { state := st, pending := pend, fn, tmps, params, assign, body, defers := D }) ∧ FR μ F tmps ∧ okCode assign = true ∧ okCode body = true ∧
      Post μ H w μ (H.write l (some (.loop st' pend' F params assign body))) (w.putObj p.b (.loop { state := st', pending := pend', fn, tmps, params, assign, body, defers := D })) := by
  obtain ⟨fn, tmps, D, hb, hF, h1, h2⟩ := hr.loops l st pend F params assign body p hl hp
  refine ⟨fn, tmps, D, hb, hF, h1, h2, ?_⟩
  have hm : H.mate l = none := by unfold AHeap.mate; rw [hl]
  have hlt : p.b < w.heap.size := (Array.getElem?_eq_some_iff.1 hb).1
  have := Post.turn (w' := w.putObj p.b (.loop { state := st', pending := pend', fn, tmps, params, assign, body, defers := D })) hr hl (by unfold AHeap.ro; rw [hl]) (some (.loop st' pend' F params assign body)) rfl rfl rfl (by simp)
    (fun b hb => World.putObj_heap_other (hb p hp)) (fun _ _ _ _ _ h => by cases h) (fun q hq => by rw [hp] at hq; cases hq; exact ⟨fn, tmps, D, World.putObj_heap_same hlt, hF, h1, h2⟩)
  rw [hm] at this
  exact this

theorem endY_ok (hr : Rel μ H w) {l : Nat} {p : Loc} {F : AFrame} {params : Array Tmp} {assign body : Code} (hl : H.get l = some (.loop .busy none F params assign body)) (hp : μ l = some p) {e : AEx}
    (h : endY l e F params assign body H = some (v, H')) : ∃ j w', (match e with | .normal => j = none | .ret => j = some Code.ret | .exit id => j = some (Code.exit id)) ∧ (Instr.endRound p.b j).run P w = .ok v w' ∧ VR μ v v ∧ Post μ H w μ H' w' := by
  unfold endY at h
  split at h
  all_goals
    simp only [Option.some.injEq, Prod.mk.injEq] at h
    obtain ⟨rfl, rfl⟩ := h
  · obtain ⟨fn, tmps, D, hb, _, _, _, hpost⟩ := loop_turn hr hl hp .ready none
    exact ⟨none, _, rfl, run_endRound none hb, .flat rfl, hpost⟩
  · obtain ⟨fn, tmps, D, hb, _, _, _, hpost⟩ := loop_turn hr hl hp .done (some .ret)
    exact ⟨some .ret, _, rfl, run_endRound (some .ret) hb, .flat rfl, hpost⟩
  · rename_i id
    obtain ⟨fn, tmps, D, hb, _, _, _, hpost⟩ := loop_turn hr hl hp .done (some (.exit id))
    exact ⟨some (.exit id), _, rfl, run_endRound (some (.exit id)) hb, .flat rfl, hpost⟩

theorem zip_fold_toList (ps : Array Tmp) (us : Array Value) (tmps : Array Value) :
    ((ps.zip us).foldl (fun tmps (x : Tmp × Value) => tmps.setIfInBounds x.1 x.2) tmps) = ((ps.toList.zip us.toList).foldl (fun tmps (x : Tmp × Value) => tmps.setIfInBounds x.1 x.2) tmps) := by
  rw [← Array.foldl_toList]; simp

theorem callY_ok {run : Run} (hrun : RunOK P run) {l : Nat} {args args' : Array Value} (h : callY run l args H = some (v, H')) (n : Nat) (hr : Rel μ H w) (ha : AR μ args args') {p : Loc} (hp : μ l = some p) (rd : Option Nat) :
    ∃ f tmps assign body, (Instr.yield p.b args').run P w = .ok (.round p.b f tmps assign body) w ∧ RoundIn (FNC rd) n P p.b f tmps assign body w (Ret μ H w v H') := by
  unfold callY at h
  split at h
  · rename_i F0 params assign body hl
    obtain ⟨fn, tmps, D, hb, hF0, hoa, hob⟩ := hr.loops _ _ _ _ _ _ _ p hl hp
    cases hsz : Nat.beq args.size params.size with
    | false => rw [hsz] at h; simp at h
    | true =>
      rw [hsz] at h
      simp only [cond_true] at h
      have hsz' : args'.size = params.size := by rw [← ha.1]; exact Nat.eq_of_beq_eq_true hsz
      split at h
      · cases h
      · rename_i F1 hput
        obtain ⟨hF1, hm1⟩ := putAll_ok [] params.toList args.toList args'.toList { F0 with marks := [] } F1 tmps hput hF0 ha.toL
        refine ⟨_, _, _, _, run_yield hb hsz', roundIn_of_wpIn trivial ?_⟩
        simp only []
        have e : (Array.foldl (fun tmps (x : Tmp × Value) => tmps.setIfInBounds x.1 x.2) tmps (params.zip args')) = ((params.toList.zip args'.toList).foldl (fun tmps (x : Tmp × Value) => tmps.setIfInBounds x.1 x.2) tmps) := zip_fold_toList _ _ _
        split at h
        · rename_i F2 h2 hasg
          split at h
          · rename_i Fa pa aa ba hl2
            split at h
            · rename_i e3 F3 h3 hbody
              split at h
              · rename_i Fb pb ab bb hl3
                refine wpIn_mono (hrun (some l) assign F1 H .normal F2 h2 hasg hoa n μ (some p.b) _ w hr (by show FR μ F1 (Array.foldl _ _ _); rw [e]; exact hF1) (by rw [hm1]; exact .nil) ⟨p, hp, rfl⟩) fun ex a1 w1 hq => ?_
                obtain ⟨rfl, μ2, hF2, hM2, hp2⟩ := hq
                have hpl2 := hp2.ext _ _ hp
                obtain ⟨fn2, tmps2, D2, hb2, _, hoa2, hob2, hpost2⟩ := loop_turn hp2.rel hl2 hpl2 .busy none
                refine ⟨_, run_beginRound hb2 rfl, ?_⟩
                have hp3 := hp2.trans hpost2
                refine wpIn_mono (hrun (some l) body F2 _ e3 F3 h3 hbody hob n μ2 (some p.b) a1 _ hpost2.rel hF2 hM2 ⟨p, hpl2, rfl⟩) fun ex a3 w3 hq3 => ?_
                obtain ⟨rfl, μ3, _, _, hp4⟩ := hq3
                obtain ⟨j, w4, hj, hend, hv, hp5⟩ := endY_ok (P := P) hp4.rel hl3 (hp4.ext _ _ hpl2) h
                have hall := hp3.trans (hp4.trans hp5)
                cases e3 with
                | normal => simp only at hj; subst hj; exact ⟨v, w4, hend, μ3, v, rfl, hv, hall⟩
                | ret => simp only at hj; subst hj; exact ⟨v, w4, hend, μ3, v, rfl, hv, hall⟩
                | exit id => simp only at hj; subst hj; exact ⟨v, w4, hend, μ3, v, rfl, hv, hall⟩
              · cases h
            · cases h
          · cases h
        · cases h
  · cases h

/-! ### Calls -/
theorem find_noescape {fn : Func} (hn : fn.name = "internal/abi.NoEscape") : Extern.find fn = some Extern.AbiNoEscape.same := by
  unfold Extern.find
  rw [hn]
  kernel_rfl
theorem next_noescape {fn : Func} (hn : fn.name = "internal/abi.NoEscape") (ho : fn.origin = "" ∨ fn.origin = "internal/abi.NoEscape") : Extern.findNext fn = none := by
  unfold Extern.findNext
  rw [hn]
  rcases ho with ho | ho <;> rw [ho] <;> kernel_rfl

theorem externA_ok {g : FuncId} {args : List Value} {args' : Array Value} (h : externA P g args = some v) (ha : AR μ ⟨args⟩ args') : ∃ v', (∀ w, (callFunc g args').run P w = .ok (.value v') w) ∧ VR μ v v' := by
  unfold externA at h
  split at h
  · rename_i fn hf
    split at h
    · cases h
    · rename_i hb
      split at h
      · rename_i u
        cases hc : (fn.name == "internal/abi.NoEscape" && (fn.origin == "" || fn.origin == "internal/abi.NoEscape")) with
        | false => rw [hc] at h; cases h
        | true =>
          rw [hc] at h
          simp only [cond_true, Option.some.injEq] at h
          subst h
          simp only [Bool.and_eq_true, Bool.or_eq_true, beq_iff_eq] at hc
          obtain ⟨u', hu, hv⟩ := ha.get (i := 0) (v := u) (by simp)
          have hsz : args'.size = 1 := by rw [← ha.1]; simp
          have hargs : args' = #[u'] := by
            apply Array.ext
            · simp [hsz]
            · intro i h1 h2
              have : i = 0 := by omega
              subst this
              rw [Array.getElem?_eq_getElem h1] at hu
              simpa using hu
          refine ⟨u', fun w => ?_, hv⟩
          rw [run_callFunc_extern hf (by rw [hc.1]; decide) (by simp [hb]) (next_noescape hc.1 hc.2) (find_noescape hc.1), hargs]
          rfl
      · cases h
  · cases h

theorem map_AR {F : AFrame} {a : Act} {xs : Array Operand} (hx : ∀ x, x ∈ xs.toList → VR μ (aeval F x) (a.eval x)) : LR μ (xs.toList.map (aeval F)) (xs.map a.eval).toList := by
  refine ⟨by simp, fun j v v' hv hv' => ?_⟩
  simp only [List.getElem?_map, Option.map_eq_some_iff, Array.toList_map] at hv hv'
  obtain ⟨x, hx1, rfl⟩ := hv
  obtain ⟨x', hx2, rfl⟩ := hv'
  rw [hx1] at hx2; cases hx2
  exact hx x (List.mem_of_getElem? hx1)

theorem callA_ok {G : Msk} (hG : GOK P G) {run : Run} (hrun : RunOK P run) : CallOK P (callA P G run) := by
  intro c F h v h' o ho hc hok n μ rd a w K Q hr hops hK
  rw [ho] at hops
  have hargs : ∀ x, x ∈ c.args.toList → VR μ (aeval F x) (a.eval x) := fun x hx => hops x (by simp only [Op.operands, Call.operands]; cases c.callee <;> simp_all)
  have hl := map_AR hargs
  have hab : ∀ f, o.about P w a.eval = some f → (FNC rd).fn f := fun _ _ => trivial
  have hsem : o.semAt (FNC rd).round a.eval = execOp a.eval o := Oper.semAt_eq _ _ _ (fun d e => by rw [ho] at e; cases e)
  have hex : execOp a.eval o = (do let d ← resolve a.eval c o.type; invoke d.target d.args) := by unfold execOp; rw [ho]
  unfold callA at hc
  refine ⟨hab, ?_⟩
  rw [hsem, hex]
  cases hcal : c.callee with
  | builtin b =>
    rw [hcal] at hc
    simp only [args__eq] at hc
    obtain ⟨μ', v', w', hrn, hv, hp⟩ := builtinA_ok hr hc (LR.toA hl)
    simp only [resolve, hcal, Sem.run_bind, Sem.run_pure, Result.andThen_ok, invoke]
    refine Eq.mpr (congrArg (o.uponIn (FNC rd) n P a K Q) (?e : _ = Result.ok (Next.value v') w')) (show o.uponIn (FNC rd) n P a K Q (Result.ok (Next.value v') w') from hK μ' v' w' hv hp)
    exact hrn
  | invoke r m => rw [hcal] at hc; cases hc
  | value f =>
    rw [hcal] at hc
    have hfv := hops f (by simp only [Op.operands, Call.operands, hcal]; simp)
    simp only at hc
    split at hc
    · rename_i g first captured hgf
      rw [hgf] at hfv
      obtain ⟨fs', cs', hev, h1, h2⟩ := hfv.func_inv
      rw [args__eq] at hc
      have hAR : AR μ (⟨first.toList ++ (c.args.toList.map (aeval F) ++ captured.toList)⟩ : Array Value) (fs' ++ (c.args.map a.eval) ++ cs') := by
        refine AR.ofL ?_
        have := h1.toL.append (hl.append h2.toL)
        simpa using this
      unfold callE at hc
      split at hc
      · rename_i u hu
        simp only [Option.some.injEq, Prod.mk.injEq] at hc
        obtain ⟨rfl, rfl⟩ := hc
        obtain ⟨v', k1, hv⟩ := externA_ok hu hAR
        simp only [resolve, hcal, Sem.run_bind, hev, Deferred.ofValue, Sem.run_pure, Result.andThen_ok, invoke, k1]
        exact hK μ v' w hv (.refl hr)
      obtain ⟨k1, k2⟩ : (∀ w, (callFunc g (fs' ++ (c.args.map a.eval) ++ cs')).run P w = .ok (.enter g (fs' ++ (c.args.map a.eval) ++ cs')) w) ∧ CallsIn (FNC none) (n - 1) P g (fs' ++ (c.args.map a.eval) ++ cs') w (Ret μ h w v h') := by
        split at hc
        · rename_i u hnil hu
          simp only [Option.some.injEq, Prod.mk.injEq] at hc
          obtain ⟨rfl, rfl⟩ := hc
          have hz : (fs' ++ (c.args.map a.eval) ++ cs') = #[] := Array.eq_empty_of_size_eq_zero (by rw [← hAR.1]; simp [hnil])
          obtain ⟨hfl, ho⟩ := hG.2 _ _ hu
          rw [hz]
          refine ⟨(ho 0 w).1, CallsIn.mono (ho (n - 1) w).2 fun e w' he => ?_⟩
          obtain ⟨rfl, q1, q2, q3, q4, q5⟩ := he
          exact ⟨μ, _, rfl, .of_flatR hfl, .refl _, fun _ _ => rfl, hr.world q1, q3, q4, q5, q2, Nat.le_refl _, Nat.le_refl _, fun _ _ _ => rfl, fun T N _ hN hμ => ⟨fun b hb => q1 b (by omega), hμ⟩⟩
        · exact callP_ok hG hrun hc (n - 1) hr hAR
      simp only [resolve, hcal, Sem.run_bind, hev, Deferred.ofValue, Sem.run_pure, Result.andThen_ok, invoke, k1]
      refine ⟨fun h => (by cases h), CallsIn.mono k2 fun e w' he => ?_⟩
      obtain ⟨μ', v', rfl, hv, hp⟩ := he
      exact hK μ' v' w' hv hp
    · rename_i l first _ hgf
      rw [hgf] at hfv
      obtain ⟨p, hp, hev, rfl, rfl⟩ := hfv.yield_inv
      rw [args__eq] at hc
      have hAR : AR μ (⟨(#[] : Array Value).toList ++ c.args.toList.map (aeval F)⟩ : Array Value) (#[] ++ (c.args.map a.eval)) := by
        refine AR.ofL ?_
        simpa using hl
      obtain ⟨f', tmps, assign, body, k1, k2⟩ := callY_ok hrun hc (n - 1) hr hAR hp rd
      simp only [resolve, hcal, Sem.run_bind, hev, Deferred.ofValue, Sem.run_pure, Result.andThen_ok, invoke, k1]
      refine ⟨fun h => (by cases h), RoundIn.mono k2 fun e w' he => ?_⟩
      obtain ⟨μ', v', rfl, hv, hp⟩ := he
      exact hK μ' v' w' hv hp
    · cases hc
end
end Go.Ev
