/-
  Part of the engine that the claim is proved with: it states nothing of the document by itself.
-/
import Derived.Test.YtigckjhbmeameaaGreatDoorCoreEvX
import Derived.RangeFuncLeaves
import Derived.RangeFuncRecord
import Derived.OrdersIn

namespace Go.Ev
open Go.RowKit

/-- The fence that lets everything in. -/
def FNC (rd : Option Nat) : Fence := { Fence.wide with round := rd }

inductive MR (μ : Nat → Option Loc) : List Nat → List Deferred → Prop
  | nil : MR μ [] []
  | cons {D : Nat} {p : Loc} {ms : List Nat} {ds : List Deferred} (h : μ D = some p) (t : MR μ ms ds) : MR μ (D :: ms) ({ target := .collected p.b, args := #[] } :: ds)
theorem MR.mono {μ μ' : Nat → Option Loc} {ms : List Nat} {ds : List Deferred} (h : MR μ ms ds) (hx : Ext μ μ') : MR μ' ms ds := by
  induction h with
  | nil => exact .nil
  | cons h _ ih => exact .cons (hx _ _ h) ih

def RD (μ : Nat → Option Loc) (rd rd' : Option Nat) : Prop :=
  match rd, rd' with
  | none, none => True
  | some l, some l' => ∃ p, μ l = some p ∧ p.b = l'
  | _, _ => False
theorem RD.mono {μ μ' : Nat → Option Loc} {rd rd' : Option Nat} (h : RD μ rd rd') (hx : Ext μ μ') : RD μ' rd rd' := by
  cases rd <;> cases rd' <;> simp only [RD] at h ⊢
  obtain ⟨p, hp, hb⟩ := h; exact ⟨p, hx _ _ hp, hb⟩

def exitOf : AEx → Exit
  | .normal => .normal
  | .exit id => .exit id
  | .ret => .ret

def QOK (μ : Nat → Option Loc) (h : AHeap) (w : World) (e : AEx) (F' : AFrame) (h' : AHeap) : Exit → Act → World → Prop := fun e' a' w' =>
  e' = exitOf e ∧ ∃ μ', FR μ' F' a'.tmps ∧ MR μ' F'.marks a'.defers ∧ Post μ h w μ' h' w'

def RunOK (P : Program) (run : Run) : Prop := ∀ (rd : Option Nat) (c : Code) (F : AFrame) (h : AHeap) (e : AEx) (F' : AFrame) (h' : AHeap), run rd c F h = some (e, F', h') → okCode c = true →
  ∀ (n : Nat) (μ : Nat → Option Loc) (rd' : Option Nat) (a : Act) (w : World), Rel μ h w → FR μ F a.tmps → MR μ F.marks a.defers → RD μ rd rd' → c.wpIn (FNC rd') n P (QOK μ h w e F' h') a w

/-- A call's contract. -/
def Ret (μ : Nat → Option Loc) (h : AHeap) (w : World) (v : Value) (h' : AHeap) : Ending → World → Prop := fun e w' => ∃ μ' v', e = .returned v' ∧ VR μ' v v' ∧ Post μ h w μ' h' w'

section
variable {P : Program} {μ : Nat → Option Loc} {H H' : AHeap} {w : World} {v : Value}

theorem fnc_depth (rd : Option Nat) (n : Nat) : (FNC rd).depth.isSome = true → 1 ≤ n := fun h => by cases h
theorem fnc_fn (rd : Option Nat) (f : FuncId) : (FNC rd).fn f := trivial

theorem wp_of_exec {o : Oper} {a : Act} {rd : Option Nat} {n : Nat} {K : Act → World → Prop} {Q : Exit → Act → World → Prop} (hnd : ∀ c, o.op ≠ .defer c)
    (h : ExecOK P (execOp a.eval o) v μ H w H') (hK : ∀ μ' v' w', VR μ' v v' → Post μ H w μ' H' w' → K (a.put o.dst v') w') : o.wpIn (FNC rd) n P a w K Q := by
  obtain ⟨μ', v', w', hrun, hv, hp⟩ := h
  refine ⟨fun f _ => trivial, ?_⟩
  rw [Oper.semAt_eq _ _ _ hnd]
  rcases hrun with hrun | ⟨hrun, rfl⟩
  · rw [hrun]; exact hK μ' v' w' hv hp
  · rw [hrun]; exact hK μ' undef w' hv hp

/-- What a call operation owes. -/
def CallOK (P : Program) (call : Call → TypeId → AFrame → AHeap → Option (Value × AHeap)) : Prop :=
  ∀ (c : Call) (F : AFrame) (h : AHeap) (v : Value) (h' : AHeap) (o : Oper), o.op = .call c → call c o.type F h = some (v, h') → okOpB o.op = true →
    ∀ (n : Nat) (μ : Nat → Option Loc) (rd' : Option Nat) (a : Act) (w : World) (K : Act → World → Prop) (Q : Exit → Act → World → Prop), Rel μ h w → (∀ x, x ∈ o.op.operands.toList → VR μ (aeval F x) (a.eval x)) →
      (∀ μ' v' w', VR μ' v v' → Post μ h w μ' h' w' → K (a.put o.dst v') w') → o.wpIn (FNC rd') n P a w K Q

theorem evalR {F : AFrame} {a : Act} {x : Operand} (h : FR μ F a.tmps) (hx : okOperand x = true) : VR μ (aeval F x) (a.eval x) := by
  cases x with
  | tmp t => exact h.2.2 t
  | const v =>
    simp only [okOperand, Bool.or_eq_true] at hx
    rcases hx with hx | hx
    · exact .of_flat hx
    · split at hx
      · rename_i vs
        have h0 : vs = #[] := Array.eq_empty_of_size_eq_zero (Nat.eq_of_beq_eq_true hx)
        subst h0; exact .undef μ
      · cases hx
  | global g => simp [okOperand] at hx
  | func f => exact .func rfl (fun i v v' hv _ => by simp at hv) rfl (fun i v v' hv _ => by simp at hv)

theorem okOpB_operands {o : Op} (h : okOpB o = true) : ∀ x, x ∈ o.operands.toList → okOperand x = true := by
  intro x hx
  cases o <;> simp only [okOpB] at h <;> first | (cases h; done) | exact List.all_eq_true.1 h x hx

theorem opA_wp {call : Call → TypeId → AFrame → AHeap → Option (Value × AHeap)} (hc : CallOK P call) {F : AFrame} {o : Oper} {a : Act} {rd : Option Nat} {n : Nat} {K : Act → World → Prop} {Q : Exit → Act → World → Prop}
    (h : opA call P F o.op o.type H = some (v, H')) (hok : okOpB o.op = true) (hr : Rel μ H w) (hρ : ∀ x, x ∈ o.op.operands.toList → VR μ (aeval F x) (a.eval x)) (hK : ∀ μ' v' w', VR μ' v v' → Post μ H w μ' H' w' → K (a.put o.dst v') w') : o.wpIn (FNC rd) n P a w K Q := by
  by_cases hcall : ∃ c, o.op = .call c
  · obtain ⟨c, hoc⟩ := hcall
    rw [hoc] at h
    exact hc c F H v H' o hoc (by simpa [opA] using h) hok n μ rd a w K Q hr hρ hK
  · exact wp_of_exec (fun c e => by rw [e] at hok; simp [okOpB] at hok) (opA_ok o hr hρ (fun c e => hcall ⟨c, e⟩) h) hK

theorem fetch_eq' {F : AFrame} {a : Act} {ops : Array Oper} {o : Oper} (hF : ∀ j b d, o.guard = some (j, b) → (ops[j]?).bind (·.dst) = some d → VR μ (F.get d) (a.tmps.getD d undef)) : Region.wanted o (yielded ops a.tmps) = fetch F ops o := by
  unfold Region.wanted fetch
  cases hg : o.guard with
  | none => rfl
  | some jw =>
    obtain ⟨j, want⟩ := jw
    simp only [yielded]
    cases hd : (ops[j]?).bind (·.dst) with
    | none => simp
    | some d =>
      simp only [Option.bind_some]
      have := hF j want d hg hd
      have hget : a.tmps.getD d undef = (a.tmps[d]?).getD undef := by rw [Array.getD_eq_getD_getElem?]
      rw [hget] at this
      cases ht : a.tmps[d]? with
      | none =>
        rw [ht] at this
        simp only [Option.getD_none] at this
        have hne : ∀ b, F.get d ≠ .bool b := fun b e => by rw [e] at this; have := this.bool_inv; simp [undef] at this
        cases hu : F.get d with
        | bool b => exact absurd hu (hne b)
        | _ => simp
      | some u =>
        rw [ht] at this
        simp only [Option.getD_some] at this
        cases hu : F.get d with
        | bool b =>
          rw [hu] at this
          have := this.bool_inv
          subst this
          simp
        | _ =>
          rw [hu] at this
          have hne : ∀ b, u ≠ .bool b := by rintro b rfl; cases this
          cases u <;> first | (exact absurd rfl (hne _)) | simp

theorem fetch_eq {F : AFrame} {a : Act} {ops : Array Oper} {o : Oper} (hF : FR μ F a.tmps) : Region.wanted o (yielded ops a.tmps) = fetch F ops o := fetch_eq' fun _ _ d _ _ => hF.2.2 d

/-- The operations of a region, in the order of the text. -/
theorem stepOps_ok {call : Call → TypeId → AFrame → AHeap → Option (Value × AHeap)} (hc : CallOK P call) {ops : Array Oper} (hok : ∀ o, o ∈ ops.toList → okOpB o.op = true) {rd : Option Nat} {n : Nat} {Q : Exit → Act → World → Prop} :
    ∀ (rest : List Oper) (k : Nat) (F F' : AFrame) (H H' : AHeap) (μ : Nat → Option Loc) (a : Act) (w : World), ops.toList.drop k = rest → stepOps call P ops rest F H = some (F', H') → Rel μ H w → FR μ F a.tmps → MR μ F.marks a.defers →
      (∀ μ' a' w', FR μ' F' a'.tmps → MR μ' F'.marks a'.defers → Post μ H w μ' H' w' → Q .normal a' w') → wpOpsIn (FNC rd) n P ops Q ((List.range ops.size).drop k) a w := by
  intro rest
  induction rest with
  | nil =>
    intro k F F' H H' μ a w hk h hr hF hM hQ
    have hlen : ops.size ≤ k := by
      have := congrArg List.length hk; simp at this; omega
    rw [List.drop_eq_nil_of_le (by simpa using hlen)]
    simp only [stepOps, Option.some.injEq, Prod.mk.injEq] at h
    obtain ⟨rfl, rfl⟩ := h
    exact hQ μ a w hF hM (.refl hr)
  | cons o rest ih =>
    intro k F F' H H' μ a w hk h hr hF hM hQ
    have hlt : k < ops.size := by
      rcases Nat.lt_or_ge k ops.size with h | h
      · exact h
      · rw [List.drop_eq_nil_of_le (by simpa using h)] at hk; cases hk
    have hd := List.drop_eq_getElem_cons (l := ops.toList) (i := k) (by simpa using hlt)
    rw [hd] at hk
    injection hk with ho hrest
    have hr2 : (List.range ops.size).drop k = k :: (List.range ops.size).drop (k + 1) := by
      rw [List.drop_eq_getElem_cons (by simpa using hlt)]; simp
    rw [hr2]
    have hoi : ops[k]? = some o := by rw [Array.getElem?_eq_getElem hlt, ← ho]; rfl
    simp only [wpOpsIn, hoi]
    rw [fetch_eq hF]
    simp only [stepOps] at h
    have hmem : o ∈ ops.toList := by rw [← ho]; exact List.getElem_mem _
    cases hf : fetch F ops o with
    | true =>
      simp only [if_true]
      rw [hf] at h
      simp only [cond_true] at h
      split at h
      · rename_i v h1 hop
        rw [forceV_eq] at h
        split at h
        · rename_i F1 hput
          refine opA_wp hc hop (hok o hmem) hr (fun x hx => evalR hF (okOpB_operands (hok o hmem) x hx)) fun μ' v' w' hv hp => ?_
          obtain ⟨hF1, hm1⟩ := FR.put (hF.mono hp.ext) hv hput
          exact ih (k + 1) F1 F' h1 H' μ' (a.put o.dst v') w' hrest h hp.rel hF1 (by rw [hm1, show (a.put o.dst v').defers = a.defers by cases o.dst <;> rfl]; exact hM.mono hp.ext)
            fun μ2 a2 w2 h1 h2 h3 => hQ μ2 a2 w2 h1 h2 (hp.trans h3)
        · cases h
      · cases h
    | false =>
      simp only [Bool.false_eq_true, if_false]
      rw [hf] at h
      simp only [cond_false] at h
      split at h
      · rename_i F1 hput
        obtain ⟨hF1, hm1⟩ := FR.put hF (.undef μ) hput
        exact ⟨fun f _ => trivial, ih (k + 1) F1 F' H H' μ (a.put o.dst undef) w hrest h hr hF1 (by rw [hm1, show (a.put o.dst undef).defers = a.defers by cases o.dst <;> rfl]; exact hM) hQ⟩
      · cases h
end
end Go.Ev
