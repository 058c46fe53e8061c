/-
  Part of the engine that the claim is proved with: it states nothing of the document by itself.
-/
import Derived.Test.YtigckjhbmeameaaGreatDoorCoreEvY
import Derived.LoopNIn
import Derived.Scope

namespace Go.Ev
open Go.RowKit

/-! ### Steps of a frame that may be a round's -/
section
variable {P : Program} {F : Fence} {n : Nat} {Q Q' : Exit → Act → World → Prop}

theorem stepR_scope {b : Frame} {a : Act} {k : List Item} {cs : List Frame} {w : World} {c : Code} : step P (lone (b.atR a (.code (.scope c) :: k)) cs w) = .next (lone (b.atR a (.code c :: .inScope c :: k)) cs w) :=
  step_lone_go (by simp [stepG, stepG.exec, Frame.atR])
theorem stepR_inScope {b : Frame} {a : Act} {k : List Item} {cs : List Frame} {w : World} {c : Code} : step P (lone (b.atR a (.inScope c :: k)) cs w) = .next (lone (b.atR a k) cs w) :=
  step_lone_go (by simp [stepG, stepG.exec, Frame.atR])

theorem wpIn_scope {c : Code} {a : Act} {w : World} (h : c.wpIn F n P (Exit.noGoto Q) a w) : (Code.scope c).wpIn F n P Q a w := by
  intro b k cs hro hb hr
  have h0 : (lone (b.atR a (.code (.scope c) :: k)) cs w).fenced P F := fenced_calm hb hr rfl
  obtain ⟨e, a₁, w₁, hq, harr⟩ := h b (.inScope c :: k) cs hro hb hr
  cases e with
  | normal => exact ⟨.normal, a₁, w₁, hq, .head h0 stepR_scope (StepsIn.trans harr (.one (fenced_calm hb hr rfl) stepR_inScope))⟩
  | exit id =>
    have hx : exitTo id (.inScope c :: k) = exitTo id k := by simp [exitTo]
    exact ⟨.exit id, a₁, w₁, hq, fun k' hk => .head h0 stepR_scope (harr.1 k' (by rw [hx]; exact hk)),
      fun hr' hk => let ⟨k₁, h1, h2⟩ := harr.2 hr' (by rw [hx]; exact hk); ⟨k₁, h1, .head h0 stepR_scope h2⟩⟩
  | goto l => exact hq.elim
  | ret => exact ⟨_, a₁, w₁, hq, .of_steps (.one h0 stepR_scope) harr⟩
  | panic ch => exact ⟨_, a₁, w₁, hq, .of_steps (.one h0 stepR_scope) harr⟩
  | outgrown => exact ⟨_, a₁, w₁, hq, .of_steps (.one h0 stepR_scope) harr⟩

theorem roundsIn_mono {c : Code} (hq : ∀ e a w, Q e a w → Q' e a w) : ∀ (m : Nat) (a : Act) (w : World), Code.roundsIn F n P c Q m a w → Code.roundsIn F n P c Q' m a w
  | 0, _, _, h => h.elim
  | m + 1, _, _, h => wpIn_mono h fun e a w he => by
      cases e <;> first | exact roundsIn_mono hq m a w he | exact hq _ a w he
end

section
variable {P : Program} {μ : Nat → Option Loc} {H H' : AHeap} {w : World} {v : Value}

theorem QOK.chain {μ μ1 : Nat → Option Loc} {h h1 h2 : AHeap} {w w1 : World} {e : AEx} {F : AFrame} (hp : Post μ h w μ1 h1 w1) (e' : Exit) (a' : Act) (w' : World) (hq : QOK μ1 h1 w1 e F h2 e' a' w') : QOK μ h w e F h2 e' a' w' := by
  obtain ⟨he, μ2, hF, hM, hp2⟩ := hq
  exact ⟨he, μ2, hF, hM, hp.trans hp2⟩

/-- A piece and what comes behind it. -/
theorem seq_wp {run : Run} (hrun : RunOK P run) {c : Code} (hc : okCode c = true) {rd : Option Nat} {F F1 : AFrame} {h h1 : AHeap} {e1 : AEx} (hev : run rd c F h = some (e1, F1, h1))
    {n : Nat} {rd' : Option Nat} {a : Act} {e : AEx} {F' : AFrame} {h' : AHeap} (hr : Rel μ h w) (hF : FR μ F a.tmps) (hM : MR μ F.marks a.defers) (hd : RD μ rd rd') {K : Act → World → Prop}
    (hn : e1 = .normal → ∀ (μ1 : Nat → Option Loc) (a1 : Act) (w1 : World), Post μ h w μ1 h1 w1 → FR μ1 F1 a1.tmps → MR μ1 F1.marks a1.defers → RD μ1 rd rd' → K a1 w1)
    (he : e1 ≠ .normal → (e, F', h') = (e1, F1, h1)) : c.wpIn (FNC rd') n P (Exit.then K (QOK μ h w e F' h')) a w := by
  refine wpIn_mono (hrun rd c F h e1 F1 h1 hev hc n μ rd' a w hr hF hM hd) fun ex a1 w1 hq => ?_
  cases e1 with
  | normal =>
    obtain ⟨rfl, μ1, hF1, hM1, hp⟩ := hq
    exact hn rfl μ1 a1 w1 hp hF1 hM1 (hd.mono hp.ext)
  | exit id =>
    have := he (by simp)
    simp only [Prod.mk.injEq] at this
    obtain ⟨rfl, rfl, rfl⟩ := this
    obtain ⟨rfl, hrest⟩ := hq
    exact ⟨rfl, hrest⟩
  | ret =>
    have := he (by simp)
    simp only [Prod.mk.injEq] at this
    obtain ⟨rfl, rfl, rfl⟩ := this
    obtain ⟨rfl, hrest⟩ := hq
    exact ⟨rfl, hrest⟩

theorem evSeq_split {run : Run} {rd : Option Nat} {a b : Code} {F F' : AFrame} {h h' : AHeap} {e : AEx} (hev : evSeq run rd a b F h = some (e, F', h')) :
    ∃ e1 F1 h1, run rd a F h = some (e1, F1, h1) ∧ (e1 = .normal → run rd b F1 h1 = some (e, F', h')) ∧ (e1 ≠ .normal → (e, F', h') = (e1, F1, h1)) := by
  unfold evSeq at hev
  split at hev
  · rename_i e1 F1 h1 h0
    refine ⟨e1, F1, h1, h0, ?_, ?_⟩
    · rintro rfl; exact hev
    · intro hne
      split at hev
      · exact absurd rfl hne
      · simp only [Option.some.injEq] at hev; exact hev.symm
  · cases hev

theorem seq_ok {run : Run} (hrun : RunOK P run) {x y : Code} (hx : okCode x = true) (hy : okCode y = true) {rd : Option Nat} {F F' : AFrame} {h h' : AHeap} {e : AEx} (hev : evSeq run rd x y F h = some (e, F', h'))
    {n : Nat} {rd' : Option Nat} {a : Act} (hr : Rel μ h w) (hF : FR μ F a.tmps) (hM : MR μ F.marks a.defers) (hd : RD μ rd rd') : (Code.seq x y).wpIn (FNC rd') n P (QOK μ h w e F' h') a w := by
  obtain ⟨e1, F1, h1, h0, hn, he⟩ := evSeq_split hev
  refine wpIn_seq (seq_wp hrun hx h0 hr hF hM hd (fun hn1 μ1 a1 w1 hp hF1 hM1 hd1 => ?_) he)
  exact wpIn_mono (hrun rd y F1 h1 e F' h' (hn hn1) hy n μ1 rd' a1 w1 hp.rel hF1 hM1 hd1) (QOK.chain hp)

def LoopOK (P : Program) (run : Run) (m : Nat) : Prop := ∀ (rd : Option Nat) (c : Code) (F : AFrame) (h : AHeap) (e : AEx) (F' : AFrame) (h' : AHeap), run rd (.loop c) F h = some (e, F', h') → okCode c = true →
  ∀ (n : Nat) (μ : Nat → Option Loc) (rd' : Option Nat) (a : Act) (w : World), Rel μ h w → FR μ F a.tmps → MR μ F.marks a.defers → RD μ rd rd' → Code.roundsIn (FNC rd') n P c (QOK μ h w e F' h') m a w

theorem loop_ok {run : Run} {m : Nat} (hrun : RunOK P run) (hl : LoopOK P run m) {x : Code} (hx : okCode x = true) {rd : Option Nat} {F F' : AFrame} {h h' : AHeap} {e : AEx} (hev : evSeq run rd x (.loop x) F h = some (e, F', h'))
    {n : Nat} {rd' : Option Nat} {a : Act} (hr : Rel μ h w) (hF : FR μ F a.tmps) (hM : MR μ F.marks a.defers) (hd : RD μ rd rd') : Code.roundsIn (FNC rd') n P x (QOK μ h w e F' h') (m + 1) a w := by
  obtain ⟨e1, F1, h1, h0, hn, he⟩ := evSeq_split hev
  refine seq_wp hrun hx h0 hr hF hM hd (fun hn1 μ1 a1 w1 hp hF1 hM1 hd1 => ?_) he
  exact roundsIn_mono (QOK.chain hp) _ _ _ (hl rd x F1 h1 e F' h' (hn hn1) hx n μ1 rd' a1 w1 hp.rel hF1 hM1 hd1)

theorem cond_ok {run : Run} (hrun : RunOK P run) {c : Operand} {x y : Code} (hc : okOperand c = true) (hx : okCode x = true) (hy : okCode y = true) {rd : Option Nat} {F F' : AFrame} {h h' : AHeap} {e : AEx} (hev : evCond run rd (aeval F c) x y F h = some (e, F', h'))
    {n : Nat} {rd' : Option Nat} {a : Act} (hr : Rel μ h w) (hF : FR μ F a.tmps) (hM : MR μ F.marks a.defers) (hd : RD μ rd rd') : (Code.cond c x y).wpIn (FNC rd') n P (QOK μ h w e F' h') a w := by
  have hv := evalR hF hc
  unfold evCond at hev
  split at hev
  · rename_i t ht
    rw [ht] at hv
    have := hv.bool_inv
    refine wpIn_cond this ?_
    cases t with
    | true => exact hrun rd x F h e F' h' (by simpa using hev) hx n μ rd' a w hr hF hM hd
    | false => exact hrun rd y F h e F' h' (by simpa using hev) hy n μ rd' a w hr hF hM hd
  · cases hev

theorem block_ok {run : Run} (hrun : RunOK P run) {id : Nat} {x : Code} (hx : okCode x = true) {rd : Option Nat} {F F' : AFrame} {h h' : AHeap} {e : AEx} (hev : evBlock run rd id x F h = some (e, F', h'))
    {n : Nat} {rd' : Option Nat} {a : Act} (hr : Rel μ h w) (hF : FR μ F a.tmps) (hM : MR μ F.marks a.defers) (hd : RD μ rd rd') : (Code.block id x).wpIn (FNC rd') n P (QOK μ h w e F' h') a w := by
  unfold evBlock at hev
  split at hev
  · rename_i e1 F1 h1 h0
    refine wpIn_block (wpIn_mono (hrun rd x F h e1 F1 h1 h0 hx n μ rd' a w hr hF hM hd) fun ex a1 w1 hq => ?_)
    obtain ⟨rfl, μ1, hF1, hM1, hp⟩ := hq
    cases e1 with
    | normal =>
      simp only [Option.some.injEq, Prod.mk.injEq] at hev
      obtain ⟨rfl, rfl, rfl⟩ := hev
      exact ⟨rfl, μ1, hF1, hM1, hp⟩
    | ret =>
      simp only [Option.some.injEq, Prod.mk.injEq] at hev
      obtain ⟨rfl, rfl, rfl⟩ := hev
      exact ⟨rfl, μ1, hF1, hM1, hp⟩
    | exit id' =>
      simp only at hev
      show Exit.inBlock id _ (.exit id') a1 w1
      simp only [Exit.inBlock]
      cases hb : Nat.beq id' id with
      | true =>
        rw [hb] at hev
        have := Nat.eq_of_beq_eq_true hb
        rw [if_pos this]
        simp only [cond_true, Option.some.injEq, Prod.mk.injEq] at hev
        obtain ⟨rfl, rfl, rfl⟩ := hev
        exact ⟨rfl, μ1, hF1, hM1, hp⟩
      | false =>
        rw [hb] at hev
        have hne : id' ≠ id := fun e => by subst e; rw [Nat.beq_refl] at hb; cases hb
        rw [if_neg hne]
        simp only [cond_false, Option.some.injEq, Prod.mk.injEq] at hev
        obtain ⟨rfl, rfl, rfl⟩ := hev
        exact ⟨rfl, μ1, hF1, hM1, hp⟩
  · cases hev

theorem scope_ok {run : Run} (hrun : RunOK P run) {x : Code} (hx : okCode x = true) {rd : Option Nat} {F F' : AFrame} {h h' : AHeap} {e : AEx} (hev : run rd x F h = some (e, F', h'))
    {n : Nat} {rd' : Option Nat} {a : Act} (hr : Rel μ h w) (hF : FR μ F a.tmps) (hM : MR μ F.marks a.defers) (hd : RD μ rd rd') : (Code.scope x).wpIn (FNC rd') n P (QOK μ h w e F' h') a w := by
  refine wpIn_scope (wpIn_mono (hrun rd x F h e F' h' hev hx n μ rd' a w hr hF hM hd) fun ex a1 w1 hq => ?_)
  obtain ⟨rfl, hrest⟩ := hq
  cases e <;> exact ⟨rfl, hrest⟩
end
end Go.Ev
