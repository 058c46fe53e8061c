/-
  Part of the engine that the claim is proved with: it states nothing of the document by itself.
-/
import Derived.Test.YtigckjhbmeameaaGreatDoorCoreEvW

namespace Go.Ev
open Go.RowKit
section
variable {P : Program} {μ : Nat → Option Loc} {H H' : AHeap} {w : World} {v : Value}

theorem exec_of_ok {s : Sem Value} (h : OpOK P s v μ H w H') : ∃ μ' v' w', (do pure (.value (← s)) : Sem Next).run P w = .ok (.value v') w' ∧ VR μ' v v' ∧ Post μ H w μ' H' w' := by
  obtain ⟨μ', v', w', hs, hv, hp⟩ := h
  exact ⟨μ', v', w', by simp [hs], hv, hp⟩

def ExecOK (P : Program) (s : Sem Next) (v : Value) (μ : Nat → Option Loc) (H : AHeap) (w : World) (H' : AHeap) : Prop :=
  ∃ μ' v' w', (s.run P w = .ok (.value v') w' ∨ (s.run P w = .ok .skip w' ∧ v' = undef)) ∧ VR μ' v v' ∧ Post μ H w μ' H' w'

theorem ExecOK.of {s : Sem Value} (h : OpOK P s v μ H w H') : ExecOK P (do pure (.value (← s))) v μ H w H' :=
  let ⟨μ', v', w', a, b, c⟩ := exec_of_ok h; ⟨μ', v', w', .inl a, b, c⟩

theorem ovr_map {F : AFrame} {ρ' : Operand → Value} {x : Option Operand} (h : ∀ y, x = some y → VR μ (aeval F y) (ρ' y)) : OVR μ (x.map (aeval F)) (x.map ρ') := by
  cases x with
  | none => exact ⟨fun a h => (by cases h), fun _ => rfl⟩
  | some y => exact ⟨fun a ha => ⟨ρ' y, rfl, by simp at ha; subst ha; exact h y rfl⟩, fun h => (by cases h)⟩

theorem ar_map {F : AFrame} {ρ' : Operand → Value} {xs : Array Operand} (h : ∀ y, y ∈ xs.toList → VR μ (aeval F y) (ρ' y)) : AR μ (xs.map (aeval F)) (xs.map ρ') := by
  refine ⟨by simp, fun i v v' hv hv' => ?_⟩
  simp only [Array.getElem?_map] at hv hv'
  cases hx : xs[i]? with
  | none => rw [hx] at hv; cases hv
  | some y =>
    rw [hx] at hv hv'
    simp only [Option.map_some, Option.some.injEq] at hv hv'
    subst hv; subst hv'
    exact h y (by rw [Array.mem_toList_iff]; exact Array.mem_of_getElem? hx)

theorem opA_ok {call : Call → TypeId → AFrame → AHeap → Option (Value × AHeap)} {F : AFrame} {ρ' : Operand → Value} (o : Oper) (hr : Rel μ H w)
    (hρ : ∀ x, x ∈ o.op.operands.toList → VR μ (aeval F x) (ρ' x)) (hnc : ∀ c, o.op ≠ .call c) (h : opA call P F o.op o.type H = some (v, H')) : ExecOK P (execOp ρ' o) v μ H w H' := by
  obtain ⟨dst, op, type, pos, after, guard⟩ := o
  simp only at hρ hnc h
  cases op <;> simp only [opA] at h <;> (try (cases h; done)) <;> simp only [execOp]
  case move x =>
    simp only [moveA, Option.some.injEq, Prod.mk.injEq] at h
    obtain ⟨rfl, rfl⟩ := h
    exact ⟨μ, ρ' x, w, .inl rfl, hρ x (by simp [Op.operands]), .refl hr⟩
  case assign x =>
    simp only [moveA, Option.some.injEq, Prod.mk.injEq] at h
    obtain ⟨rfl, rfl⟩ := h
    exact ⟨μ, ρ' x, w, .inl rfl, hρ x (by simp [Op.operands]), .refl hr⟩
  case pick c a b =>
    obtain ⟨v', hrun, hv, rfl⟩ := pickA_ok (P := P) (w := w) h (hρ c (by simp [Op.operands])) (hρ a (by simp [Op.operands])) (hρ b (by simp [Op.operands]))
    exact ⟨μ, v', w, .inl hrun, hv, .refl hr⟩
  case alloc e => exact .of (allocA_ok hr h)
  case box e x => exact .of (boxA_ok hr h (hρ x (by simp [Op.operands])))
  case build t ps =>
    cases hz : zflat P t with
    | false => rw [hz] at h; cases h
    | true =>
      rw [hz] at h
      simp only [cond_true] at h
      obtain ⟨hb, rfl⟩ := valA_ok h
      exact .of (build_ok hr hb (PRel.of_map fun x hx => hρ x (by simpa [Op.operands] using hx)) hz)
  case buildSlice t n ps => exact .of (buildSliceA_ok hr h fun x hx => hρ x (by simpa [Op.operands] using hx))
  case load t a =>
    obtain ⟨hl, rfl⟩ := valA_ok h
    obtain ⟨v', ⟨ad, he, hrun⟩, hv⟩ := loadA_ok hr hl (hρ a (by simp [Op.operands]))
    exact .of (.still hr (by rw [he]; simp only [Instr.loadAt, Instr.sureAddr, Sem.run_bind, Sem.run_pure, Result.andThen_ok]; exact hrun) hv)
  case store t a x =>
    unfold storeO at h
    split at h
    · rename_i h2 hs
      simp only [Option.some.injEq, Prod.mk.injEq] at h
      obtain ⟨rfl, rfl⟩ := h
      obtain ⟨w', hrun, hp⟩ := storeA_ok hr hs (hρ a (by simp [Op.operands])) (hρ x (by simp [Op.operands]))
      exact ⟨μ, undef, w', .inr ⟨by simp [hrun], rfl⟩, .undef μ, hp⟩
    · cases h
  case nilCheck x =>
    obtain ⟨h1, h2, rfl⟩ := nilCheckA_ok (P := P) (w := w) h (hρ x (by simp [Op.operands])) ⟨dst, .nilCheck x, type, pos, after, guard⟩ ρ' x rfl rfl
    simp only [execOp] at h1
    exact ⟨μ, _, w, .inl h1, h2, .refl hr⟩
  case binOp op t x y ty => exact .of (binA_ok hr h (hρ x (by simp [Op.operands])) (hρ y (by simp [Op.operands])))
  case unOp op t x => exact .of (unA_ok hr h (hρ x (by simp [Op.operands])))
  case convert s d x => exact .of (convA_ok hr h (hρ x (by simp [Op.operands])))
  case makeInterface t x => exact .of (makeIfaceA_ok hr h (hρ x (by simp [Op.operands])))
  case makeFunc fn fs cs =>
    cases fn <;> simp only [reduceCtorEq] at h
    simp only [Option.some.injEq, Prod.mk.injEq] at h
    obtain ⟨rfl, rfl⟩ := h
    have a1 : AR μ (fs.map (aeval F)) (fs.map ρ') := ar_map fun y hy => hρ y (by simp only [Op.operands, Array.toList_append, List.mem_append]; exact .inl hy)
    have a2 : AR μ (cs.map (aeval F)) (cs.map ρ') := ar_map fun y hy => hρ y (by simp only [Op.operands, Array.toList_append, List.mem_append]; exact .inr hy)
    exact .of (.still hr rfl (.func a1.1 a1.2 a2.1 a2.2))
  case makeSlice t l c => exact .of (makeSliceA_ok hr h (hρ l (by simp [Op.operands])) (hρ c (by simp [Op.operands])))
  case slice t x lo hi mx =>
    exact .of (sliceO_ok hr h (hρ x (by simp [Op.operands])) (ovr_map fun y hy => hρ y (by subst hy; simp [Op.operands])) (ovr_map fun y hy => hρ y (by subst hy; simp [Op.operands])) (ovr_map fun y hy => hρ y (by subst hy; simp [Op.operands])))
  case fieldAddr s x f => exact .of (fieldAddrA_ok hr h (hρ x (by simp [Op.operands])))
  case field t x f => exact .of (fieldO_ok hr h (hρ x (by simp [Op.operands])))
  case indexAddr t x ix =>
    obtain ⟨hi, rfl⟩ := valA_ok h
    exact .of (indexAddrA_ok hr hi (hρ x (by simp [Op.operands])) (hρ ix (by simp [Op.operands])))
  case index t x ix => exact .of (indexO_ok hr h (hρ x (by simp [Op.operands])) (hρ ix (by simp [Op.operands])))
  case extract t ix => exact .of (extractA_ok hr h (hρ t (by simp [Op.operands])))
  case call c => exact absurd rfl (hnc c)
end
end Go.Ev
