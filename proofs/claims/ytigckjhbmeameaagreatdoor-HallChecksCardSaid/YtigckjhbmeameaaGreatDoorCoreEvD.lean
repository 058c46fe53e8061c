/-
  Part of the engine that the claim is proved with: it states nothing of the document by itself.
-/
import Derived.Test.YtigckjhbmeameaaGreatDoorCoreEvC

namespace Go.Ev
open Go.RowKit

section
variable {P : Program} {μ : Nat → Option Loc} {H H' : AHeap} {w : World} {v : Value}

/-! ### What comes before what -/
theorem testBit_fold (p : Edge → Bool) (acc : List Nat) (i : Nat) : ∀ (l : List Edge) (s : Nat), (l.foldl (fun s e => cond (p e) (s ||| 2 ^ e.on ||| acc.getD e.on 0) s) s).testBit i = true →
    s.testBit i = true ∨ ∃ e, e ∈ l ∧ p e = true ∧ (e.on = i ∨ (acc.getD e.on 0).testBit i = true)
  | [], s, h => .inl h
  | e :: l, s, h => by
    rw [List.foldl_cons] at h
    rcases testBit_fold p acc i l _ h with h | ⟨e', h1, h2, h3⟩
    · cases hp : p e with
      | false => rw [hp] at h; exact .inl h
      | true =>
        rw [hp] at h
        simp only [cond_true, Nat.testBit_or, Bool.or_eq_true, Nat.testBit_two_pow, decide_eq_true_eq] at h
        rcases h with (h | h) | h
        · exact .inl h
        · exact .inr ⟨e, by simp, hp, .inl h⟩
        · exact .inr ⟨e, by simp, hp, .inr h⟩
    · exact .inr ⟨e', by simp [h1], h2, h3⟩

theorem masks_get : ∀ (l : List Oper) (acc : List Nat), ∃ r, masks l acc = acc ++ r ∧ r.length = l.length ∧
    ∀ k o i, l[k]? = some o → ((masks l acc).getD (acc.length + k) 0).testBit i = true → ∃ e, e ∈ o.after.toList ∧ Region.binds .any e = true ∧ (e.on = i ∨ ((masks l acc).getD e.on 0).testBit i = true)
  | [], acc => ⟨[], by simp [masks], rfl, fun k o i h => by simp at h⟩
  | o :: l, acc => by
    obtain ⟨r, h1, h2, h3⟩ := masks_get l (acc ++ [maskOf acc o])
    refine ⟨maskOf acc o :: r, by simp [masks, h1], by simp [h2], fun k o' i hk hb => ?_⟩
    have hm : masks (o :: l) acc = masks l (acc ++ [maskOf acc o]) := rfl
    cases k with
    | succ k =>
      rw [hm] at hb ⊢
      refine h3 k o' i (by simpa using hk) ?_
      have : (acc ++ [maskOf acc o]).length + k = acc.length + (k + 1) := by simp; omega
      rw [this]; exact hb
    | zero =>
      simp only [List.getElem?_cons_zero, Option.some.injEq] at hk
      subst hk
      have hg : (masks (o :: l) acc).getD (acc.length + 0) 0 = maskOf acc o := by
        rw [hm, h1]; simp
      rw [hg] at hb
      rcases testBit_fold (Region.binds .any) acc i _ 0 (by unfold maskOf at hb; exact hb) with h | ⟨e, he, hbn, h⟩
      · simp at h
      · refine ⟨e, he, hbn, h.imp id fun h => ?_⟩
        rw [hm, h1]
        by_cases hlt : e.on < acc.length
        · rw [List.getD_eq_getElem?_getD] at h ⊢
          rw [List.append_assoc, List.getElem?_append_left hlt]; exact h
        · rw [List.getD_eq_getElem?_getD, List.getElem?_eq_none (by omega)] at h; simp at h

def dstOf (ops : Array Oper) (i : Nat) : Option Tmp := (ops[i]?).bind (·.dst)

/-- A set of operations that holds with each one what it waits for. -/
def Down (ops : Array Oper) (L : Array Bool) : Prop := ∀ k o, L.getD k false = true → ops[k]? = some o → ∀ e, e ∈ o.after.toList → Region.binds .any e = true → L.getD e.on false = true

theorem edges_lt {ops : List Oper} : ∀ (l : List Oper) (k : Nat), edgesOK l k = true → ∀ j o e, l[j]? = some o → e ∈ o.after.toList → Region.binds .any e = true → e.on < k + j
  | [], k, _, j, o, e, hj, _, _ => by simp at hj
  | x :: l, k, h, j, o, e, hj, he, hb => by
    simp only [edgesOK, Bool.and_eq_true] at h
    cases j with
    | zero =>
      simp only [List.getElem?_cons_zero, Option.some.injEq] at hj
      subst hj
      have := List.all_eq_true.1 h.1 e he
      rw [hb] at this
      have h2 : e.on + 1 ≤ k := by simpa using Nat.le_of_ble_eq_true this
      omega
    | succ j => have := edges_lt (ops := ops) l (k + 1) h.2 j o e (by simpa using hj) he hb; omega

theorem mask_in {ops : Array Oper} {L : Array Bool} (hd : Down ops L) (hed : edgesOK ops.toList 0 = true) : ∀ (k : Nat) (o : Oper) (i : Nat), ops[k]? = some o →
    (∀ e, e ∈ o.after.toList → Region.binds .any e = true → L.getD e.on false = true) → ((masks ops.toList []).getD k 0).testBit i = true → L.getD i false = true := by
  intro k
  induction k using Nat.strongRecOn with
  | _ k ih =>
    intro o i ho hL hb
    obtain ⟨r, _, _, h3⟩ := masks_get ops.toList []
    obtain ⟨e, he, hbn, h⟩ := h3 k o i (by simpa using ho) (by simpa using hb)
    have hon := hL e he hbn
    rcases h with rfl | h
    · exact hon
    · have hlt := edges_lt (ops := ops.toList) ops.toList 0 hed k o e (by simpa using ho) he hbn
      have hk : k < ops.size := (Array.getElem?_eq_some_iff.1 ho).1
      have hoe : ops[e.on]? = some ops[e.on] := Array.getElem?_eq_getElem (by omega)
      exact ih e.on (by omega) _ i hoe (fun e' h1 h2 => hd e.on _ hon hoe e' h1 h2) h

theorem mem_ready {ops : Array Oper} {L : Array Bool} {i : Nat} (h : i ∈ Region.ready .any ops L) : ∃ o, ops[i]? = some o ∧ L.getD i true = false ∧ ∀ e, e ∈ o.after.toList → Region.binds .any e = true → L.getD e.on false = true := by
  unfold Region.ready at h
  simp only [List.mem_filter, List.mem_range, Bool.and_eq_true, Bool.not_eq_true'] at h
  obtain ⟨hi, hl, ha⟩ := h
  refine ⟨ops[i], Array.getElem?_eq_getElem hi, hl, fun e he hb => ?_⟩
  rw [Array.getElem?_eq_getElem hi] at ha
  simp only [Option.map_some, Option.getD_some] at ha
  have := Array.all_eq_true_iff_forall_mem.1 ha e (by simpa using he)
  rw [hb] at this
  simpa using this

theorem all_listed {ops : Array Oper} {L : Array Bool} (hed : edgesOK ops.toList 0 = true) (hL : L.size = ops.size) (h : Region.ready .any ops L = []) : ∀ i, i < ops.size → L.getD i false = true := by
  intro i
  induction i using Nat.strongRecOn with
  | _ i ih =>
    intro hi
    cases hq : L.getD i false with
    | true => rfl
    | false =>
      exfalso
      have hmem : i ∈ Region.ready .any ops L := by
        unfold Region.ready
        simp only [List.mem_filter, List.mem_range, Bool.and_eq_true, Bool.not_eq_true']
        refine ⟨hi, ?_, ?_⟩
        · rw [Array.getD_eq_getD_getElem?, Array.getElem?_eq_getElem (by omega)] at hq ⊢; simpa using hq
        · rw [Array.getElem?_eq_getElem hi]
          simp only [Option.map_some, Option.getD_some]
          refine Array.all_eq_true_iff_forall_mem.2 fun e he => ?_
          cases hb : Region.binds .any e with
          | false => rfl
          | true =>
            have hlt := edges_lt (ops := ops.toList) ops.toList 0 hed i ops[i] e (by simp [hi]) (by simpa using he) hb
            simpa using ih e.on (by omega) (by omega)
      rw [h] at hmem; cases hmem

/-! ### One operation, anywhere -/
theorem wpIn_out {o : Oper} {a : Act} {rd : Option Nat} {p : Prop} (h : o.wpIn (FNC rd) 0 P a w (fun _ _ => p) (fun _ _ _ => False)) : p := by
  have hroom : ∀ n, (FNC rd).room n := fun _ _ h => by cases h
  obtain ⟨_, h⟩ := h
  unfold Oper.uponIn at h
  split at h
  · exact h
  · exact h
  · exact h
  · obtain ⟨_, _, h⟩ := h
    obtain ⟨e, w', fr, hR, _⟩ := h [] (hroom _)
    cases e with
    | returned v => exact hR
    | panicked c => exact hR.elim
    | outgrown => obtain ⟨_, _, hq⟩ := hR; exact hq.elim
  · obtain ⟨_, h⟩ := h
    obtain ⟨v, w', hR, _⟩ := h default [] (hroom _)
    exact hR
  · obtain ⟨_, _, h⟩ := h
    obtain ⟨e, w', hR, _⟩ := h default [] (hroom _)
    cases e with
    | returned v => exact hR
    | panicked c => exact hR.elim
    | outgrown => obtain ⟨_, _, hq⟩ := hR; exact hq.elim
  · exact h.elim
  · exact h.elim

theorem opA_post {call : Call → TypeId → AFrame → AHeap → Option (Value × AHeap)} (hc : CallOK P call) {F : AFrame} {o : Oper} {a : Act}
    (h : opA call P F o.op o.type H = some (v, H')) (hok : okOpB o.op = true) (hr : Rel μ H w) (hρ : ∀ x, x ∈ o.op.operands.toList → VR μ (aeval F x) (a.eval x)) : ∃ μ' v' w', VR μ' v v' ∧ Post μ H w μ' H' w' :=
  wpIn_out (rd := none) (opA_wp hc h hok hr hρ fun μ' v' w' hv hp => ⟨μ', v', w', hv, hp⟩)
end
end Go.Ev
