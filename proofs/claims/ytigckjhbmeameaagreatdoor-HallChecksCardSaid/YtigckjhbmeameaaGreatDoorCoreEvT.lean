/-
  Part of the engine that the claim is proved with: it states nothing of the document by itself.
-/
import Derived.Test.YtigckjhbmeameaaGreatDoorCoreEvQ

namespace Go.Ev
open Go.RowKit
section
variable {P : Program} {μ : Nat → Option Loc} {H H' : AHeap} {w : World} {v : Value}

theorem eszIs_ok {i s : Nat} {p : Loc} (hr : Rel μ H w) (h : eszIs H i s = true) (hp : μ i = some p) : p.esz = s := by
  unfold eszIs at h
  split at h
  · rename_i cs e m ro hg
    obtain ⟨_, _, _, _, _, h3, _⟩ := hr.cells _ _ _ _ _ _ _ hg hp
    exact h3.1.trans (Nat.eq_of_beq_eq_true h)
  · cases h

def Bd (P : Program) (w : World) (x' : Option Value) (Y d n : Nat) (code : BoundsCode) : Prop := (x' = none ∧ n = d) ∨ (∃ a, x' = some a ∧ (Instr.sliceBound a Y code).run P w = .ok n w)
theorem boundA_bd {x x' : Option Value} {y d n Y : Nat} {code : BoundsCode} (h : boundA x y d = some n) (hy : y ≤ Y) (hx : OVR μ x x') : Bd P w x' Y d n code ∧ (x = none ∧ n = d ∨ n ≤ y) := by
  rcases boundA_ok (P := P) (w := w) (code := code) (Y := Y) h hy hx.1 hx.2 with ⟨h1, h2, h3⟩ | ⟨a, h2, h3, h4⟩
  · exact ⟨.inl ⟨h2, h3⟩, .inl ⟨h1, h3⟩⟩
  · exact ⟨.inr ⟨a, h2, h3⟩, .inr h4⟩

theorem slice_run {t elem : TypeId} {size len cap hh l : Nat} {ad : Option Addr} {lo' hi' : Option Value} (hu : P.underlying t = some (.slice elem)) (hs : sizeT P elem = some size)
    (hH : Bd P w hi' cap len hh .sliceAcap) (hL : Bd P w lo' hh 0 l .sliceB) :
    (Instr.slice t (.slice ad len cap) lo' hi' none).run P w = .ok (.slice (if cap = l then ad else ad.map (·.add (l * size))) (hh - l) (cap - l)) w := by
  unfold Instr.slice
  rcases hH with ⟨rfl, rfl⟩ | ⟨b, rfl, hb⟩ <;> rcases hL with ⟨rfl, rfl⟩ | ⟨a, rfl, ha⟩ <;>
    simp [run_underlying hu, Instr.sliceBounds, run_sizeT hs, *]

theorem slice_run_max {t elem : TypeId} {size len cap m hh l : Nat} {ad : Option Addr} {lo' : Option Value} {b c : Value} (hu : P.underlying t = some (.slice elem)) (hs : sizeT P elem = some size)
    (hM : (Instr.sliceBound c cap .slice3Acap).run P w = .ok m w) (hH : (Instr.sliceBound b m .slice3B).run P w = .ok hh w) (hL : Bd P w lo' hh 0 l .slice3C) :
    (Instr.slice t (.slice ad len cap) lo' (some b) (some c)).run P w = .ok (.slice (if m = l then ad else ad.map (·.add (l * size))) (hh - l) (m - l)) w := by
  unfold Instr.slice
  rcases hL with ⟨rfl, rfl⟩ | ⟨a, rfl, ha⟩ <;>
    simp [run_underlying hu, Instr.sliceBounds, run_sizeT hs, *]

theorem sliceAt_run {t elem : TypeId} {x' : Value} {lo' hi' mx' : Option Value} (hu : P.underlying t = some (.slice elem)) : (Instr.sliceAt t x' lo' hi' mx').run P w = (Instr.slice t x' lo' hi' mx').run P w := by
  simp only [Instr.sliceAt, Sem.run_bind, run_underlying hu, Result.andThen_ok]

theorem room {o c l m size n : Nat} (h : o + c * size ≤ n) (hm : m ≤ c) (hl : l ≤ m) : o + l * size + (m - l) * size ≤ n := by
  have h1 := Nat.sub_mul m l size
  have h2 := Nat.mul_le_mul_right size hl
  have h3 := Nat.mul_le_mul_right size hm
  omega

theorem sliceA_ok {t : TypeId} {x x' : Value} {lo hi mx lo' hi' mx' : Option Value} (hr : Rel μ H w) (h : sliceA P H t x lo hi mx = some v) (hx : VR μ x x') (hlo : OVR μ lo lo') (hhi : OVR μ hi hi') (hmx : OVR μ mx mx') :
    OpOK P (Instr.sliceAt t x' lo' hi' mx') v μ H w H := by
  unfold sliceA at h
  split at h
  · rename_i elem i o len cap hu
    split at h
    · cases h
    · rename_i size hs
      cases hes : eszIs H i size with
      | false => simp [hes] at h
      | true =>
        simp only [hes, cond_true] at h
        cases hcap : Nat.beq cap UNK with
        | true =>
          have hcu : cap = UNK := Nat.eq_of_beq_eq_true hcap
          simp only [hcap, cond_true] at h
          split at h
          · cases h
          · have hmx0 := hmx.2 rfl
            subst hmx0
            split at h
            · cases h
            · rename_i hh hhb
              split at h
              · cases h
              · rename_i l hlb
                simp only [Option.some.injEq] at h
                subst h
                rcases hx.slice_inv with ⟨p, c', hp, rfl, hl, hn, _⟩ | ⟨rfl, _, a, rfl⟩
                · have hpe := eszIs_ok hr hes hp
                  obtain ⟨bH, cH⟩ := boundA_bd (P := P) (w := w) (code := .sliceAcap) (Y := c') hhb hl hhi
                  obtain ⟨bL, cL⟩ := boundA_bd (P := P) (w := w) (code := .sliceB) (Y := hh) hlb (Nat.le_refl _) hlo
                  have hle : hh ≤ len := by rcases cH with ⟨_, rfl⟩ | h <;> omega
                  have hl2 : l ≤ hh := by rcases cL with ⟨_, rfl⟩ | h <;> omega
                  have hrun := slice_run (P := P) (w := w) (ad := some ⟨p.b, p.base + o, none⟩) hu hs bH bL
                  by_cases e : c' = l
                  · rw [if_pos e, show hh - l = 0 by omega, show c' - l = 0 by omega] at hrun
                    refine ⟨μ, _, w, (sliceAt_run hu).trans hrun, ?_, .refl hr⟩
                    rw [show hh - l = 0 by omega]
                    exact .slice0
                  · rw [if_neg e] at hrun
                    simp only [Option.map_some, add_at] at hrun
                    refine ⟨μ, _, w, (sliceAt_run hu).trans hrun, ?_, .refl hr⟩
                    rw [Nat.add_assoc]
                    refine .sliceU hp (by omega) ?_
                    rw [hpe] at hn ⊢
                    exact room hn (Nat.le_refl _) (by omega)
                · obtain ⟨bH, cH⟩ := boundA_bd (P := P) (w := w) (code := .sliceAcap) (Y := 0) hhb (Nat.le_refl _) hhi
                  obtain ⟨bL, cL⟩ := boundA_bd (P := P) (w := w) (code := .sliceB) (Y := hh) hlb (Nat.le_refl _) hlo
                  have h0 : hh = 0 := by rcases cH with ⟨_, rfl⟩ | h <;> omega
                  have hl2 : l = 0 := by rcases cL with ⟨_, rfl⟩ | h <;> omega
                  subst h0 hl2
                  have hrun := slice_run (P := P) (w := w) (ad := some a) hu hs bH bL
                  exact ⟨μ, .slice (some a) 0 0, w, (sliceAt_run hu).trans hrun, .slice0, .refl hr⟩
        | false =>
          simp only [hcap, cond_false] at h
          cases hlt : Nat.blt cap UNK with
          | false => simp [hlt] at h
          | true =>
            have hlt' : cap < UNK := blt_lt hlt
            simp only [hlt, cond_true] at h
            obtain ⟨p, hp, rfl, hl, hn⟩ : ∃ p, μ i = some p ∧ x' = .slice (some ⟨p.b, p.base + o, none⟩) len cap ∧ len ≤ cap ∧ o + cap * p.esz ≤ p.n := by
              rcases hx.slice_inv with ⟨p, c', hp, rfl, hl, hn, hc⟩ | ⟨_, hc, _⟩
              · rcases hc with hc | rfl
                · omega
                · exact ⟨p, hp, rfl, hl, hn⟩
              · omega
            have hpe := eszIs_ok hr hes hp
            rw [hpe] at hn
            have fin : ∀ {m hh l : Nat}, l ≤ hh → hh ≤ m → m ≤ cap → (Instr.slice t (.slice (some ⟨p.b, p.base + o, none⟩) len cap) lo' hi' mx').run P w = .ok (.slice (if m = l then some ⟨p.b, p.base + o, none⟩ else (some (⟨p.b, p.base + o, none⟩ : Addr)).map (·.add (l * size))) (hh - l) (m - l)) w →
                OpOK P (Instr.sliceAt t (.slice (some ⟨p.b, p.base + o, none⟩) len cap) lo' hi' mx') (.slice (some ⟨i, cond (Nat.beq m l) o (o + l * size), none⟩) (hh - l) (m - l)) μ H w H := by
              intro m hh l h1 h2 h3 hrun
              by_cases e : m = l
              · subst e
                rw [if_pos rfl] at hrun
                rw [Nat.beq_refl, cond_true]
                refine ⟨μ, _, w, (sliceAt_run hu).trans hrun, .slice hp (by omega) (by omega) ?_, .refl hr⟩
                have := Nat.zero_le (cap * size); simp; omega
              · rw [if_neg e] at hrun
                simp only [Option.map_some, add_at] at hrun
                rw [beqF e, cond_false]
                refine ⟨μ, _, w, (sliceAt_run hu).trans hrun, ?_, .refl hr⟩
                rw [Nat.add_assoc]
                refine .slice hp (by omega) (by omega) ?_
                rw [hpe]
                exact room hn h3 (by omega)
            split at h
            · cases h
            · rename_i m hm
              split at h
              · cases h
              · rename_i hnm
                split at h
                · cases h
                · rename_i hh hhb
                  split at h
                  · cases h
                  · rename_i l hlb
                    simp only [Option.some.injEq] at h
                    subst h
                    cases mx with
                    | none =>
                      have hmx0 := hmx.2 rfl
                      subst hmx0
                      simp only [boundA, Option.some.injEq] at hm
                      subst hm
                      obtain ⟨bH, cH⟩ := boundA_bd (P := P) (w := w) (code := .sliceAcap) (Y := cap) hhb (Nat.le_refl _) hhi
                      obtain ⟨bL, cL⟩ := boundA_bd (P := P) (w := w) (code := .sliceB) (Y := hh) hlb (Nat.le_refl _) hlo
                      exact fin (by rcases cL with ⟨_, rfl⟩ | h <;> omega) (by rcases cH with ⟨_, rfl⟩ | h <;> omega) (Nat.le_refl _) (slice_run hu hs bH bL)
                    | some mxv =>
                      cases hi with
                      | none => exact (hnm _ rfl rfl).elim
                      | some hiv =>
                        obtain ⟨bM, cM⟩ := boundA_bd (P := P) (w := w) (code := .slice3Acap) (Y := cap) hm (Nat.le_refl _) hmx
                        obtain ⟨bH, cH⟩ := boundA_bd (P := P) (w := w) (code := .slice3B) (Y := m) hhb (Nat.le_refl _) hhi
                        obtain ⟨bL, cL⟩ := boundA_bd (P := P) (w := w) (code := .slice3C) (Y := hh) hlb (Nat.le_refl _) hlo
                        have n1 : ∀ {x : Value} {x' : Option Value}, OVR μ (some x) x' → x' ≠ none := fun h e => by obtain ⟨a, ha, _⟩ := h.1 _ rfl; rw [e] at ha; cases ha
                        rcases bM with ⟨h0, _⟩ | ⟨c, rfl, hc⟩
                        · exact absurd h0 (n1 hmx)
                        · rcases bH with ⟨h0, _⟩ | ⟨b, rfl, hb⟩
                          · exact absurd h0 (n1 hhi)
                          · refine fin (by rcases cL with ⟨_, rfl⟩ | h <;> omega) (by rcases cH with ⟨h, _⟩ | h; cases h; exact h) (by rcases cM with ⟨h, _⟩ | h; cases h; exact h) (slice_run_max hu hs hc hb bL)
  · cases h

theorem sliceO_ok {t : TypeId} {x x' : Value} {lo hi mx lo' hi' mx' : Option Value} (hr : Rel μ H w) (h : sliceO P t x lo hi mx H = some (v, H')) (hx : VR μ x x') (hlo : OVR μ lo lo') (hhi : OVR μ hi hi') (hmx : OVR μ mx mx') :
    OpOK P (Instr.sliceAt t x' lo' hi' mx') v μ H w H' := by
  unfold sliceO at h
  split at h
  · rename_i u hs
    simp only [Option.some.injEq, Prod.mk.injEq] at h
    obtain ⟨rfl, rfl⟩ := h
    exact sliceA_ok hr hs hx hlo hhi hmx
  · cases hf : (Ev.flat x && lo.all Ev.flat && hi.all Ev.flat && mx.all Ev.flat) with
    | false => simp [hf] at h
    | true =>
      simp only [hf, cond_true] at h
      simp only [Bool.and_eq_true] at hf
      have := hx.eq hf.1.1.1; subst this
      have ov : ∀ {y y' : Option Value}, OVR μ y y' → y.all Ev.flat = true → y' = y := fun {y y'} hy hfy => by
        cases y with
        | none => exact hy.2 rfl
        | some a => obtain ⟨a', ha, hv⟩ := hy.1 a rfl; rw [ha, hv.eq (by simpa using hfy)]
      rw [ov hlo hf.1.1.2, ov hhi hf.1.2, ov hmx hf.2]
      exact .of_flatVal hr h
end
end Go.Ev
