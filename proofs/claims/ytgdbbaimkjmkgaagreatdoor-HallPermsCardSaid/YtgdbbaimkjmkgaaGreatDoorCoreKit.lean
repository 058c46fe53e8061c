/-
  Part of the engine that the claim is proved with: it states nothing of the document by itself.
-/
import Derived.Test.YtgdbbaimkjmkgaaGreatDoorCoreLink
import Derived.ProofKit
import Derived.Carry
import Derived.JoinedOf
import Derived.LaidLaws
import Derived.LaidMore
namespace Go.Ev
open Go.ChangeShapes Go.WideShapes Go.ChangeAt Go.RowKit

/-- What a law does: it answers true; nothing that was there is turned. -/
def Law (W : World) (e : Ending) (W' : World) : Prop := e = .returned (.bool true) ∧ Below W.heap.size W W'

section
variable {P : Program} {W : World} {μ : Nat → Option Loc} {H : AHeap} {σ : Sig}

/-- Out of the evaluator's call and its symbolic value: the call in the world. -/
theorem law_of_run {G : Msk} (hG : GOK P G) (hm : P.follows .mixedOrders = true) {d : Nat} {g : FuncId} {vs : List Value} {args : Array Value} {con : Con} {us : List V} (L : Link W μ H σ)
    (hv : Valid P G (ev P G d) g con) (hc : con us = some (True, .prop True)) (hl : LRel P σ (fun _ => none) us vs) (ha : AR μ ⟨vs⟩ args) : Calls P g args W (Law W) := by
  obtain ⟨v, H', σ', h1, _, _, _, _, _, hlow, hv'⟩ := hv us True _ hc trivial σ H vs L.stab hl
  obtain ⟨_, c2⟩ := callF_ok hG (ev_ok hG hm d) h1 0 L.rel ha
  refine callsIn_wide.1 (CallsIn.mono (show CallsIn Fence.wide 0 P g _ W _ from c2) fun e w' he => ?_)
  obtain ⟨μ', v', rfl, hvr, hp⟩ := he
  obtain ⟨k1, _⟩ := Post.quiet L.rel hp (hlow _ L.low (Nat.le_refl _))
  have hb : v = .bool true := by
    cases hv' with
    | prop => rw [dec_true trivial]
  subst hb
  have := hvr.eq1 rfl
  subst this
  exact ⟨rfl, hp.os, hp.tape, hp.output, hp.size, k1⟩

variable {Hh : Type} {enc : TypeId × Value → Hh}

theorem trodAll_below (hlo : laidOutB P = true) {W' : World} (hb : Below W.heap.size W W') : ∀ {ts : List TypeId} {vs : List Value} {ds : List (DataW Hh)} {ps : List MemPlace}, (∀ t ∈ ts, P.readableRec t = true ∧ t < P.types.size) →
    DataW.TrodAll enc P W 0 (fun _ => true) true ts vs ds ps → (∀ x ∈ ps, x.block < W.heap.size) → DataW.TrodAll enc P W' 0 (fun b => decide (b < W.heap.size)) true ts vs ds ps
  | [], [], [], _, _, h, _ => h
  | t :: _, _ :: _, _ :: _, _, hT, ⟨p, q, h1, h2, e⟩, hs =>
    ⟨p, q, Below.trod hlo (hT t (List.mem_cons.2 (Or.inl rfl))).1 (hT t (List.mem_cons.2 (Or.inl rfl))).2 h1 hb (fun x hx => hs x (by rw [e]; exact List.mem_append_left _ hx)),
      trodAll_below hlo hb (fun t ht => hT t (List.mem_cons.2 (Or.inr ht))) h2 (fun x hx => hs x (by rw [e]; exact List.mem_append_right _ hx)), e⟩

/-- A law's row: it answers true, each argument reads as it did. -/
theorem post_of_law (hlo : laidOutB P = true) {f : Func} {s : ChangeSpec} {args : Array Value} {ds : List (DataW Hh)} {before : List MemPlace} {W' : World} {tb : TypeId}
    (hW : DataW.Whole enc P f.params.toList s.vars false W args.toList ds [] before) (hsv : s.vars = []) (hfn : s.fn Hh (ds ++ []) = { results := [.lit (.bool true)], args := ds })
    (hT0 : (f.params.toList.all fun t => P.readableRec t && decide (t < P.types.size)) = true) (hr : f.resultTypes = #[tb]) (htb : P.underlying tb = some .bool) (hb : Below W.heap.size W W') :
    s.post enc P f false true false false W args (.bool true) W' := by
  have hT : ∀ t ∈ f.params.toList, P.readableRec t = true ∧ t < P.types.size := fun t ht => by
    have := List.all_eq_true.1 hT0 t ht
    simpa using this
  have hW' := hW
  obtain ⟨p, q, hA, hV, rfl, _, _⟩ := hW
  rw [hsv] at hV
  obtain ⟨_, rfl⟩ := trodVars_none hV
  have hv : (s.fn Hh (ds ++ [])).vars = [] := by rw [hfn]
  refine ⟨ds, [], _, [], p, [], hW', ?_, ?_, ?_, ?_, fun h => by cases h⟩
  · rw [hfn, hr]
    exact trodAll_mk1 (shut_bool htb true)
  · rw [hfn]
    exact trodAll_below hlo hb hT hA (fun x hx => hW'.lt x (by simpa using hx))
  · rw [hsv, hv]
    rfl
  · exact hb.frame _

/-- A law of two rows of integers. -/
theorem law_two_ints {G : Msk} (hG : GOK P G) (hm : P.follows .mixedOrders = true) {d : Nat} {g : FuncId} {con : Con} {t e : TypeId} {k : IntKind} (hv : Valid P G (ev P G d) g con)
    (hc : ∀ D0 D1, con [.dat t D0, .dat t D1] = some (True, .prop True)) (ht : P.underlying t = some (.slice e)) (he : P.underlying e = some (.int k)) (hc1 : P.cellsOf e = 1) (hs1 : sizeT P t = some 1) (hz : sizeT P e = some 1)
    {r : Reach} {b0 : Nat} {v0 v1 : Value} {d0 d1 : DataW Hh} {p0 p1 : List MemPlace} (h0 : Value.okWide P W r b0 t v0) (h1 : Value.okWide P W r b0 t v1)
    (t0 : DataW.Trod enc P W 0 (fun _ => true) true t v0 d0 p0) (t1 : DataW.Trod enc P W 0 (fun _ => true) true t v1 d1 p1) : Calls P g #[v0, v1] W (Law W) := by
  obtain ⟨μ1, H1, σ1, a0, D0, L1, _, _, r1, ra1, _⟩ := ints_arg ht he hc1 hs1 hz (Link.empty W) h0 t0
  obtain ⟨μ2, H2, σ2, a1, D1, L2, x2, s2, r2, ra2, _⟩ := ints_arg ht he hc1 hs1 hz L1 h1 t1
  have hl : LRel P σ2 (fun _ => none) [.dat t D0, .dat t D1] [a0, a1] := by
    refine ⟨rfl, fun j v v' hj hj' => ?_⟩
    match j, hj, hj' with
    | 0, hj, hj' => cases hj; cases hj'; exact .dat ht (ra1.mono s2)
    | 1, hj, hj' => cases hj; cases hj'; exact .dat ht ra2
    | j + 2, hj, _ => simp at hj
  have hA : AR μ2 ⟨[a0, a1]⟩ #[v0, v1] := by
    refine ⟨rfl, fun j v v' hj hj' => ?_⟩
    match j, hj, hj' with
    | 0, hj, hj' => cases hj; cases hj'; exact r1.mono x2
    | 1, hj, hj' => cases hj; cases hj'; exact r2
    | j + 2, hj, _ => simp at hj
  exact law_of_run hG hm L2 hv (hc D0 D1) hl hA

end
end Go.Ev
