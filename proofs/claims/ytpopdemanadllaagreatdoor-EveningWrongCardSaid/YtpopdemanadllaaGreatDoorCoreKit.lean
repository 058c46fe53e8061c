/-
  Part of the engine that the claim is proved with: it states nothing of the document by itself.
-/
import Derived.Test.YtpopdemanadllaaGreatDoorCoreLink
import Derived.ProofKit
import Derived.Carry
import Derived.JoinedOf
import Derived.LaidLaws
import Derived.LaidMore

namespace Go.Ev
abbrev fits64 (z : Int) : Prop := -9223372036854775808 ≤ z ∧ z < 9223372036854775808
open Go.ChangeShapes Go.WideShapes Go.ChangeAt Go.RowKit
def Law (W : World) (e : Ending) (W' : World) : Prop := e = .returned (.bool true) ∧ Below W.heap.size W W'
section
variable {P : Program} {W : World} {μ : Nat → Option Loc} {H : AHeap} {σ : Sig}
theorem law_of_runP {G : Msk} (hG : GOK P G) (hm : P.follows .mixedOrders = true) {d : Nat} {g : FuncId} {vs : List Value} {args : Array Value} {con : Con} {us : List V} (L : Link W μ H σ)
  (hv : Valid P G (ev P G d) g con) {p : Prop} (hc : con us = some (p, .prop True)) (hp : p) (hl : LRel P σ (fun _ => none) us vs) (ha : AR μ ⟨vs⟩ args) : Calls P g args W (Law W) := by
 obtain ⟨v, H', σ', h1, _, _, _, _, _, hlow, hv'⟩ := hv us p _ hc hp σ H vs L.stab hl
 obtain ⟨_, c2⟩ := callF_ok hG (ev_ok hG hm d) h1 0 L.rel ha
 refine callsIn_wide.1 (CallsIn.mono (show CallsIn Fence.wide 0 P g _ W _ from c2) fun e w' he => ?_)
 obtain ⟨μ', v', rfl, hvr, hp⟩ := he
 obtain ⟨k1, _⟩ := Post.quiet L.rel hp (hlow _ L.low (Nat.le_refl _))
 have hb : v = .bool true := by
  cases hv' with
  | prop => rw [dec_true trivial]
 subst hb
 have := hvr.eq1 rfl
 subst this
 exact ⟨rfl, hp.os, hp.tape, hp.output.out, hp.size, k1⟩
variable {Hh : Type} {enc : TypeId × Value → Hh}
theorem trodAll_below (hlo : laidOutB P = true) {W' : World} (hb : Below W.heap.size W W') : ∀ {ts : List TypeId} {vs : List Value} {ds : List (DataW Hh)} {ps : List MemPlace}, (∀ t ∈ ts, P.readableRec t = true ∧ t < P.types.size) →
  DataW.TrodAll enc P W 0 (fun _ => true) true ts vs ds ps → (∀ x ∈ ps, x.block < W.heap.size) → DataW.TrodAll enc P W' 0 (fun b => decide (b < W.heap.size)) true ts vs ds ps
 | [], [], [], _, _, h, _ => h
 | t :: _, _ :: _, _ :: _, _, hT, ⟨p, q, h1, h2, e⟩, hs =>
  ⟨p, q, Below.trod hlo (hT t (List.mem_cons.2 (Or.inl rfl))).1 (hT t (List.mem_cons.2 (Or.inl rfl))).2 h1 hb (fun x hx => hs x (by rw [e]; exact List.mem_append_left _ hx)),
   trodAll_below hlo hb (fun t ht => hT t (List.mem_cons.2 (Or.inr ht))) h2 (fun x hx => hs x (by rw [e]; exact List.mem_append_right _ hx)), e⟩
theorem post_of_law (hlo : laidOutB P = true) {f : Func} {s : ChangeSpec} {args : Array Value} {ds : List (DataW Hh)} {before : List MemPlace} {W' : World} {tb : TypeId}
  (hW : DataW.Whole enc P f.params.toList s.vars false W args.toList ds [] before) (hsv : s.vars = []) (hfn : s.fn Hh (ds ++ []) = { results := [.lit (.bool true)], args := ds })
  (hT0 : (f.params.toList.all fun t => P.readableRec t && decide (t < P.types.size)) = true) (hr : f.resultTypes = #[tb]) (htb : P.underlying tb = some .bool) (hb : Below W.heap.size W W') :
  s.post enc P f false true false false W args (.bool true) W' := by
 have hT : ∀ t ∈ f.params.toList, P.readableRec t = true ∧ t < P.types.size := fun t ht => by
  have := List.all_eq_true.1 hT0 t ht
  simpa using this
 have hW' := hW
 obtain ⟨p, q, hA, hV, rfl, _, _⟩ := hW
 rw [hsv] at hV
 obtain ⟨_, rfl⟩ := trodVars_none hV
 have hv : (s.fn Hh (ds ++ [])).vars = [] := by rw [hfn]
 refine ⟨ds, [], _, [], p, [], hW', ?_, ?_, ?_, ?_, fun h => by cases h⟩
 ·rw [hfn, hr]
  exact trodAll_mk1 (shut_bool htb true)
 ·rw [hfn]
  exact trodAll_below hlo hb hT hA (fun x hx => hW'.lt x (by simpa using hx))
 ·rw [hsv, hv]
  rfl
 ·exact hb.frame _
end
end Go.Ev
namespace Go.Ev
open Go.ChangeShapes Go.WideShapes Go.ChangeAt Go.RowKit
section
variable {P : Program} {W : World} {Hh : Type} {enc : TypeId × Value → Hh} {base : Nat} {held : Bool}
noncomputable def withArgs (P : Program) : List TypeId → List D → (List V → Prop) → Prop
 | [], [], K => K []
 | t :: ts, d :: ds, K => withCells P t d fun u => withArgs P ts ds fun us => K (u :: us)
 | _, _, _ => False
theorem okWide_arr {r : Reach} {b0 : Nat} {n : Nat} {e t : TypeId} {v : Value} (ht : P.underlying t = some (.array n e)) (h : Value.okWide P W r b0 t v) : ∃ cs, v = .agg cs := by
 simp only [Value.okWide, ht] at h
 obtain ⟨cs, h1, _⟩ := h
 exact ⟨cs, h1⟩
theorem okWide_one {r : Reach} {b0 : Nat} {t : TypeId} {v : Value} (hl : linkB P 20 t = true) (h : Value.okWide P W r b0 t v) : (∃ cs, v = .agg cs ∧ isAggT P t = some true) ∨ (v.cells = #[v] ∧ isAggT P t = some false) := by
 unfold linkB at hl
 split at hl
 ·rename_i k hu; obtain ⟨n, rfl⟩ := okWide_int hu h; exact .inr ⟨rfl, by unfold isAggT; rw [hu]⟩
 ·rename_i hu; obtain ⟨n, rfl⟩ := okWide_bool hu h; exact .inr ⟨rfl, by unfold isAggT; rw [hu]⟩
 ·rename_i hu; obtain ⟨n, rfl⟩ := okWide_string hu h; exact .inr ⟨rfl, by unfold isAggT; rw [hu]⟩
 ·rename_i e hu; obtain ⟨a, len, cap, rfl⟩ := okWide_slice hu h; exact .inr ⟨rfl, by unfold isAggT; rw [hu]⟩
 ·rename_i fs hu; obtain ⟨cs, rfl, _⟩ := okWide_struct hu h; exact .inl ⟨cs, rfl, by unfold isAggT; rw [hu]⟩
 ·rename_i n e hu; obtain ⟨cs, rfl⟩ := okWide_arr hu h; exact .inl ⟨cs, rfl, by unfold isAggT; rw [hu]⟩
 ·cases hl
theorem arg_link {r : Reach} {b0 : Nat} {t : TypeId} {v : Value} {d : DataW Hh} {ps : List MemPlace} (hl : linkB P 20 t = true) (hval : Value.okWide P W r b0 t v) (hd : DataW.Trod enc P W base (fun _ => true) held t v d ps) (hw : ∀ n ∈ d.weights P t, n ≤ reachBytes)
  {μ : Nat → Option Loc} {H : AHeap} {σ : Sig} (L : Link W μ H σ) :
  ∃ (μ' : Nat → Option Loc) (H' : AHeap) (σ' : Sig) (v0 : Value) (D : D), Link W μ' H' σ' ∧ Ext μ μ' ∧ XS σ σ' ∧ VR μ' v0 v ∧ okD P 20 t D ∧ (∀ Kv, withCells P t D Kv → ∃ u, Kv u ∧ VRel P σ' (fun _ => none) u v0) := by
 obtain ⟨fuel, hf⟩ := hd
 obtain ⟨μ', H', σ', cs0, D, L', hx, hs, hv, hr, hok⟩ := trod_link 20 t hl fuel _ _ hf hw μ H σ L
 rcases okWide_one hl hval with ⟨cs, rfl, hagg⟩ | ⟨hc, hagg⟩
 ·refine ⟨μ', H', σ', .agg ⟨cs0⟩, D, L', hx, hs, .agg (by have := hv.1; simpa [Value.cells] using this) (fun j a b h1 h2 => hv.2 j a b (by simpa using h1) (by simpa [Value.cells] using h2)), hok, fun Kv h => ?_⟩
  unfold withCells at h
  split at h
  ·rename_i vs h1 _
   have := cellsOf_ok (ν := fun _ => none) 20 t D cs0 vs hr h1
   exact ⟨_, h, .agg this.1 this.2⟩
  ·rename_i h2; rw [hagg] at h2; cases h2
  ·exact h.elim
 ·rw [hc] at hv
  obtain ⟨v0, rfl⟩ : ∃ v0, cs0 = [v0] := by
   have h1 := hv.1
   match cs0, h1 with
   | [a], _ => exact ⟨a, rfl⟩
  refine ⟨μ', H', σ', v0, D, L', hx, hs, hv.2 0 v0 v rfl rfl, hok, fun Kv h => ?_⟩
  unfold withCells at h
  split at h
  ·rename_i h2; rw [hagg] at h2; cases h2
  ·rename_i u h1 _
   have := cellsOf_ok (ν := fun _ => none) 20 t D _ _ hr h1
   exact ⟨u, h, this.2 0 u v0 rfl rfl⟩
  ·exact h.elim
def okDs (P : Program) : List TypeId → List D → Prop
 | [], [] => True
 | t :: ts, d :: ds => okD P 20 t d ∧ okDs P ts ds
 | _, _ => False
theorem args_link {r : Reach} {b0 : Nat} : ∀ {ts : List TypeId} {vs : List Value} {ds : List (DataW Hh)} {ps : List MemPlace}, (ts.all fun t => linkB P 20 t) = true → (∀ (j : Nat) (t : TypeId) (v : Value), ts[j]? = some t → vs[j]? = some v → Value.okWide P W r b0 t v) →
  DataW.TrodAll enc P W base (fun _ => true) held ts vs ds ps → (∀ n ∈ DataW.weightsEach P ts ds, n ≤ reachBytes) → ∀ {μ : Nat → Option Loc} {H : AHeap} {σ : Sig}, Link W μ H σ →
  ∃ (μ' : Nat → Option Loc) (H' : AHeap) (σ' : Sig) (vs0 : List Value) (Ds : List D), Link W μ' H' σ' ∧ Ext μ μ' ∧ XS σ σ' ∧ VRs μ' vs0 vs ∧ Ds.length = ts.length ∧ okDs P ts Ds ∧ (∀ K, withArgs P ts Ds K → ∃ us, K us ∧ LRel P σ' (fun _ => none) us vs0)
 | [], [], [], _, _, _, _, _, μ, H, σ, L => ⟨μ, H, σ, [], [], L, .refl _, .refl _, .nil, rfl, trivial, fun K h => ⟨[], h, .nil⟩⟩
 | t :: ts, v :: vs, d :: ds, ps, hl, hv, ⟨p, q, h1, h2, _⟩, hw, μ, H, σ, L => by
  simp only [List.all_cons, Bool.and_eq_true] at hl
  obtain ⟨μ1, H1, σ1, v0, D0, L1, x1, s1, r1, o1, k1⟩ := arg_link hl.1 (hv 0 t v rfl rfl) h1 (fun n hn => hw n (by simp only [DataW.weightsEach, List.mem_append]; exact .inl hn)) L
  obtain ⟨μ2, H2, σ2, vs0, Ds, L2, x2, s2, r2, hlen, o2, k2⟩ := args_link hl.2 (fun j t v a b => hv (j + 1) t v (by simpa using a) (by simpa using b)) h2 (fun n hn => hw n (by simp only [DataW.weightsEach, List.mem_append]; exact .inr hn)) L1
  refine ⟨μ2, H2, σ2, v0 :: vs0, D0 :: Ds, L2, x1.trans x2, s1.trans s2, (VRs.one (r1.mono x2)).append r2, by simp [hlen], ⟨o1, o2⟩, fun K h => ?_⟩
  obtain ⟨u, h, hu⟩ := k1 _ (show withCells P t D0 (fun u => withArgs P ts Ds fun us => K (u :: us)) from h)
  obtain ⟨us, h, hus⟩ := k2 _ h
  exact ⟨u :: us, h, .cons (hu.mono s2 (.refl _)) hus⟩
 | [], _ :: _, _, _, _, _, h, _, _, _, _, _ => h.elim
 | [], [], _ :: _, _, _, _, h, _, _, _, _, _ => h.elim
 | _ :: _, [], _, _, _, _, h, _, _, _, _, _ => h.elim
 | _ :: _, _ :: _, [], _, _, _, h, _, _, _, _, _ => h.elim
theorem law_typed (hW : LaidG W) {G : Msk} (hG : GOK P G) (hm : P.follows .mixedOrders = true) {d : Nat} {g : FuncId} {con : Con} {ts : List TypeId} (hv : Valid P G (ev P G d) g con)
  (hc : ∀ Ds : List D, Ds.length = ts.length → okDs P ts Ds → withArgs P ts Ds fun us => ∃ p, con us = some (p, .prop True) ∧ p) (hl : (ts.all fun t => linkB P 20 t) = true)
  {r : Reach} {b0 : Nat} {vs : List Value} {ds : List (DataW Hh)} {ps : List MemPlace} (hok : ∀ (j : Nat) (t : TypeId) (v : Value), ts[j]? = some t → vs[j]? = some v → Value.okWide P W r b0 t v)
  (ht : DataW.TrodAll enc P W 0 (fun _ => true) true ts vs ds ps) (hw : (DataW.weightsEach P ts ds).all (· ≤ reachBytes) = true) : Calls P g ⟨vs⟩ W (Law W) := by
 obtain ⟨μ, H, σ, vs0, Ds, L, _, _, hr, hlen, hod, hk⟩ := args_link hl hok ht (fun n hn => of_decide_eq_true (List.all_eq_true.1 hw n hn)) (Link.start hW)
 obtain ⟨us, ⟨p, h1, hp⟩, h2⟩ := hk _ (hc Ds hlen hod)
 exact law_of_runP hG hm L hv h1 hp h2 ⟨by have := hr.1; simpa using this, fun j v v' a b => hr.2 j v v' (by simpa using a) (by simpa using b)⟩
end
end Go.Ev
namespace Go.Ev
noncomputable def normV0 : V → V
 | .val (.int k n) => .int k n
 | .val (.bool b) => .prop (isProp b)
 | .val (.string b) => .str b.data.toList
 | v => v
theorem normV0_rel {P : Program} {σ : Sig} {ν : Nu} {v : V} {v' : Value} (h : VRel P σ ν v v') : VRel P σ ν (normV0 v) v' := by
 cases h with
 | val hf =>
  cases v' <;> first | exact .int | exact .str | exact .val hf | skip
  rename_i b
  have := VRel.prop (P := P) (σ := σ) (ν := ν) (p := isProp b)
  have e : dec (isProp b) = b := dec_eq (b := b) (show isProp b ↔ b = true from Iff.rfl)
  rw [e] at this
  exact this
 | undef => exact .undef
 | int => exact .int
 | prop => exact .prop
 | str => exact .str
 | agg h1 h2 => exact .agg h1 h2
 | tup h1 h2 => exact .tup h1 h2
 | ptr h => exact .ptr h
 | ept h => exact .ept h
 | epf h hu hf => exact .epf h hu hf
 | slcU h => exact .slcU h
 | osl h hc => exact .osl h hc
 | oel h => exact .oel h
 | yld h => exact .yld h
 | slc h hc hn ho => exact .slc h hc hn ho
 | dat ht h => exact .dat ht h
 | dpt hi hs h0 hl h => exact .dpt hi hs h0 hl h
 | fn h1 h2 h3 h4 => exact .fn h1 h2 h3 h4
 | fndN => exact .fndN
 | fnd a b c d e f => exact .fnd a b c d e f
noncomputable def normV : V → V
 | .agg cs => .agg (cs.map normV0)
 | v => normV0 v
theorem normV_rel {P : Program} {σ : Sig} {ν : Nu} {v : V} {v' : Value} (h : VRel P σ ν v v') : VRel P σ ν (normV v) v' := by
 unfold normV
 split
 ·cases h with
  | agg h1 h2 =>
   refine .agg (by simpa using h1) fun j u u' hj hj' => ?_
   rw [List.getElem?_map] at hj
   rename_i cs _
   cases ha : cs[j]? with
   | none => rw [ha] at hj; cases hj
   | some w =>
    rw [ha] at hj
    simp only [Option.map_some, Option.some.injEq] at hj
    subst hj
    exact normV0_rel (h2 j w u' ha hj')
 ·exact normV0_rel h
noncomputable def extC (c : Con) : Con := fun us => c (us.map normV)
theorem valid_ext {P : Program} {G : Msk} {run : Run} {g : FuncId} {c : Con} (h : Valid P G run g c) : Valid P G run g (extC c) := by
 intro as p r hc hp σ H vs hst hl
 refine h (as.map normV) p r hc hp σ H vs hst ⟨by simpa using hl.1, fun j v v' hj hj' => ?_⟩
 rw [List.getElem?_map] at hj
 cases ha : as[j]? with
 | none => rw [ha] at hj; cases hj
 | some u =>
  rw [ha] at hj
  simp only [Option.map_some, Option.some.injEq] at hj
  subst hj
  exact normV_rel (hl.2 j u v' ha hj')
end Go.Ev
