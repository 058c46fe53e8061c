/-
  Part of the engine that the claim is proved with: it states nothing of the document by itself.
-/
import Derived.Test.YtpopdemanadllaaGreatDoorCoreSeC
import Derived.Test.YtpopdemanadllaaGreatDoorCoreG3
import Derived.ChangeSlices
import Derived.WideShapes
import Derived.ProofKit
import Derived.SizedLaws
import Derived.OpenShut

namespace Go.Ev
open Go.ChangeShapes Go.WideShapes Go.ChangeAt Go.RowKit
section
variable {P : Program} {W : World} {μ : Nat → Option Loc} {H : AHeap} {σ : Sig}
structure Link (W : World) (μ : Nat → Option Loc) (H : AHeap) (σ : Sig) : Prop where
 rel : Rel μ H W
 stab : Stab σ H
 low : H.next ≤ H.wlow
 ros : ∀ i, H.get i ≠ none → H.ro i = true
 sig : ∀ i, H.next ≤ i → σ i = none
noncomputable def sigG : Sig := fun i => ((default : GTab).l.find? fun p => Nat.beq p.g i).map fun p => (p.cs, 0)
theorem sigG_some {i : Nat} {c : List Value × Nat} (h : sigG i = some c) : ∃ x, ((default : GTab).l.find? fun p => Nat.beq p.g i) = some x ∧ x ∈ (default : GTab).l ∧ x.g = i ∧ c = (x.cs, 0) := by
 unfold sigG at h
 cases hf : ((default : GTab).l.find? fun p => Nat.beq p.g i) with
 | none => rw [hf] at h; cases h
 | some x =>
  rw [hf] at h
  exact ⟨x, rfl, List.mem_of_find?_eq_some hf, Nat.eq_of_beq_eq_true (List.find?_some (p := fun p : GVar => Nat.beq p.g i) hf), (Option.some.inj h).symm⟩
theorem Link.start {W : World} (hw : LaidG W) : Link W GM GH sigG where
 rel := Rel.start hw
 stab := by
  refine ⟨fun i c h => ?_, fun x hx => ?_⟩
  ·obtain ⟨x, h1, h2, h3, rfl⟩ := sigG_some h
   refine ⟨by have := (hw x h2).1; rw [h3] at this; exact this, x.e, none, true, ?_⟩
   rw [GH_get, h1]; rfl
  ·unfold sigG
   cases hf : ((default : GTab).l.find? fun p => Nat.beq p.g x.g) with
   | none => exact absurd (List.find?_eq_none.1 hf x hx) (by simp)
   | some y =>
    have hm := List.mem_of_find?_eq_some hf
    have e : y.g = x.g := Nat.eq_of_beq_eq_true (List.find?_some (p := fun p : GVar => Nat.beq p.g x.g) hf)
    obtain ⟨_, _, arr, fz, ha, hb⟩ := hw x hx
    obtain ⟨_, _, arr', fz', ha', hb'⟩ := hw y hm
    rw [e, ha] at ha'
    simp only [Option.some.injEq, Obj.cells.injEq] at ha'
    show some (y.cs, 0) = _
    rw [← hb', ← ha'.1, hb]
 low := Nat.le_refl _
 ros i hi := by
  cases hg : GH.get i with
  | none => exact absurd hg hi
  | some bk =>
   obtain ⟨x, _, _, _, rfl⟩ := GH_some hg
   unfold AHeap.ro; rw [hg]
 sig i hi := by
  cases h : sigG i with
  | none => rfl
  | some c =>
   obtain ⟨x, _, h2, h3, _⟩ := sigG_some h
   have := (hw x h2).1
   have hi' : (default : GTab).N ≤ i := hi
   omega
theorem Link.push (L : Link W μ H σ) (cs : List Value) (e : TypeId) (z : Nat) (loc : Option Loc) (hc : ∀ p, loc = some p → CellsAt μ W p cs e z true) :
  ∃ μ' H' σ', Link W μ' H' σ' ∧ Ext μ μ' ∧ XS σ σ' ∧ μ' H.next = loc ∧ σ' H.next = some (cs, z) := by
 have hx : Ext μ (fun j => if j = H.next then loc else μ j) := fun i p hi => by
  have : i ≠ H.next := fun e => by rw [e, L.rel.fresh _ (Nat.le_refl _)] at hi; cases hi
  simp [this, hi]
 refine ⟨fun j => if j = H.next then loc else μ j, { (H.alloc (.cells cs e z none true)) with wlow := H.next + 1 }, fun j => if j = H.next then some (cs, z) else σ j, ?_, hx, ?_, by simp, by simp⟩
 ·have hget : ∀ i, AHeap.get { (H.alloc (.cells cs e z none true)) with wlow := H.next + 1 } i = if i = H.next then some (.cells cs e z none true) else H.get i := fun i => AHeap.get_alloc (h := H)
  have hro : ∀ i, AHeap.get { (H.alloc (.cells cs e z none true)) with wlow := H.next + 1 } i ≠ none → AHeap.ro { (H.alloc (.cells cs e z none true)) with wlow := H.next + 1 } i = true := fun i hi => by
   by_cases h : i = H.next
   ·unfold AHeap.ro; rw [hget, if_pos h]
   ·have hg := hget i
    rw [if_neg h] at hg
    rw [AHeap.ro_congr hg]
    exact L.ros i (by rw [← hg]; exact hi)
  have htop : TopG (fun j => if j = H.next then loc else μ j) { (H.alloc (.cells cs e z none true)) with wlow := H.next + 1 } W :=
   ⟨L.rel.top.1, L.rel.top.2.1.mono hx, fun x m i q hi hr _ => by rw [hro i hi] at hr; cases hr⟩
  refine ⟨⟨?_, ?_, htop, trivial, ?_, ?_, ?_, ?_⟩, ?_, Nat.le_refl _, hro, ?_⟩
  ·intro i hi
   have hi' : H.next + 1 ≤ i := hi
   have h1 : i ≠ H.next := by omega
   simp only [h1, if_false]
   exact L.rel.fresh i (by omega)
  ·intro i hi
   show i < H.next + 1
   by_cases h : i = H.next
   ·omega
   ·rw [hget, if_neg h] at hi
    have := L.rel.below i hi
    omega
  ·intro i cs' e' esz m ro p hg hp
   rw [hget] at hg
   by_cases h : i = H.next
   ·rw [if_pos h] at hg
    cases hg
    simp only [h, if_true] at hp
    obtain ⟨arr, fz, a1, a2, a3, a4, a5, a6⟩ := hc p hp
    exact ⟨arr, fz, a1, a2, a3, a4, fun j v hj => by obtain ⟨u, hu, hv⟩ := a5 j v hj; exact ⟨u, hu, hv.mono hx⟩, a6⟩
   ·rw [if_neg h] at hg
    simp only [h, if_false] at hp
    obtain ⟨arr, fz, a1, a2, a3, a4, a5, a6⟩ := L.rel.cells i cs' e' esz m ro p hg hp
    exact ⟨arr, fz, a1, a2, a3, a4, fun j v hj => by obtain ⟨u, hu, hv⟩ := a5 j v hj; exact ⟨u, hu, hv.mono hx⟩, a6⟩
  ·intro i st pend F ps as_ bd p hg hp
   rw [hget] at hg
   by_cases h : i = H.next
   ·rw [if_pos h] at hg; cases hg
   ·rw [if_neg h] at hg
    have := L.ros i (by rw [hg]; simp)
    unfold AHeap.ro at this
    rw [hg] at this
    cases this
  ·intro i p hg hp
   rw [hget] at hg
   by_cases h : i = H.next
   ·rw [if_pos h] at hg; cases hg
   ·rw [if_neg h] at hg
    have := L.ros i (by rw [hg]; simp)
    unfold AHeap.ro at this
    rw [hg] at this
    cases this
  ·intro i j p q _ hi hj _ _ _
   exact Or.inl ⟨hro i hi, hro j hj⟩
  ·refine ⟨?_, L.stab.2.mono fun i c hi => ?_⟩
   rotate_left
   ·have : i ≠ H.next := fun e => by rw [e, L.sig _ (Nat.le_refl _)] at hi; cases hi
    simp [this, hi]
   intro i c hi
   by_cases h : i = H.next
   ·simp only [h, if_true, Option.some.injEq] at hi
    subst hi
    refine ⟨?_, e, none, true, ?_⟩
    ·show i < H.next + 1; omega
    ·rw [hget, if_pos h]
   ·simp only [h, if_false] at hi
    obtain ⟨h1, e', m, ro, h2⟩ := L.stab.1 i c hi
    refine ⟨?_, e', m, ro, ?_⟩
    ·show i < H.next + 1; omega
    ·rw [hget, if_neg h, h2]
  ·intro i hi
   have hi' : H.next + 1 ≤ i := hi
   have h1 : i ≠ H.next := by omega
   simp only [h1, if_false]
   exact L.sig i (by omega)
 ·intro i c hi
  have : i ≠ H.next := fun e => by rw [e, L.sig _ (Nat.le_refl _)] at hi; cases hi
  simp [this, hi]
variable {Hh : Type} {enc : TypeId × Value → Hh} {base : Nat} {held : Bool}
end
end Go.Ev
namespace Go.Ev
open Go.ChangeShapes Go.WideShapes Go.ChangeAt Go.RowKit
section
variable {P : Program} {W : World} {Hh : Type} {enc : TypeId × Value → Hh} {base : Nat} {held : Bool}
noncomputable def endOff (P : Program) : List Field → Nat → Option Nat
 | [], o => some o
 | fd :: fs, o => cond (Nat.beq fd.offset o && sizeIs P fd.type (P.cellsOf fd.type)) (endOff P fs (o + P.cellsOf fd.type)) none
noncomputable def linkB (P : Program) : Nat → TypeId → Bool
 | 0, _ => false
 | f + 1, t =>
  match P.underlying t with
  | some (.int _) | some .bool | some .string => sizeIs P t 1
  | some (.slice e) => sizeIs P t 1 && linkB P f e && posT P e && sizeIs P e (P.cellsOf e)
  | some (.struct fs) => fs.toList.all (fun fd => linkB P f fd.type) && sizeIs P t (P.cellsOf t) && (match endOff P fs.toList 0 with | some o => Nat.beq o (P.cellsOf t) | none => false)
  | some (.array n e) => linkB P f e && posT P e && sizeIs P e (P.cellsOf e) && sizeIs P t (P.cellsOf t) && Nat.beq (n * P.cellsOf e) (P.cellsOf t)
  | _ => false
def VRs (μ : Nat → Option Loc) (l l' : List Value) : Prop := l.length = l'.length ∧ ∀ (j : Nat) (v v' : Value), l[j]? = some v → l'[j]? = some v' → VR μ v v'
theorem VRs.mono {μ μ' : Nat → Option Loc} {l l' : List Value} (h : VRs μ l l') (hx : Ext μ μ') : VRs μ' l l' := ⟨h.1, fun j v v' a b => (h.2 j v v' a b).mono hx⟩
theorem VRs.nil {μ : Nat → Option Loc} : VRs μ [] [] := ⟨rfl, fun j v v' h _ => by simp at h⟩
theorem VRs.one {μ : Nat → Option Loc} {v v' : Value} (h : VR μ v v') : VRs μ [v] [v'] := ⟨rfl, fun j u u' a b => by
 cases j with
 | zero => simp at a b; subst a; subst b; exact h
 | succ j => simp at a⟩
theorem VRs.append {μ : Nat → Option Loc} {a b a' b' : List Value} (h : VRs μ a a') (k : VRs μ b b') : VRs μ (a ++ b) (a' ++ b') := ⟨by simp [h.1, k.1], fun j v v' x y => by
 by_cases hj : j < a.length
 ·rw [List.getElem?_append_left hj] at x
  rw [List.getElem?_append_left (h.1 ▸ hj)] at y
  exact h.2 j v v' x y
 ·rw [List.getElem?_append_right (by omega)] at x
  rw [List.getElem?_append_right (by have := h.1; omega), ← h.1] at y
  exact k.2 _ v v' x y⟩
def okD (P : Program) : Nat → TypeId → D → Prop
 | 0, _, _ => False
 | f + 1, t, d =>
  match P.underlying t with
  | some (.int k) => ∃ n, d = .int n ∧ inR k n
  | some .bool => ∃ p, d = .bool p
  | some .string => ∃ s, d = .str s ∧ s.length ≤ maxLen
  | some (.slice e) => d = .nil ∨ ∃ l, d = .list l ∧ (l.length ≤ maxLen ∧ l.length * P.bytesOf e ≤ reachBytes) ∧ ∀ (j : Nat) (x : D), l[j]? = some x → okD P f e x
  | some (.struct fs) => ∃ ds, d = .sct ds ∧ ds.length = fs.size ∧ ∀ (j : Nat) (fd : Field) (x : D), fs[j]? = some fd → ds[j]? = some x → okD P f fd.type x
  | some (.array n e) => ∃ ds, d = .sct ds ∧ ds.length = n ∧ ∀ (j : Nat) (x : D), ds[j]? = some x → okD P f e x
  | _ => False
theorem inR_of {k : IntKind} {n : Int} (h : (Lit.int k n).wf = true) : inR k n := by
 simp only [Lit.wf, Bool.and_eq_true, decide_eq_true_eq] at h
 obtain ⟨h1, h2⟩ := h
 cases k <;> simp [IntKind.min, IntKind.max, IntKind.signed, IntKind.bits] at h1 h2 <;> simp only [inR] <;> omega
def LinkR (P : Program) (W : World) (μ : Nat → Option Loc) (σ : Sig) (f : Nat) (t : TypeId) (cs : List Value) : Prop :=
 ∃ (μ' : Nat → Option Loc) (H' : AHeap) (σ' : Sig) (cs0 : List Value) (D : D), Link W μ' H' σ' ∧ Ext μ μ' ∧ XS σ σ' ∧ VRs μ' cs0 cs ∧ ReadsA P σ' t D cs0 ∧ okD P f t D
def LinkAll (P : Program) (W : World) (f : Nat) (t : TypeId) (cs : List Value) : Prop := ∀ μ H σ, Link W μ H σ → LinkR P W μ σ f t cs
theorem link_fields {n f0 : Nat} : ∀ (fs : List Field) (o oe : Nat) (cs : List Value), endOff P fs o = some oe → cs.length = oe →
  (∀ (j : Nat) (fd : Field), fs[j]? = some fd → LinkAll P W f0 fd.type ((cs.drop fd.offset).take (P.cellsOf fd.type))) → ∀ μ H σ, Link W μ H σ →
  ∃ (μ' : Nat → Option Loc) (H' : AHeap) (σ' : Sig) (css : List (List Value)) (ds : List D), Link W μ' H' σ' ∧ Ext μ μ' ∧ XS σ σ' ∧ VRs μ' css.flatten (cs.drop o) ∧ css.length = fs.length ∧ ds.length = fs.length ∧ o ≤ oe ∧
   ∀ (j : Nat) (f : Field) (d : D) (c : List Value), fs[j]? = some f → ds[j]? = some d → css[j]? = some c → ReadsA P σ' f.type d c ∧ okD P f0 f.type d
 | [], o, oe, cs, he, hl, _, μ, H, σ, L => by
  simp only [endOff, Option.some.injEq] at he
  refine ⟨μ, H, σ, [], [], L, .refl _, .refl _, ?_, rfl, rfl, by omega, fun j f d c h => by simp at h⟩
  rw [List.drop_eq_nil_of_le (by omega)]; exact .nil
 | fd :: fs, o, oe, cs, he, hl, hf, μ, H, σ, L => by
  simp only [endOff] at he
  cases hc : (Nat.beq fd.offset o && sizeIs P fd.type (P.cellsOf fd.type)) with
  | false => rw [hc] at he; cases he
  | true =>
   rw [hc] at he
   simp only [Bool.and_eq_true] at hc
   have ho := Nat.eq_of_beq_eq_true hc.1
   obtain ⟨μ1, H1, σ1, c0, d0, L1, x1, s1, v1, r1, k1⟩ := hf 0 fd rfl μ H σ L
   obtain ⟨μ2, H2, σ2, css, ds, L2, x2, s2, v2, l1, l2, hle, r2⟩ := link_fields (n := n) fs _ oe cs he hl (fun j g hg => hf (j + 1) g hg) μ1 H1 σ1 L1
   refine ⟨μ2, H2, σ2, c0 :: css, d0 :: ds, L2, x1.trans x2, s1.trans s2, ?_, by simp [l1], by simp [l2], by omega, fun j f d c a b c' => ?_⟩
   ·have e : cs.drop o = (cs.drop fd.offset).take (P.cellsOf fd.type) ++ cs.drop (o + P.cellsOf fd.type) := by
     rw [ho, ← List.drop_drop, List.take_append_drop]
    rw [List.flatten_cons, e]
    exact (v1.mono x2).append v2
   ·cases j with
    | zero => simp at a b c'; subst a; subst b; subst c'; exact ⟨r1.mono s2, k1⟩
    | succ j => exact r2 j f d c (by simpa using a) (by simpa using b) (by simpa using c')
theorem link_elems {f0 : Nat} {e : TypeId} {z : Nat} (hz : sizeT P e = some z) (css' : Nat → List Value) : ∀ (k : Nat), (∀ j, j < k → LinkAll P W f0 e (css' j)) → ∀ μ H σ, Link W μ H σ →
  ∃ (μ' : Nat → Option Loc) (H' : AHeap) (σ' : Sig) (css : List (List Value)) (ds : List D), Link W μ' H' σ' ∧ Ext μ μ' ∧ XS σ σ' ∧ css.length = k ∧ ds.length = k ∧ (∀ c ∈ css, c.length = z) ∧ (∀ (j : Nat) (c : List Value), css[j]? = some c → VRs μ' c (css' j)) ∧ ∀ (j : Nat) (d : D) (c : List Value), ds[j]? = some d → css[j]? = some c → ReadsA P σ' e d c ∧ okD P f0 e d
 | 0, _, μ, H, σ, L => ⟨μ, H, σ, [], [], L, .refl _, .refl _, rfl, rfl, fun c hc => by simp at hc, fun j c h => by simp at h, fun j d c h => by simp at h⟩
 | k + 1, hk, μ, H, σ, L => by
  obtain ⟨μ1, H1, σ1, css, ds, L1, x1, s1, l1, l2, hl, hv, hr⟩ := link_elems hz css' k (fun j hj => hk j (by omega)) μ H σ L
  obtain ⟨μ2, H2, σ2, c0, d0, L2, x2, s2, v2, r2, k2⟩ := hk k (by omega) μ1 H1 σ1 L1
  refine ⟨μ2, H2, σ2, css ++ [c0], ds ++ [d0], L2, x1.trans x2, s1.trans s2, by simp [l1], by simp [l2], fun c hc => ?_, fun j c h => ?_, fun j d c a b => ?_⟩
  ·rcases List.mem_append.1 hc with h | h
   ·exact hl c h
   ·have : c = c0 := by simpa using h
    subst this
    have := r2.size; rw [hz] at this; exact (Option.some.inj this).symm
  ·by_cases hj : j < css.length
   ·rw [List.getElem?_append_left hj] at h; exact (hv j c h).mono x2
   ·rw [List.getElem?_append_right (by omega)] at h
    have hj0 : j - css.length = 0 := by
     have := (List.getElem?_eq_some_iff.1 h).1
     simp at this; omega
    rw [hj0] at h
    simp at h; subst h
    have : j = k := by omega
    rw [this]; exact v2
  ·by_cases hj : j < css.length
   ·rw [List.getElem?_append_left (by omega)] at a
    rw [List.getElem?_append_left hj] at b
    exact ⟨(hr j d c a b).1.mono s2, (hr j d c a b).2⟩
   ·rw [List.getElem?_append_right (by omega)] at a b
    have hj0 : j - css.length = 0 := by
     have := (List.getElem?_eq_some_iff.1 b).1
     simp at this; omega
    have hj1 : j - ds.length = 0 := by omega
    rw [hj0] at b; rw [hj1] at a
    simp at a b; subst a; subst b; exact ⟨r2, k2⟩
theorem add_off {a : Addr} (hs : a.spot = none) (n : Nat) : a.add n = ⟨a.block, a.off + n, none⟩ := by
 obtain ⟨b, o, s⟩ := a
 simp only at hs
 subst hs
 unfold Addr.add
 split
 ·rename_i h; subst h; rfl
 ·rfl
theorem weights_all {P : Program} {e : TypeId} {n : Nat} : ∀ {l : List (DataW Hh)} {d : DataW Hh}, d ∈ l → n ∈ d.weights P e → n ∈ DataW.weightsAll P e l
 | a :: l, d, h, hn => by
  simp only [DataW.weightsAll, List.mem_append]
  rcases List.mem_cons.1 h with rfl | h
  ·exact .inl hn
  ·exact .inr (weights_all h hn)
theorem trod_link : ∀ (f : Nat) (t : TypeId), linkB P f t = true → ∀ (fuel : Nat) (cs : List Value) (x : DataW Hh × List MemPlace), DataW.trod enc P W base (fun _ => true) held fuel t cs = some x → (∀ n ∈ x.1.weights P t, n ≤ reachBytes) → LinkAll P W f t cs
 | 0, t, h, _, _, _, _, _ => by cases h
 | f + 1, t, h, fuel, cs, x, hx, hw => by
  intro μ H σ L
  unfold linkB at h
  split at h
  ·rename_i k hu
   obtain ⟨n, rfl, _, hwf⟩ := DataW.trod_int hu hx
   exact ⟨μ, H, σ, [.int k n], .int n, L, .refl _, .refl _, .one (.flat rfl), .int hu (sizeIs_ok h), by unfold okD; rw [hu]; exact ⟨n, rfl, inR_of hwf⟩⟩
  ·rename_i hu
   obtain ⟨b, rfl, _⟩ := DataW.trod_bool hu hx
   refine ⟨μ, H, σ, [.bool b], .bool (b = true), L, .refl _, .refl _, .one (.flat rfl), ?_, by unfold okD; rw [hu]; exact ⟨_, rfl⟩⟩
   have := ReadsA.bool (P := P) (σ := σ) (t := t) (p := b = true) hu (sizeIs_ok h)
   rw [dec_eq (b := b) Iff.rfl] at this
   exact this
  ·rename_i hu
   obtain ⟨s, rfl, _, hsl⟩ := DataW.trod_string hu hx
   refine ⟨μ, H, σ, [.string s], .str s.data.toList, L, .refl _, .refl _, .one (.flat rfl), ?_, by unfold okD; rw [hu]; exact ⟨_, rfl, by simpa using hsl⟩⟩
   have := ReadsA.str (P := P) (σ := σ) (t := t) (s := s.data.toList) hu (sizeIs_ok h)
   exact this
  ·rename_i e hu
   simp only [Bool.and_eq_true] at h
   obtain ⟨⟨⟨h1, h2⟩, h3⟩, h4⟩ := h
   have hs1 := sizeIs_ok h1
   have hze := sizeIs_ok h4
   generalize hzz : P.cellsOf e = z at *
   have hz0 : 0 < z := by
    unfold posT at h3
    rw [hze] at h3
    exact blt_lt h3
   rcases DataW.trod_slice hu hx with ⟨rfl, _⟩ | ⟨a, len, cap, elems, rest, n, rfl, rfl, hxe, _, hle, hmx, hel, h5, h6, _⟩
   ·exact ⟨μ, H, σ, _, .nil, L, .refl _, .refl _, .one (.flat rfl), .nil hu hs1, by unfold okD; rw [hu]; exact .inl rfl⟩
   ·obtain ⟨hrl, h6⟩ := h6 rfl
    rw [hxe] at hw
    have hw1 : (elems.length + rest.length) * P.bytesOf e ≤ reachBytes := hw _ (by simp [DataW.weights, hu])
    have hw2 : ∀ y, y ∈ elems ++ rest → ∀ n ∈ y.1.weights P e, n ≤ reachBytes := fun y hy n hn => hw n (by
     simp only [DataW.weights, hu, List.mem_cons, List.mem_append]
     rcases List.mem_append.1 hy with h | h
     ·exact .inr (.inl (weights_all (List.mem_map.2 ⟨y, h, rfl⟩) hn))
     ·exact .inr (.inr (weights_all (List.mem_map.2 ⟨y, h, rfl⟩) hn)))
    rw [hzz] at h5 h6
    have each : ∀ i, i < cap → ∃ c y, W.cells? base (a.add (i * z)) z = some c ∧ (DataW.trod enc P W base (fun _ => true) held n e c = some y ∧ y ∈ elems ++ rest) := fun i hi => by
     have : ∃ y, (W.cells? base (a.add (i * z)) z).bind (DataW.trod enc P W base (fun _ => true) held n e) = some y ∧ y ∈ elems ++ rest := by
      by_cases hil : i < len
      ·rw [h5 i hil]; exact ⟨_, List.getElem?_eq_getElem (by omega), List.mem_append_left _ (List.getElem_mem _)⟩
      ·have := h6 (i - len) (by omega)
       rw [show len + (i - len) = i by omega] at this
       rw [this]; exact ⟨_, List.getElem?_eq_getElem (by omega), List.mem_append_right _ (List.getElem_mem _)⟩
     obtain ⟨y, hy, hm⟩ := this
     obtain ⟨c, h1, h2⟩ := Option.bind_eq_some_iff.1 hy
     exact ⟨c, y, h1, h2, hm⟩
    let css' : Nat → List Value := fun i => (W.cells? base (a.add (i * z)) z).getD []
    obtain ⟨μ1, H1, σ1, css, ds, L1, x1, s1, l1, l2, hl, hv, hr⟩ := link_elems hze css' len (fun j hj => by
     obtain ⟨c, y, h1, h2', hm⟩ := each j (by omega)
     have : css' j = c := by show (W.cells? base (a.add (j * z)) z).getD [] = c; rw [h1]; rfl
     rw [this]
     exact trod_link f e h2 n c y h2' (hw2 y hm)) μ H σ L
    have hflen : css.flatten.length = len * z := by rw [rows_len hl, l1]
    have hread : ∀ (σ' : Sig) (c : Nat), XS σ1 σ' → σ' H1.next = some (css.flatten, z) → (c = UNK ∨ (ds.length ≤ c ∧ c < UNK)) → ReadsA P σ' t (.list ds) [.slice (some ⟨H1.next, 0, none⟩) ds.length c] := fun σ' c hxs hσ hc => by
     refine ReadsA.list (sz := z) hu hs1 hze hσ (by rw [l2, hflen]; omega) hc fun j d hj => ?_
     rw [Nat.zero_add, rows_get hl]
     have hjl : j < css.length := by have := (List.getElem?_eq_some_iff.1 hj).1; omega
     rw [List.getElem?_eq_getElem hjl]
     exact (hr j d _ hj (List.getElem?_eq_getElem hjl)).1.mono hxs
    have hokd : okD P (f + 1) t (.list ds) := by
     unfold okD; rw [hu]
     refine .inr ⟨ds, rfl, ⟨by omega, Nat.le_trans (Nat.mul_le_mul_right _ (by omega)) hw1⟩, fun j x hj => ?_⟩
     have hjl : j < css.length := by have := (List.getElem?_eq_some_iff.1 hj).1; omega
     exact (hr j x _ hj (List.getElem?_eq_getElem hjl)).2
    by_cases hcap : cap = 0
    ·have hl0 : len = 0 := by omega
     obtain ⟨μ2, H2, σ2, L2, x2, s2, _, hσ⟩ := L1.push css.flatten e z none (fun p h => by cases h)
     have := hread σ2 UNK s2 hσ (.inl rfl)
     rw [l2, hl0] at this
     refine ⟨μ2, H2, σ2, _, _, L2, x1.trans x2, s1.trans s2, .one ?_, this, hokd⟩
     rw [hl0, hcap]
     exact .slice0
    ·obtain ⟨c0, y0, hc0, _⟩ := each 0 (by omega)
     obtain ⟨_, q2, q3⟩ := World.cells?_some hc0
     have hcell0 : W.cell? a = c0[0]? := by simpa [Addr.add] using q3 0 hz0
     have hsome : ∃ u, W.cell? a = some u := by rw [hcell0]; exact ⟨_, List.getElem?_eq_getElem (by omega)⟩
     have hspot : a.spot = none := by
      obtain ⟨u, hu'⟩ := hsome
      unfold World.cell? at hu'
      split at hu'
      ·cases hsp : a.spot with
       | none => rfl
       | some s => rw [hsp] at hu'; simp at hu'
      ·cases hu'
     obtain ⟨arr, e', fz, hb⟩ : ∃ arr e' fz, W.heap[a.block]? = some (.cells arr e' fz) := by
      obtain ⟨u, hu'⟩ := hsome
      unfold World.cell? at hu'
      split at hu'
      ·rename_i c e' fz hh; exact ⟨c, e', fz, hh⟩
      ·cases hu'
     have hcell : ∀ i, i < cap → ∀ c, W.cells? base (a.add (i * z)) z = some c → c.length = z ∧ ∀ r, r < z → arr[a.off + (i * z + r)]? = c[r]? := fun i hi c hc => by
      obtain ⟨_, q2, q3⟩ := World.cells?_some hc
      refine ⟨q2, fun r hr => ?_⟩
      have := q3 r hr
      rw [add_off hspot, add_off (a := ⟨a.block, a.off + i * z, none⟩) rfl] at this
      unfold World.cell? at this
      rw [hb] at this
      rw [← this]
      simp [Nat.add_assoc]
     have hsize : a.off + cap * z ≤ arr.size := by
      obtain ⟨c, y, hc, _⟩ := each (cap - 1) (by omega)
      obtain ⟨g1, g2⟩ := hcell (cap - 1) (by omega) c hc
      have := g2 (z - 1) (by omega)
      rw [List.getElem?_eq_getElem (by omega)] at this
      have := (Array.getElem?_eq_some_iff.1 this).1
      have e1 : (cap - 1) * z + z = cap * z := by rw [← Nat.succ_mul]; congr 1; omega
      omega
     obtain ⟨μ2, H2, σ2, L2, x2, s2, hμ, hσ⟩ := L1.push css.flatten e' z (some ⟨a.block, a.off, cap * z, z⟩) (fun p hp => by
      cases hp
      refine ⟨arr, fz, hb, hsize, by rw [hflen]; exact Nat.mul_le_mul_right _ hle, ⟨rfl, fun h => by omega⟩, fun j v hj => ?_, fun h => by cases h⟩
      have hjl : j < len * z := by have := (List.getElem?_eq_some_iff.1 hj).1; omega
      have hq : j / z < len := (Nat.div_lt_iff_lt_mul hz0).2 hjl
      have hrm : j % z < z := Nat.mod_lt _ hz0
      have hdm : j / z * z + j % z = j := by rw [Nat.mul_comm]; exact Nat.div_add_mod j z
      obtain ⟨c, y, hc, _⟩ := each (j / z) (by omega)
      obtain ⟨g1, g2⟩ := hcell (j / z) (by omega) c hc
      have g3 := g2 (j % z) hrm
      rw [hdm] at g3
      have hcj : css[j / z]? = some (css[j / z]'(by omega)) := List.getElem?_eq_getElem (by omega)
      have hvv := hv _ _ hcj
      have e1 : css' (j / z) = c := by show (W.cells? base (a.add (j / z * z)) z).getD [] = c; rw [hc]; rfl
      rw [e1] at hvv
      have e2 : (css[j / z]'(by omega))[j % z]? = some v := by
       have := rows_get hl (j / z)
       rw [hcj] at this
       simp only [Option.getD_some] at this
       rw [← this, List.getElem?_take, if_pos hrm, List.getElem?_drop, hdm]
       exact hj
      refine ⟨c[j % z]'(by omega), ?_, hvv.2 _ _ _ e2 (List.getElem?_eq_getElem (by omega))⟩
      show arr[a.off + j]? = _
      rw [g3]; exact List.getElem?_eq_getElem (by omega))
     have := hread σ2 UNK s2 hσ (.inl rfl)
     rw [l2] at this
     refine ⟨μ2, H2, σ2, _, _, L2, x1.trans x2, s1.trans s2, .one ?_, this, hokd⟩
     have h7 := VR.sliceU (i := H1.next) (o := 0) (l := len) (c := cap) hμ hle (by simp)
     have ea : a = ⟨a.block, a.off, none⟩ := by
      obtain ⟨b, o, s⟩ := a
      simp only at hspot
      subst hspot; rfl
     rw [ea]
     simpa using h7
  ·rename_i fs hu
   simp only [Bool.and_eq_true] at h
   obtain ⟨⟨h1, h2⟩, h3⟩ := h
   obtain ⟨xs, n, rfl, hxe, hlen, hxl, hfld⟩ := DataW.trod_struct hu hx
   rw [hxe] at hw
   split at h3
   ·rename_i oe heo
    have hoe := Nat.eq_of_beq_eq_true h3
    obtain ⟨μ1, H1, σ1, css, ds, L1, x1, s1, v1, l1, l2, _, r1⟩ := link_fields (n := 0) fs.toList 0 oe cs heo (by rw [hlen, hoe]) (fun j fd hj => by
     have hj' : fs[j]? = some fd := by simpa using hj
     have hjl : j < fs.size := (Array.getElem?_eq_some_iff.1 hj').1
     have := hfld j fd hj'
     rw [List.getElem?_eq_getElem (by omega)] at this
     exact trod_link f fd.type (List.all_eq_true.1 h1 fd (List.mem_of_getElem? hj)) n _ _ this (fun m hm => hw m (by
      simp only [DataW.weights, hu]
      exact DataW.weights_mem_each (j := j) (by rw [List.getElem?_map, hj]; rfl) (by rw [List.getElem?_map, List.getElem?_eq_getElem (by omega)]; rfl) m hm))) μ H σ L
    rw [List.drop_zero] at v1
    refine ⟨μ1, H1, σ1, css.flatten, .sct ds, L1, x1, s1, v1, .sct hu (by simpa using l1) (by simpa using l2) (by rw [sizeIs_ok h2, v1.1, hlen]) fun j f d c a b c' => (r1 j f d c (by simpa using a) b c').1, ?_⟩
    unfold okD; rw [hu]
    refine ⟨ds, rfl, by simpa using l2, fun j fd x a b => ?_⟩
    have hjl : j < css.length := by have := (List.getElem?_eq_some_iff.1 b).1; omega
    exact (r1 j fd x _ (by simpa using a) b (List.getElem?_eq_getElem hjl)).2
   ·cases h3
  ·rename_i k e hu
   simp only [Bool.and_eq_true] at h
   obtain ⟨⟨⟨⟨h2, h3⟩, h4⟩, h1⟩, h5⟩ := h
   have hze := sizeIs_ok h4
   have h5 := Nat.eq_of_beq_eq_true h5
   obtain ⟨xs, m, rfl, hxe, hlen, hxl, hel⟩ := DataW.trod_array hu hx
   rw [hxe] at hw
   have h1 := sizeIs_ok h1
   rw [← h5] at hlen h1
   generalize P.cellsOf e = z at *
   have hz0 : 0 < z := by
    unfold posT at h3
    rw [hze] at h3
    exact blt_lt h3
   obtain ⟨μ1, H1, σ1, css, ds, L1, x1, s1, l1, l2, hl, hv, hr⟩ := link_elems hze (fun j => (cs.drop (j * z)).take z) k (fun j hj => by
    have := hel j hj
    rw [List.getElem?_eq_getElem (by omega)] at this
    exact trod_link f e h2 m _ _ this (fun n hn => hw n (by simp only [DataW.weights, hu]; exact weights_all (List.mem_map.2 ⟨xs[j]'(by omega), List.getElem_mem _, rfl⟩) hn))) μ H σ L
   have hfl : css.flatten.length = k * z := by rw [rows_len hl, l1]
   refine ⟨μ1, H1, σ1, css.flatten, .sct ds, L1, x1, s1, ⟨by rw [hfl, hlen], fun j v v' a b => ?_⟩, .arr hu l1 l2 (by rw [h1, hfl]) fun j d c a b => (hr j d c a b).1, ?_⟩
   ·have hjl : j < k * z := by have := (List.getElem?_eq_some_iff.1 a).1; omega
    have hq : j / z < k := (Nat.div_lt_iff_lt_mul hz0).2 hjl
    have hrm : j % z < z := Nat.mod_lt _ hz0
    have hdm : j / z * z + j % z = j := by rw [Nat.mul_comm]; exact Nat.div_add_mod j z
    have hcj : css[j / z]? = some (css[j / z]'(by omega)) := List.getElem?_eq_getElem (by omega)
    have hvv := hv _ _ hcj
    have e2 : (css[j / z]'(by omega))[j % z]? = some v := by
     have := rows_get hl (j / z)
     rw [hcj] at this
     simp only [Option.getD_some] at this
     rw [← this, List.getElem?_take, if_pos hrm, List.getElem?_drop, hdm]
     exact a
    refine hvv.2 _ _ _ e2 ?_
    show ((cs.drop (j / z * z)).take z)[j % z]? = some v'
    rw [List.getElem?_take, if_pos hrm, List.getElem?_drop, hdm]; exact b
   ·unfold okD; rw [hu]
    refine ⟨ds, rfl, l2, fun j x b => ?_⟩
    exact (hr j x _ b (List.getElem?_eq_getElem (by have := (List.getElem?_eq_some_iff.1 b).1; omega))).2
  ·cases h
end
end Go.Ev
