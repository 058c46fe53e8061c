/-
  Part of the engine that the claim is proved with: it states nothing of the document by itself.
-/
import Derived.Test.YtdcamlgidccamaaGreatDoorCoreRfDefs
import Derived.Test.YtdcamlgidccamaaGreatDoorCoreKit
open Go.Proofs
namespace Go.Ev
/-! ### Nil rows as arguments -/
noncomputable def nilV (t : TypeId) : V → V
  | .val (.slice none 0 0) => .dat t .nil
  | v => v
noncomputable def nilsV : List (Option TypeId) → List V → List V
  | some t :: ts, v :: vs => nilV t v :: nilsV ts vs
  | none :: ts, v :: vs => v :: nilsV ts vs
  | _, vs => vs
/-- A contract, of nil rows too, at the places that have a type here. -/
noncomputable def nilC (ts : List (Option TypeId)) (c : Con) : Con := fun us => c (nilsV ts us)
noncomputable def okNil (P : Program) (t : TypeId) : Bool := match P.underlying t, sizeT P t with | some (.slice _), some 1 => true | _, _ => false
theorem nilV_rel {P : Program} {σ : Sig} {ν : Nu} {t : TypeId} (ht : okNil P t = true) {v : V} {v' : Value} (h : VRel P σ ν v v') : VRel P σ ν (nilV t v) v' := by
  unfold nilV
  split
  · cases h with
    | val hf =>
      unfold okNil at ht
      split at ht
      · rename_i e h1 h2; exact .dat h1 (.nil h1 h2)
      · cases ht
  · exact h
theorem nilsV_rel {P : Program} {σ : Sig} {ν : Nu} : ∀ {ts : List (Option TypeId)} (_ : ∀ t, some t ∈ ts → okNil P t = true) {us : List V} {vs : List Value} (_ : LRel P σ ν us vs), LRel P σ ν (nilsV ts us) vs
  | [], _, us, vs, h => by cases us <;> exact h
  | o :: ts, ht, [], vs, h => by cases o <;> exact h
  | o :: ts, ht, u :: us, [], h => by have := h.1; cases this
  | o :: ts, ht, u :: us, w :: vs, h => by
    have hr : LRel P σ ν us vs := ⟨by have := h.1; simpa using this, fun j v v' a b => h.2 (j + 1) v v' a b⟩
    have ih := nilsV_rel (ts := ts) (fun t hm => ht t (List.mem_cons_of_mem _ hm)) hr
    have h0 := h.2 0 u w rfl rfl
    cases o with
    | none => exact ⟨by have := ih.1; simpa [nilsV] using this, fun j v v' a b => by
        cases j with
        | zero => cases a; cases b; exact h0
        | succ j => exact ih.2 j v v' a b⟩
    | some t => exact ⟨by have := ih.1; simpa [nilsV] using this, fun j v v' a b => by
        cases j with
        | zero => cases a; cases b; exact nilV_rel (ht t List.mem_cons_self) h0
        | succ j => exact ih.2 j v v' a b⟩
theorem valid_nil {P : Program} {G : Msk} {run : Run} {g : FuncId} {c : Con} {ts : List (Option TypeId)} (ht : ∀ t, some t ∈ ts → okNil P t = true) (h : Valid P G run g c) : Valid P G run g (nilC ts c) := by
  intro us p r hc hp σ H vs hst hl
  exact h (nilsV ts us) p r hc hp σ H vs hst (nilsV_rel ht hl)

/-! ### All that is asked of pairs of seats -/
open Classical in
noncomputable def allD (l : D) : D := if okHall l then listD (seatsL l l.len) else .nil
structure knP (all : D) (x : Int) : Prop where
  out : 0 ≤ x ∧ x < all.len
open Classical in
noncomputable def knT (all : D) (x : Int) : Int := if knP all x then ((el all x.toNat).fld 0).asInt else 0
open Classical in
noncomputable def knK (all : D) (x : Int) : Int := if knP all x then ((el all x.toNat).fld 1).asInt else 0
open Classical in
noncomputable def farD (l : D) (x : Int) : D := if whereP l x then .list (rowT l x) else .nil
structure asked (own l all : D) : Prop where
  copy : own = copyD l
  small : smallD l
  seats : all = allD l
structure okInts (o : D) : Prop where
  out : o.len ≤ 100 ∧ ∀ j, j < o.len → i64P (el o j).asInt
noncomputable def con131 : Con := fun | [.dat 91 all, .int .i64 x] => some (True, .tup [.agg [.int .i64 (knT all x), .int .i64 (knK all x)], .prop (knP all x)]) | _ => none
noncomputable def con136 : Con := fun | [.dat 22 own, .dat 22 l, .dat 91 all, .int .i64 x, .int .i64 y, .dat 29 far] => some (asked own l all ∧ i64P x ∧ i64P y ∧ far = farD l x, .prop True) | _ => none
noncomputable def con72 : Con := fun | [.dat 22 own, .dat 22 l, .dat 91 all, .int .i64 x, .dat 29 o] => some (asked own l all ∧ i64P x ∧ okInts o, .prop True) | _ => none
noncomputable def con22 : Con := fun | [.dat 22 l, .int .i64 a, .int .i64 b] => some (fewD l ∧ l.len ≤ 4 ∧ i64P a ∧ i64P b, .prop True) | _ => none
noncomputable def con4 : Con := fun | [.dat 22 _, .int .i64 a, .int .i64 b] => some (i64P a ∧ i64P b, .prop True) | _ => none
noncomputable def rl1 : FuncId → Option Con
  | 43 => some (nilC [some 29, some 29] con43)
  | 134 => some con134
  | 132 => some con132
  | 131 => some (nilC [some 91] con131)
  | 32 => some con32
  | 34 => some con34
  | 35 => some con35
  | 33 => some con33
  | 45 => some con45
  | 54 => some con54
  | 53 => some con53
  | g => rf2 g
noncomputable def rl2 : FuncId → Option Con
  | 136 => some (nilC [none, none, some 91, none, none, some 29] con136)
  | g => rl1 g
noncomputable def rl3 : FuncId → Option Con
  | 72 => some (nilC [none, none, some 91] con72)
  | g => rl2 g
noncomputable def rl4 : FuncId → Option Con
  | 22 => some con22
  | g => rl3 g
noncomputable def numsL (x : Nat) : List D := (List.range x).map fun (m : Nat) => D.int (m : Int)
noncomputable def rlAnn (g : FuncId) (i : Nat) : Option Ann :=
  match g, i with
  | 72, 11 => some { hs := 2, τ := Nat, slots := fun S i x => [(74, .int .i64 x), (18, match i with | 0 => .val (.slice none 0 0) | _ => .slc 72 (.lit 0) (.sym (nbX (el (slD S 1) (slI S 13).toNat) (slI S 14) (slI S 3 - slI S 14) x).length) none)],
                     blks := fun S i x => match i with | 0 => [] | _ => [(72, .arr 3 (nbX (el (slD S 1) (slI S 13).toNat) (slI S 14) (slI S 3 - slI S 14) x))], inv := fun S i x => x ≤ (slI S 73).toNat ∧ (match i with | 0 => (nbX (el (slD S 1) (slI S 13).toNat) (slI S 14) (slI S 3 - slI S 14) x) = [] | _ => (nbX (el (slD S 1) (slI S 13).toNat) (slI S 14) (slI S 3 - slI S 14) x) ≠ []), meas := fun S _ x => (slI S 73).toNat - x }
  | 72, 17 => some { τ := Nat, slots := fun _ _ x => [(95, .int .i64 x)], blks := fun _ _ _ => [], inv := fun S _ x => x ≤ (slD S 4).len, meas := fun S _ x => (slD S 4).len - x }
  | 22, 7 => some { hs := 2, τ := Nat, slots := fun S i x => [(27, .int .i64 x), (9, match i with | 0 => .slc (slR S 9) (.lit 0) (.lit 4) (some (.lit 4)) | _ => .slc 73 (.lit 0) (.sym (4 + x)) none)],
                    blks := fun S i x => match i with | 0 => [(slR S 9, .arr 3 (bkL S (slR S 9)))] | _ => [(73, .arr 3 (bkL S (slR S 9) ++ numsL x))], inv := fun S i x => match i with | 0 => x = 0 | _ => 0 < x ∧ x ≤ (slI S 26).toNat, meas := fun S _ x => (slI S 26).toNat - x, dead := fun S => [slR S 9] }
  | 22, 12 => some { τ := Nat, slots := fun _ _ x => [(37, .int .i64 x)], blks := fun _ _ _ => [], inv := fun S _ x => x ≤ slN S 35, meas := fun S _ x => slN S 35 - x }
  | g, i => rfAnn g i
end Go.Ev
