/-
  Part of the engine that the claim is proved with: it states nothing of the document by itself.
-/
import Derived.Test.YtigckjhbmeameaaGreatDoorCoreEv
import Derived.Laws.World
import Derived.Laws.Cells
import Derived.Laws.CopyRow
import Derived.Below

namespace Go.Ev

/-! ### The tree -/
theorem beqF {n m : Nat} (h : n ≠ m) : Nat.beq n m = false := by
  cases e : Nat.beq n m
  · rfl
  · exact absurd (Nat.eq_of_beq_eq_true e) h
theorem T.get_leaf {α : Type} (n : Nat) : (T.leaf : T α).get n = none := rfl
theorem T.get_node {α : Type} (l : T α) (v : Option α) (r : T α) (n : Nat) :
    (T.node l v r).get n = if n = 0 then v else if n % 2 = 1 then l.get (n / 2) else r.get (n / 2 - 1) := by
  show cond (Nat.beq n 0) v (cond (Nat.beq (n % 2) 1) (l.get (n / 2)) (r.get (Nat.pred (n / 2)))) = _
  by_cases h0 : n = 0
  · simp [h0]
  · have : Nat.beq n 0 = false := beqF h0
    rw [this, if_neg h0]
    by_cases h1 : n % 2 = 1
    · simp [h1]
    · have : Nat.beq (n % 2) 1 = false := beqF h1
      rw [this, if_neg h1]; rfl
theorem T.set_leaf {α : Type} (k : Nat) (n : Nat) (a : Option α) :
    T.set (k + 1) .leaf n a = if n = 0 then .node .leaf a .leaf else if n % 2 = 1 then .node (T.set k .leaf (n / 2) a) none .leaf else .node .leaf none (T.set k .leaf (n / 2 - 1) a) := by
  show cond (Nat.beq n 0) _ (cond (Nat.beq (n % 2) 1) _ _) = _
  by_cases h0 : n = 0
  · simp [h0]
  · have : Nat.beq n 0 = false := beqF h0
    rw [this, if_neg h0]
    by_cases h1 : n % 2 = 1
    · simp [h1]; rfl
    · have : Nat.beq (n % 2) 1 = false := beqF h1
      rw [this, if_neg h1]; rfl
theorem T.set_node {α : Type} (k : Nat) (l : T α) (v : Option α) (r : T α) (n : Nat) (a : Option α) :
    T.set (k + 1) (.node l v r) n a = if n = 0 then .node l a r else if n % 2 = 1 then .node (T.set k l (n / 2) a) v r else .node l v (T.set k r (n / 2 - 1) a) := by
  show cond (Nat.beq n 0) _ (cond (Nat.beq (n % 2) 1) _ _) = _
  by_cases h0 : n = 0
  · simp [h0]
  · have : Nat.beq n 0 = false := beqF h0
    rw [this, if_neg h0]
    by_cases h1 : n % 2 = 1
    · simp [h1]; rfl
    · have : Nat.beq (n % 2) 1 = false := beqF h1
      rw [this, if_neg h1]; rfl
theorem T.get_set {α : Type} (a : Option α) : ∀ (k : Nat) (t : T α) (n m : Nat), n + 1 < 2 ^ k → (T.set k t n a).get m = if m = n then a else t.get m := by
  intro k
  induction k with
  | zero => intro t n m h; simp at h
  | succ k ih =>
    intro t n m h
    rw [Nat.pow_succ] at h
    cases t with
    | leaf =>
      rw [T.set_leaf]
      by_cases h0 : n = 0
      · subst h0
        simp only [if_true, T.get_node, T.get_leaf]
        by_cases hm : m = 0 <;> simp [hm]
      · rw [if_neg h0]
        by_cases h1 : n % 2 = 1
        · rw [if_pos h1, T.get_node]
          by_cases hm : m = 0
          · rw [if_pos hm, if_neg (by omega), T.get_leaf]
          · rw [if_neg hm]
            by_cases hm1 : m % 2 = 1
            · rw [if_pos hm1, ih _ _ _ (by omega), T.get_leaf, T.get_leaf]
              by_cases e : m = n
              · rw [if_pos e, if_pos (by omega)]
              · rw [if_neg e, if_neg (by omega)]
            · rw [if_neg hm1, T.get_leaf, if_neg (by omega), T.get_leaf]
        · rw [if_neg h1, T.get_node]
          by_cases hm : m = 0
          · rw [if_pos hm, if_neg (by omega), T.get_leaf]
          · rw [if_neg hm]
            by_cases hm1 : m % 2 = 1
            · rw [if_pos hm1, T.get_leaf, if_neg (by omega), T.get_leaf]
            · rw [if_neg hm1, ih _ _ _ (by omega), T.get_leaf, T.get_leaf]
              by_cases e : m = n
              · rw [if_pos e, if_pos (by omega)]
              · rw [if_neg e, if_neg (by omega)]
    | node l v r =>
      rw [T.set_node]
      by_cases h0 : n = 0
      · subst h0
        simp only [if_true, T.get_node]
        by_cases hm : m = 0 <;> simp [hm]
      · rw [if_neg h0]
        by_cases h1 : n % 2 = 1
        · rw [if_pos h1, T.get_node, T.get_node]
          by_cases hm : m = 0
          · rw [if_pos hm, if_neg (by omega), if_pos hm]
          · rw [if_neg hm, if_neg hm]
            by_cases hm1 : m % 2 = 1
            · rw [if_pos hm1, if_pos hm1, ih _ _ _ (by omega)]
              by_cases e : m = n
              · rw [if_pos e, if_pos (by omega)]
              · rw [if_neg e, if_neg (by omega)]
            · rw [if_neg hm1, if_neg hm1, if_neg (by omega)]
        · rw [if_neg h1, T.get_node, T.get_node]
          by_cases hm : m = 0
          · rw [if_pos hm, if_neg (by omega), if_pos hm]
          · rw [if_neg hm, if_neg hm]
            by_cases hm1 : m % 2 = 1
            · rw [if_pos hm1, if_pos hm1, if_neg (by omega)]
            · rw [if_neg hm1, if_neg hm1, ih _ _ _ (by omega)]
              by_cases e : m = n
              · rw [if_pos e, if_pos (by omega)]
              · rw [if_neg e, if_neg (by omega)]

def TOP : Nat := 1099511627000
theorem T.get_setN {α : Type} (a : Option α) (t : T α) (n m : Nat) : (T.set (Nat.succ n) t n a).get m = if m = n then a else t.get m :=
  T.get_set a (n + 1) t n m (Nat.lt_two_pow_self)
theorem T.get_set40 {α : Type} (a : Option α) (t : T α) (n m : Nat) (h : n ≤ TOP) : (T.set 40 t n a).get m = if m = n then a else t.get m :=
  T.get_set a 40 t n m (by unfold TOP at h; omega)

/-! ### Values -/
/-- Where a block of the evaluator's lies: the heap's block, from which cell on, how many cells, how many an element. -/
structure Loc where
  b : Nat
  base : Nat
  n : Nat
  esz : Nat

inductive VR (μ : Nat → Option Loc) : Value → Value → Prop
  | flat {v : Value} (h : flat1 v = true) : VR μ v v
  | ptr {i o : Nat} {p : Loc} (h : μ i = some p) : VR μ (.pointer (some ⟨i, o, none⟩)) (.pointer (some ⟨p.b, p.base + o, none⟩))
  | slice {i o l c : Nat} {p : Loc} (h : μ i = some p) (hc : c ≠ UNK) (hl : l ≤ c) (hn : o + c * p.esz ≤ p.n) :
      VR μ (.slice (some ⟨i, o, none⟩) l c) (.slice (some ⟨p.b, p.base + o, none⟩) l c)
  | sliceU {i o l c : Nat} {p : Loc} (h : μ i = some p) (hl : l ≤ c) (hn : o + c * p.esz ≤ p.n) :
      VR μ (.slice (some ⟨i, o, none⟩) l UNK) (.slice (some ⟨p.b, p.base + o, none⟩) l c)
  | slice0 {i o : Nat} {a : Addr} : VR μ (.slice (some ⟨i, o, none⟩) 0 UNK) (.slice (some a) 0 0)
  | func {f : FuncId} {fs cs fs' cs' : Array Value} (h1 : fs.size = fs'.size) (h2 : ∀ (i : Nat) (v v' : Value), fs[i]? = some v → fs'[i]? = some v' → VR μ v v')
      (h3 : cs.size = cs'.size) (h4 : ∀ (i : Nat) (v v' : Value), cs[i]? = some v → cs'[i]? = some v' → VR μ v v') : VR μ (.func (.func f) fs cs) (.func (.func f) fs' cs')
  | yield {l : Nat} {p : Loc} (h : μ l = some p) : VR μ (.func (.yield l) #[] #[]) (.func (.yield p.b) #[] #[])
  | iface {t : TypeId} {v v' : Value} (h : VR μ v v') : VR μ (.iface t v) (.iface t v')
  | agg {cs cs' : Array Value} (h1 : cs.size = cs'.size) (h2 : ∀ (i : Nat) (v v' : Value), cs[i]? = some v → cs'[i]? = some v' → VR μ v v') : VR μ (.agg cs) (.agg cs')
  | tuple {cs cs' : Array Value} (h1 : cs.size = cs'.size) (h2 : ∀ (i : Nat) (v v' : Value), cs[i]? = some v → cs'[i]? = some v' → VR μ v v') : VR μ (.tuple cs) (.tuple cs')

def Ext (μ μ' : Nat → Option Loc) : Prop := ∀ i p, μ i = some p → μ' i = some p
theorem Ext.refl (μ : Nat → Option Loc) : Ext μ μ := fun _ _ h => h
theorem Ext.trans {a b c : Nat → Option Loc} (h : Ext a b) (k : Ext b c) : Ext a c := fun i p hi => k i p (h i p hi)

theorem VR.mono {μ μ' : Nat → Option Loc} {v v' : Value} (h : VR μ v v') (hx : Ext μ μ') : VR μ' v v' := by
  induction h with
  | flat h => exact .flat h
  | ptr h => exact .ptr (hx _ _ h)
  | slice h hc hl hn => exact .slice (hx _ _ h) hc hl hn
  | sliceU h hl hn => exact .sliceU (hx _ _ h) hl hn
  | slice0 => exact .slice0
  | func h1 _ h3 _ ih2 ih4 => exact .func h1 ih2 h3 ih4
  | yield h => exact .yield (hx _ _ h)
  | iface _ ih => exact .iface ih
  | agg h1 _ ih => exact .agg h1 ih
  | tuple h1 _ ih => exact .tuple h1 ih

theorem VR.undef (μ : Nat → Option Loc) : VR μ undef undef := .tuple rfl (fun i v v' h _ => by simp at h)

theorem arr_ext {cs cs' : Array Value} (h1 : cs.size = cs'.size) (h : ∀ (i : Nat) (v v' : Value), cs[i]? = some v → cs'[i]? = some v' → v' = v) : cs' = cs := by
  apply Array.ext_getElem?
  intro i
  by_cases hi : i < cs.size
  · rw [Array.getElem?_eq_getElem hi, Array.getElem?_eq_getElem (h1 ▸ hi)]
    rw [h i _ _ (Array.getElem?_eq_getElem hi) (Array.getElem?_eq_getElem (h1 ▸ hi))]
  · rw [Array.getElem?_eq_none (by omega), Array.getElem?_eq_none (by omega)]

theorem VR.eq1 {μ : Nat → Option Loc} {v v' : Value} (h : VR μ v v') (hf : flat1 v = true) : v' = v := by
  induction h with
  | flat h => rfl
  | ptr h => simp [flat1] at hf
  | slice h hc hl hn => simp [flat1] at hf
  | sliceU h hl hn => simp [flat1] at hf
  | slice0 => simp [flat1] at hf
  | func h1 _ h3 _ _ _ =>
    simp [flat1] at hf
    obtain ⟨rfl, rfl⟩ := hf
    have a : (#[] : Array Value).size = 0 := rfl
    rw [a] at h1 h3
    rw [Array.eq_empty_of_size_eq_zero h1.symm, Array.eq_empty_of_size_eq_zero h3.symm]
  | yield h => simp [flat1] at hf
  | @iface t v v' hh ih =>
    have : flat1 v = true := by cases v <;> simp_all [flat1]
    rw [ih this]
  | agg h1 _ ih => simp [flat1] at hf
  | tuple h1 _ ih => simp [flat1] at hf

theorem VR.eq {μ : Nat → Option Loc} {v v' : Value} (h : VR μ v v') (hf : Ev.flat v = true) : v' = v := by
  cases v with
  | agg cs =>
    cases h with
    | flat h => rfl
    | agg h1 h2 =>
      simp only [Ev.flat, List.all_eq_true] at hf
      rw [arr_ext h1 fun i v v' hv hv' => (h2 i v v' hv hv').eq1 (hf v (by rw [Array.mem_toList_iff]; exact Array.mem_of_getElem? hv))]
  | _ => exact h.eq1 hf

theorem VR.of_flat {μ : Nat → Option Loc} {v : Value} (hf : Ev.flat v = true) : VR μ v v := by
  cases v with
  | agg cs =>
    simp only [Ev.flat, List.all_eq_true] at hf
    exact .agg rfl fun i v v' hv hv' => by
      rw [hv] at hv'; cases hv'
      exact .flat (hf v (by rw [Array.mem_toList_iff]; exact Array.mem_of_getElem? hv))
  | _ => exact .flat hf

theorem VR.of_flatR {μ : Nat → Option Loc} {v : Value} (hf : flatR v = true) : VR μ v v := by
  cases v with
  | tuple cs =>
    simp only [flatR, List.all_eq_true] at hf
    exact .tuple rfl fun i v v' hv hv' => by
      rw [hv] at hv'; cases hv'
      exact .of_flat (hf v (by rw [Array.mem_toList_iff]; exact Array.mem_of_getElem? hv))
  | _ => exact .of_flat hf

theorem VR.eqR {μ : Nat → Option Loc} {v v' : Value} (h : VR μ v v') (hf : flatR v = true) : v' = v := by
  cases v with
  | tuple cs =>
    cases h with
    | flat h => rfl
    | tuple h1 h2 =>
      simp only [flatR, List.all_eq_true] at hf
      rw [arr_ext h1 fun i v v' hv hv' => (h2 i v v' hv hv').eq (hf v (by rw [Array.mem_toList_iff]; exact Array.mem_of_getElem? hv))]
  | _ => exact h.eq hf
end Go.Ev
