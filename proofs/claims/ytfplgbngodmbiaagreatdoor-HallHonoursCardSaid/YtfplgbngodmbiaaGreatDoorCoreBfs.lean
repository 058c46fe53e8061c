/-
  Part of the engine that the claim is proved with: it states nothing of the document by itself.
-/
import Derived.Lib.SlicesCompact
namespace Go.Ev
section
variable (n : Nat) (near : Nat → Nat → Prop) (s : Nat)
def walk : Nat → Nat → Prop
 | 0, m => m = s
 | d + 1, m => ∃ k, k < n ∧ walk d k ∧ near k m
def isDist (d m : Nat) : Prop := walk n near s d m ∧ ∀ e, e < d → ¬ walk n near s e m
open Classical in
noncomputable def distZ (m : Nat) : Int := if h : ∃ d, isDist n near s d m then ((Classical.choose h : Nat) : Int) else -1
variable {n near s}
theorem least_dist : ∀ (d m : Nat), walk n near s d m → ∃ e, e ≤ d ∧ isDist n near s e m := by
 intro d
 induction d using Nat.strongRecOn with
 | ind d ih =>
  intro m hw
  by_cases h : ∃ e, e < d ∧ walk n near s e m
  ·obtain ⟨e, he, hwe⟩ := h
   obtain ⟨e', h1, h2⟩ := ih e he m hwe
   exact ⟨e', by omega, h2⟩
  ·exact ⟨d, Nat.le_refl _, hw, fun e he hwe => h ⟨e, he, hwe⟩⟩
theorem isDist_one {d e m : Nat} (h : isDist n near s d m) (h' : isDist n near s e m) : d = e := by
 rcases Nat.lt_trichotomy d e with h1 | h1 | h1
 ·exact absurd h.1 (h'.2 d h1)
 ·exact h1
 ·exact absurd h'.1 (h.2 e h1)
theorem distZ_of {d m : Nat} (h : isDist n near s d m) : distZ n near s m = d := by
 have hex : ∃ d, isDist n near s d m := ⟨d, h⟩
 unfold distZ
 rw [dif_pos hex, isDist_one (Classical.choose_spec hex) h]
theorem distZ_no {m : Nat} (h : ∀ d, ¬ walk n near s d m) : distZ n near s m = -1 := by
 unfold distZ
 rw [dif_neg (fun ⟨d, hd⟩ => h d hd.1)]
theorem distZ_cases (m : Nat) : (∃ d, isDist n near s d m ∧ distZ n near s m = d) ∨ ((∀ d, ¬ walk n near s d m) ∧ distZ n near s m = -1) := by
 by_cases h : ∃ d, walk n near s d m
 ·obtain ⟨d, hd⟩ := h
  obtain ⟨e, _, he⟩ := least_dist d m hd
  exact .inl ⟨e, he, distZ_of he⟩
 ·have h' : ∀ d, ¬ walk n near s d m := fun d hd => h ⟨d, hd⟩
  exact .inr ⟨h', distZ_no h'⟩
structure Bfs (n : Nat) (near : Nat → Nat → Prop) (s : Nat) (L : Nat → Int) (Q : List Nat) : Prop where
 num : ∀ m, m < n → L m = -1 ∨ ∃ d : Nat, L m = d ∧ isDist n near s d m
 q : ∀ x ∈ Q, x < n ∧ 0 ≤ L x
 sorted : Q.Pairwise fun x y => L x ≤ L y
 close : ∀ x ∈ Q, ∀ y ∈ Q, L y ≤ L x + 1
 done : ∀ u, u < n → 0 ≤ L u → u ∉ Q → ∀ v, v < n → near u v → 0 ≤ L v
 src : s < n ∧ 0 ≤ L s
structure BfsIn (n : Nat) (near : Nat → Nat → Prop) (s : Nat) (k d i : Nat) (L : Nat → Int) (Q : List Nat) : Prop where
 num : ∀ m, m < n → L m = -1 ∨ ∃ d : Nat, L m = d ∧ isDist n near s d m
 q : ∀ x ∈ Q, x < n ∧ (d : Int) ≤ L x ∧ L x ≤ d + 1
 sorted : Q.Pairwise fun x y => L x ≤ L y
 done : ∀ u, u < n → 0 ≤ L u → u ∉ Q → u ≠ k → ∀ v, v < n → near u v → 0 ≤ L v
 here : k < n ∧ L k = d
 seen : ∀ v, v < i → v < n → near k v → 0 ≤ L v
 low : ∀ e v, e ≤ d → v < n → isDist n near s e v → 0 ≤ L v
 src : s < n ∧ 0 ≤ L s
def upd (L : Nat → Int) (m : Nat) (z : Int) : Nat → Int := fun x => if x = m then z else L x
theorem Bfs.start (hs : s < n) : Bfs n near s (upd (fun _ => -1) s 0) [s] where
 num := fun m _ => by
  unfold upd
  by_cases e : m = s
  ·subst e; exact .inr ⟨0, by simp, rfl, fun e he => by omega⟩
  ·exact .inl (if_neg e)
 q := fun x hx => by rw [List.mem_singleton.1 hx]; exact ⟨hs, by simp [upd]⟩
 sorted := by simp
 close := fun x hx y hy => by rw [List.mem_singleton.1 hx, List.mem_singleton.1 hy]; omega
 done := fun u _ hu hnq => by
  have : u ≠ s := fun e => hnq (by simp [e])
  simp [upd, this] at hu
 src := ⟨hs, by simp [upd]⟩
theorem Bfs.enter {L : Nat → Int} {k : Nat} {Q : List Nat} (h : Bfs n near s L (k :: Q)) : ∃ d, L k = (d : Nat) ∧ BfsIn n near s k d 0 L Q := by
 have hk := h.q k List.mem_cons_self
 obtain ⟨d, hd, hdist⟩ : ∃ d : Nat, L k = d ∧ isDist n near s d k := by
  rcases h.num k hk.1 with e | e
  ·omega
  ·exact e
 have hge : ∀ x ∈ Q, L k ≤ L x := fun x hx => (List.pairwise_cons.1 h.sorted).1 x hx
 refine ⟨d, hd, h.num, fun x hx => ?_, (List.pairwise_cons.1 h.sorted).2, fun u hu h0 hnq hne => h.done u hu h0 (fun hm => by
   rcases List.mem_cons.1 hm with e | e
   ·exact hne e
   ·exact hnq e), ⟨hk.1, hd⟩, fun v hv => by omega, ?_, h.src⟩
 ·have h1 := hge x hx
  have h2 := h.close k List.mem_cons_self x (List.mem_cons_of_mem _ hx)
  exact ⟨(h.q x (List.mem_cons_of_mem _ hx)).1, by omega, by omega⟩
 ·intro e
  induction e with
  | zero => intro v _ _ hv; have : v = s := hv.1; rw [this]; exact h.src.2
  | succ e ih =>
   intro v hle hvn hv
   obtain ⟨u, hun, hwu, hnear⟩ := hv.1
   have hu : isDist n near s e u := ⟨hwu, fun e' he' hw' => hv.2 (e' + 1) (by omega) ⟨u, hun, hw', hnear⟩⟩
   have hLu := ih u (by omega) hun hu
   have hLe : L u = e := by
    rcases h.num u hun with h1 | ⟨d', h1, h2⟩
    ·omega
    ·rw [h1, isDist_one h2 hu]
   refine h.done u hun hLu (fun hm => ?_) v hvn hnear
   rcases List.mem_cons.1 hm with e1 | e1
   ·subst e1; omega
   ·have := hge u e1; omega
theorem BfsIn.skip {L : Nat → Int} {k d i : Nat} {Q : List Nat} (h : BfsIn n near s k d i L Q) (hno : ¬ (L i < 0 ∧ near k i)) : BfsIn n near s k d (i + 1) L Q :=
 ⟨h.num, h.q, h.sorted, h.done, h.here, fun v hv hvn hnear => by
  rcases Nat.lt_or_ge v i with h1 | h1
  ·exact h.seen v h1 hvn hnear
  ·have : v = i := by omega
   subst this
   rcases (by omega : L v < 0 ∨ 0 ≤ L v) with h2 | h2
   ·exact absurd ⟨h2, hnear⟩ hno
   ·exact h2, h.low, h.src⟩
theorem BfsIn.step {L : Nat → Int} {k d i : Nat} {Q : List Nat} (h : BfsIn n near s k d i L Q) (hi : i < n) (h0 : L i < 0) (hnear : near k i) : BfsIn n near s k d (i + 1) (upd L i (d + 1)) (Q ++ [i]) := by
 have hkd : isDist n near s d k := by
  rcases h.num k h.here.1 with e | ⟨d', e, e'⟩
  ·have := h.here.2; omega
  ·have := h.here.2
   have : d' = d := by omega
   subst this; exact e'
 have hik : i ≠ k := fun e => by subst e; have := h.here.2; omega
 have other : ∀ x, x ≠ i → upd L i (d + 1) x = L x := fun x hx => if_neg hx
 have own : upd L i (d + 1) i = d + 1 := if_pos rfl
 have grown : ∀ x, 0 ≤ L x → 0 ≤ upd L i (d + 1) x := fun x hx => by
  by_cases e : x = i
  ·subst e; omega
  ·rw [other x e]; exact hx
 have hdi : isDist n near s (d + 1) i := ⟨⟨k, h.here.1, hkd.1, hnear⟩, fun e he hw => by
  obtain ⟨e', h1, h2⟩ := least_dist e i hw
  have := h.low e' i (by omega) hi h2
  omega⟩
 have hqi : ∀ x ∈ Q, x ≠ i := fun x hx e => by subst e; have := (h.q x hx).2.1; omega
 refine ⟨fun m hm => ?_, fun x hx => ?_, List.pairwise_append.2 ⟨?_, by simp, fun a ha b hb => ?_⟩, fun u hu hLu hnq hne v hv hnv => ?_, ⟨h.here.1, by rw [other k (fun e => hik e.symm)]; exact h.here.2⟩, fun v hv hvn hnv => ?_, fun e v he hv hd => grown v (h.low e v he hv hd), ⟨h.src.1, grown s h.src.2⟩⟩
 ·by_cases e : m = i
  ·subst e; exact .inr ⟨d + 1, by rw [own]; simp, hdi⟩
  ·rw [other m e]; exact h.num m hm
 ·rcases List.mem_append.1 hx with h1 | h1
  ·rw [other x (hqi x h1)]; exact h.q x h1
  ·rw [List.mem_singleton.1 h1, own]; exact ⟨hi, by omega, by omega⟩
 ·refine h.sorted.imp_of_mem fun {a b} ha hb hab => ?_
  rw [other a (hqi a ha), other b (hqi b hb)]; exact hab
 ·rw [List.mem_singleton.1 hb, own, other a (hqi a ha)]; exact (h.q a ha).2.2
 ·have hui : u ≠ i := fun e => hnq (by simp [e])
  rw [other u hui] at hLu
  exact grown v (h.done u hu hLu (fun hm => hnq (List.mem_append_left _ hm)) hne v hv hnv)
 ·rcases Nat.lt_or_ge v i with h1 | h1
  ·exact grown v (h.seen v h1 hvn hnv)
  ·have : v = i := by omega
   rw [this, own]; omega
theorem BfsIn.leave {L : Nat → Int} {k d : Nat} {Q : List Nat} (h : BfsIn n near s k d n L Q) : Bfs n near s L Q :=
 ⟨h.num, fun x hx => ⟨(h.q x hx).1, by have := (h.q x hx).2.1; omega⟩, h.sorted, fun x hx y hy => by have := h.q x hx; have := h.q y hy; omega,
  fun u hu hLu hnq v hv hnear => by
   by_cases e : u = k
   ·subst e; exact h.seen v hv hv hnear
   ·exact h.done u hu hLu hnq e v hv hnear, h.src⟩
theorem Bfs.finish {L : Nat → Int} (h : Bfs n near s L []) : ∀ m, m < n → L m = distZ n near s m := by
 have hall : ∀ d m, m < n → walk n near s d m → 0 ≤ L m := by
  intro d
  induction d with
  | zero => intro m _ hw; have : m = s := hw; rw [this]; exact h.src.2
  | succ d ih =>
   rintro m hm ⟨k, hk, hw, hnear⟩
   exact h.done k hk (ih k hk hw) (by simp) m hm hnear
 intro m hm
 rcases h.num m hm with e | ⟨d, e, hd⟩
 ·rw [e, distZ_no fun d hw => by have := hall d m hm hw; omega]
 ·rw [e, distZ_of hd]
def negs (n : Nat) (L : Nat → Int) : Nat := ((List.range n).filter fun x => decide (L x < 0)).length
theorem negs_le (L : Nat → Int) : negs n L ≤ n := by
 unfold negs
 exact Nat.le_trans (List.length_filter_le _ _) (by simp)
theorem negs_upd {L : Nat → Int} {m : Nat} (hm : m < n) (h0 : L m < 0) {z : Int} (hz : 0 ≤ z) : negs n (upd L m z) + 1 = negs n L := by
 unfold negs
 induction n with
 | zero => omega
 | succ n ih =>
  rw [List.range_succ, List.filter_append, List.filter_append, List.length_append, List.length_append]
  by_cases e : m = n
  ·subst e
   have h1 : ([m].filter fun x => decide (upd L m z x < 0)).length = 0 := by simp [upd]; omega
   have h2 : ([m].filter fun x => decide (L x < 0)).length = 1 := by simp [h0]
   have h3 : ((List.range m).filter fun x => decide (upd L m z x < 0)) = (List.range m).filter fun x => decide (L x < 0) := by
    refine List.filter_congr fun x hx => ?_
    have : x ≠ m := by have := List.mem_range.1 hx; omega
    simp [upd, this]
   rw [h1, h2, h3]
  ·have h1 : ([n].filter fun x => decide (upd L m z x < 0)) = [n].filter fun x => decide (L x < 0) := by
    refine List.filter_congr fun x hx => ?_
    have : x ≠ m := by rw [List.mem_singleton.1 hx]; omega
    simp [upd, this]
   rw [h1]
   have := ih (by omega)
   omega
theorem walk_app {d e u m : Nat} (_hu : u < n) (h : walk n near s d u) (h' : walk n near u e m) : walk n near s (d + e) m := by
 induction e generalizing m with
 | zero => have : m = u := h'; rw [this]; exact h
 | succ e ih =>
  obtain ⟨k, hk, hw, hnear⟩ := h'
  exact ⟨k, hk, ih hw, hnear⟩
theorem walk_one {m : Nat} (hs : s < n) (h : near s m) : walk n near s 1 m := ⟨s, hs, rfl, h⟩
theorem walk_back (hsym : ∀ a b, a < n → b < n → near a b → near b a) {m : Nat} (hs : s < n) : ∀ {d : Nat}, m < n → walk n near s d m → walk n near m d s := by
 intro d
 induction d generalizing m with
 | zero => intro _ h; exact (show m = s from h).symm
 | succ d ih =>
  rintro hm ⟨k, hk, hw, hnear⟩
  have h1 := ih hk hw
  have h2 : walk n near m 1 k := walk_one hm (hsym k m hk hm hnear)
  have := walk_app hk h2 h1
  rwa [Nat.add_comm] at this
end
end Go.Ev
