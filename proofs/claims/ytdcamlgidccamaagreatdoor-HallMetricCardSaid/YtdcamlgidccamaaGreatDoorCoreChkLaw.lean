/-
  Part of the engine that the claim is proved with: it states nothing of the document by itself.
-/
import Derived.Test.YtdcamlgidccamaaGreatDoorCoreChkB
import Derived.Test.YtdcamlgidccamaaGreatDoorCoreSort
open Go.Proofs
namespace Go.Ev
set_option maxRecDepth 100000
theorem vc43c : ∀ (p q : D),
  symFun (ctx (fun (x : FuncId) => none) permAnn) (3 : Nat) (43 : FuncId) [V.dat (29 : TypeId) p, V.dat (29 : TypeId) q] (V.prop (eqD p q)) =
    ((((↑p.len : Int) = (↑q.len : Int) → False) → (false = true ↔ p.len = q.len ∧ ∀ (i : Nat), i < p.len → atI p i = atI q i)) ∧
      ((((↑p.len : Int) = (↑q.len : Int) → False) → False) →
        (∃ (x : Nat), (x ≤ p.len ∧ ∀ (i : Nat), i < x → atI p i = atI q i) ∧ ((0 : Int) = (↑x : Int) ∧ True) ∧ True) ∧
          ∀ (x : Nat),
            (x ≤ p.len ∧ ∀ (i : Nat), i < x → atI p i = atI q i) →
              p.len - x < LIM ∧
                ((↑x : Int) < (↑p.len : Int) →
                    (0 : Int) ≤ (↑x : Int) ∧
                      (↑x : Int) < (↑p.len : Int) ∧
                        (0 : Int) ≤ (↑x : Int) ∧
                          (↑x : Int) < (↑q.len : Int) ∧
                            (((nthD p.asList (↑x : Int).toNat).asInt = (nthD q.asList (↑x : Int).toNat).asInt → False) →
                                (false = true ↔ p.len = q.len ∧ ∀ (i : Nat), i < p.len → atI p i = atI q i)) ∧
                              ((((nthD p.asList (↑x : Int).toNat).asInt = (nthD q.asList (↑x : Int).toNat).asInt → False) → False) →
                                ((-9223372036854775808 : Int) ≤ (↑x : Int) + (1 : Int) ∧ (↑x : Int) + (1 : Int) < (9223372036854775808 : Int)) ∧
                                  ∃ (y : Nat),
                                    (y ≤ p.len ∧ ∀ (i : Nat), i < y → atI p i = atI q i) ∧
                                      p.len - y < p.len - x ∧ ((↑x : Int) + (1 : Int) = (↑y : Int) ∧ True) ∧ True)) ∧
                  (((↑x : Int) < (↑p.len : Int) → False) → (true = true ↔ p.len = q.len ∧ ∀ (i : Nat), i < p.len → atI p i = atI q i)))) := by intros; kernel_rfl

theorem s43c (p q : D) (h : p.len ≤ 100) : symFun (ctx (fun _ => none) permAnn) 3 43 [V.dat 29 p, V.dat 29 q] (V.prop (eqD p q)) := by
  rw [vc43c]
  refine ⟨fun hne => ⟨fun h => by simp at h, fun hall => absurd (by rw [hall.1]) hne⟩, fun hnn => ?_⟩
  have hlen : p.len = q.len := by
    have : (p.len : Int) = (q.len : Int) := Classical.byContradiction hnn
    omega
  refine ⟨⟨0, ⟨Nat.zero_le _, fun i hi => by omega⟩, ⟨rfl, trivial⟩, trivial⟩, fun x ⟨hx, hinv⟩ => ⟨by unfold LIM; omega, fun hlt => ?_, fun hge => ⟨fun _ => ⟨hlen, fun i hi => hinv i (by have hge' : ¬ (x : Int) < p.len := hge; omega)⟩, fun _ => rfl⟩⟩⟩
  have ex : ((x : Int).toNat) = x := by omega
  rw [ex]
  refine ⟨by omega, hlt, by omega, by omega, fun hne => ⟨fun h => by simp at h, fun hall => absurd (hall.2 x (by omega)) hne⟩, fun hnn2 => ⟨by omega, x + 1, ⟨by omega, fun i hi => ?_⟩, by omega, ⟨by omega, trivial⟩, trivial⟩⟩
  rcases Nat.lt_or_ge i x with h1 | h1
  · exact hinv i h1
  · have : i = x := by omega
    subst this
    exact Classical.byContradiction hnn2


/-! ### The contracts hold -/
noncomputable def GC : Msk := { bits := 8148143480379123944539124198372026339899032286168269601245373172583125750031685756655763455, fast := false, ora := fun g => cond (Nat.beq g 21) (some (.bool true)) none, srt := rowsF }
abbrev VC (d : Nat) (g : FuncId) (c : Con) : Prop := Valid Tryz.prog GC (ev Tryz.prog GC d) g c
theorem v43c : ∀ d, 5 ≤ d → VC d 43 con43 := fun d hd =>
  valid_of_sym (C := ctx (fun _ => none) permAnn) (G := GC) (B := 2) (m := 3) rfl rfl rfl (fun _ _ _ _ h => by cases h) (fun us p r hc hp ht => by
    unfold con43 at hc; split at hc
    · cases hc; exact s43c _ _ hp
    · cases hc) (fun _ _ => rfl) rfl d hd
theorem v126 : ∀ d, 5 ≤ d → VC d 126 con126 := fun d hd =>
  valid_of_sym (C := ctx (fun _ => none) chkAnn) (G := GC) (B := 2) (m := 3) rfl rfl rfl (fun _ _ _ _ h => by cases h) (fun us p r hc hp ht => by
    unfold con126 at hc; split at hc
    · cases hc; exact s126 _
    · cases hc) (fun _ _ => rfl) rfl d hd
theorem v130 : ∀ d, 5 ≤ d → VC d 130 con126 := fun d hd =>
  valid_of_sym (C := ctx (fun _ => none) chkAnn) (G := GC) (B := 2) (m := 3) rfl rfl rfl (fun _ _ _ _ h => by cases h) (fun us p r hc hp ht => by
    unfold con126 at hc; split at hc
    · cases hc; exact s130 _
    · cases hc) (fun _ _ => rfl) rfl d hd
theorem v127 : ∀ d, 5 ≤ d → VC d 127 con127 := fun d hd =>
  valid_of_sym (C := ctx (fun _ => none) chkAnn) (G := GC) (B := 2) (m := 3) rfl rfl rfl (fun _ _ _ _ h => by cases h) (fun us p r hc hp ht => by
    unfold con127 at hc; split at hc
    · cases hc; exact s127 _ _ hp
    · cases hc) (fun _ _ => rfl) rfl d hd
theorem v28 : ∀ d, 5 ≤ d → VC d 28 con28 := fun d hd =>
  valid_of_sym (C := ctx (fun _ => none) chkAnn) (G := GC) (B := 2) (m := 3) rfl rfl rfl (fun _ _ _ _ h => by cases h) (fun us p r hc hp ht => by
    unfold con28 at hc; split at hc
    · cases hc; exact s28 _ _ _ _ _ _ _
    · cases hc) (fun _ _ => rfl) rfl d hd
theorem v114 : ∀ d, 5 ≤ d → VC d 114 con114 := fun d hd =>
  valid_of_sym (C := ctx (fun _ => none) chkAnn) (G := GC) (B := 2) (m := 3) rfl rfl rfl (fun _ _ _ _ h => by cases h) (fun us p r hc hp ht => by
    unfold con114 at hc; split at hc
    · cases hc; exact s114 _ _ hp
    · cases hc) (fun _ _ => rfl) rfl d hd
theorem vk1 : ∀ d, 5 ≤ d → ∀ g c, chk1 g = some c → VC d g c := fun d hd g c h => by
  unfold chk1 at h
  split at h
  · cases h; exact v43c d hd
  · cases h; exact v126 d hd
  · cases h; exact v130 d hd
  · cases h; exact v127 d hd
  · cases h; exact v28 d hd
  · cases h; exact v114 d hd
  · cases h
theorem v63 : ∀ d, 10 ≤ d → VC d 63 con63 := fun d hd =>
  valid_of_sym (C := ctx chk1 chkAnn) (G := GC) (B := 6) (m := 4) rfl rfl rfl (fun d hd => vk1 d (by omega)) (fun us p r hc hp ht => by
    unfold con63 at hc; split at hc
    · cases hc; exact s63 _ _ _ _ _ _ _ hp
    · cases hc) (fun _ _ => rfl) rfl d hd
open Classical in
theorem v68 : ∀ d, 10 ≤ d → VC d 68 con63 := fun d hd us p r hc hp => by
  have hc0 := hc
  unfold con63 at hc; split at hc
  · rename_i nm sh a b o x y
    exact valid_of_sym (C := ctx chk1 (chk68 o (sizeZ sh a b))) (G := GC) (B := 6) (m := 4) (g := 68) (c := fun us => if us = [.agg [.str nm, .int .u8 sh, .int .i64 a, .int .i64 b, .dat 29 o, .int .i64 x, .int .i64 y]] then con63 us else none) rfl rfl rfl (fun d hd => vk1 d (by omega)) (fun us p r hc hp ht => by
      split at hc
      · rename_i e; subst e
        have hc2 : some (o.len ≤ 100, V.int .i64 (errZ nm sh a b o x y)) = some (p, r) := hc
        cases hc2; exact s68 nm sh a b o x y hp
      · cases hc) (fun _ _ => rfl) rfl d hd _ p r (by show (if _ then _ else _) = _; rw [if_pos rfl]; exact hc0) hp
  · cases hc
theorem v93 : ∀ d, 10 ≤ d → VC d 93 con93 := fun d hd =>
  valid_of_sym (C := ctx chk1 chkAnn) (G := GC) (B := 5) (m := 5) rfl rfl rfl vk1 (fun us p r hc hp ht => by
    unfold con93 at hc; split at hc
    · cases hc; exact s93 _ _ _ _ _ _ _ hp
    · cases hc) (fun _ _ => rfl) rfl d hd
theorem v79 : ∀ d, 10 ≤ d → VC d 79 con79 := fun d hd =>
  valid_of_sym (C := ctx chk1 chkAnn) (G := GC) (B := 6) (m := 4) rfl rfl rfl (fun d hd => vk1 d (by omega)) (fun us p r hc hp ht => by
    unfold con79 at hc; split at hc
    · cases hc; exact s79 _ _ _ _ _ _ _ _ _ _ _ _ _ _ hp
    · cases hc) (fun _ _ => rfl) rfl d hd
theorem vk2 : ∀ d, 10 ≤ d → ∀ g c, chk2 g = some c → VC d g c := fun d hd g c h => by
  unfold chk2 at h
  split at h
  · cases h; exact v63 d hd
  · cases h; exact v68 d hd
  · cases h; exact v93 d hd
  · cases h; exact v79 d hd
  · exact vk1 d (by omega) _ c h
theorem v62 : ∀ d, 15 ≤ d → VC d 62 con62 := fun d hd =>
  valid_of_sym (C := ctx chk2 chkAnn) (G := GC) (B := 10) (m := 5) rfl rfl rfl vk2 (fun us p r hc hp ht => by
    unfold con62 at hc; split at hc
    · cases hc; exact s62 _ hp
    · cases hc) (fun _ _ => rfl) rfl d hd
theorem v67 : ∀ d, 15 ≤ d → VC d 67 con62 := fun d hd =>
  valid_of_sym (C := ctx chk2 chkAnn) (G := GC) (B := 10) (m := 5) rfl rfl rfl vk2 (fun us p r hc hp ht => by
    unfold con62 at hc; split at hc
    · cases hc; exact s67 _ hp
    · cases hc) (fun _ _ => rfl) rfl d hd
theorem v92 : ∀ d, 15 ≤ d → VC d 92 con92 := fun d hd =>
  valid_of_sym (C := ctx chk2 chkAnn) (G := GC) (B := 10) (m := 5) rfl rfl rfl vk2 (fun us p r hc hp ht => by
    unfold con92 at hc; split at hc
    · cases hc; exact s92 _ _ hp.1 hp.2.1 hp.2.2
    · cases hc) (fun _ _ => rfl) rfl d hd
theorem v70 : ∀ d, 15 ≤ d → VC d 70 con70 := fun d hd =>
  valid_of_sym (C := ctx chk2 chkAnn) (G := GC) (B := 10) (m := 5) rfl rfl rfl vk2 (fun us p r hc hp ht => by
    unfold con70 at hc; split at hc
    · cases hc; exact s70 _ _ hp.1 hp.2.1 hp.2.2
    · cases hc) (fun _ _ => rfl) rfl d hd
theorem v69 : ∀ d, 15 ≤ d → VC d 69 con69 := fun d hd =>
  valid_of_sym (C := ctx chk2 chkAnn) (G := GC) (B := 10) (m := 5) rfl rfl rfl vk2 (fun us p r hc hp ht => by
    unfold con69 at hc; split at hc
    · cases hc; exact s69 _ hp
    · cases hc) (fun _ _ => rfl) rfl d hd
theorem v66 : ∀ d, 15 ≤ d → VC d 66 con66 := fun d hd =>
  valid_of_sym (C := ctx chk2 chkAnn) (G := GC) (B := 10) (m := 5) rfl rfl rfl vk2 (fun us p r hc hp ht => by
    unfold con66 at hc; split at hc
    · cases hc; exact s66 _ hp
    · cases hc) (fun _ _ => rfl) rfl d hd
theorem v60 : ∀ d, 15 ≤ d → VC d 60 con60 := fun d hd =>
  valid_of_sym (C := ctx chk2 chkAnn) (G := GC) (B := 10) (m := 5) rfl rfl rfl vk2 (fun us p r hc hp ht => by
    unfold con60 at hc; split at hc
    · cases hc; exact s60 _ _ hp
    · cases hc) (fun _ _ => rfl) rfl d hd
theorem v19 : ∀ d, 15 ≤ d → VC d 19 con19 := fun d hd =>
  valid_of_sym (C := ctx chk2 chkAnn) (G := GC) (B := 10) (m := 5) rfl rfl rfl vk2 (fun us p r hc hp ht => by
    unfold con19 at hc; split at hc
    · cases hc; exact s19 _
    · cases hc) (fun _ _ => rfl) rfl d hd
theorem vk3 : ∀ d, 15 ≤ d → ∀ g c, chk3 g = some c → VC d g c := fun d hd g c h => by
  unfold chk3 at h
  split at h
  · cases h; exact v62 d hd
  · cases h; exact v67 d hd
  · cases h; exact v92 d hd
  · cases h; exact v70 d hd
  · cases h; exact v69 d hd
  · cases h; exact v66 d hd
  · cases h; exact v60 d hd
  · cases h; exact v19 d hd
  · exact vk2 d (by omega) _ c h
end Go.Ev
