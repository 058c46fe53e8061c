/-
  Part of the engine that the claim is proved with: it states nothing of the document by itself.
-/
import Derived.Test.YtidhienppjdimaaGreatDoorCoreCcC
import Derived.Test.YtidhienppjdimaaGreatDoorCoreAwake
import Derived.Test.YtidhienppjdimaaGreatDoorCoreG25
import Derived.Test.YtidhienppjdimaaGreatDoorCoreSeF
import Derived.Test.YtidhienppjdimaaGreatDoorCoreG22

section
open Go.Proofs
namespace Go.Ev
set_option maxRecDepth 100000
noncomputable def GC : Msk := { bits := GB, fast := false, ora := fun g => cond (Nat.beq g 10) (some (.bool true)) none }
abbrev VC (d : Nat) (g : FuncId) (c : Con) : Prop := Valid Tryz.prog GC (ev Tryz.prog GC d) g c
theorem vnone (d : Nat) : ∀ g c, (fun _ : FuncId => (none : Option Con)) g = some c → VC d g c := fun _ _ h => by cases h
theorem v107 : ∀ d, 5 ≤ d → VC d 107 con107 := fun d hd =>
 valid_of_sym (C := ctx (fun _ => none) ccAnn) (G := GC) (B := 2) (m := 3) rfl rfl rfl (fun d _ => vnone d) (fun us p r hc hp ht => by
  unfold con107 at hc; split at hc
  ·cases hc; exact s107 _ _ hp
  ·cases hc) (fun _ _ => rfl) rfl rfl d hd
theorem v116 : ∀ d, 5 ≤ d → VC d 116 con107 := fun d hd =>
 valid_of_sym (C := ctx (fun _ => none) ccAnn) (G := GC) (B := 2) (m := 3) rfl rfl rfl (fun d _ => vnone d) (fun us p r hc hp ht => by
  unfold con107 at hc; split at hc
  ·cases hc; exact s116 _ _ hp
  ·cases hc) (fun _ _ => rfl) rfl rfl d hd
theorem v115 : ∀ d, 5 ≤ d → VC d 115 con115 := fun d hd =>
 valid_of_sym (C := ctx (fun _ => none) ccAnn) (G := GC) (B := 2) (m := 3) rfl rfl rfl (fun d _ => vnone d) (fun us p r hc hp ht => by
  unfold con115 at hc; split at hc
  ·cases hc; exact s115 _
  ·cases hc) (fun _ _ => rfl) rfl rfl d hd
theorem v77 : ∀ d, 5 ≤ d → VC d 77 con77 := fun d hd =>
 valid_of_sym (C := ctx (fun _ => none) ccAnn) (G := GC) (B := 2) (m := 3) rfl rfl rfl (fun d _ => vnone d) (fun us p r hc hp ht => by
  unfold con77 at hc; split at hc
  ·cases hc; exact s77 _ _ hp
  ·cases hc) (fun _ _ => rfl) rfl rfl d hd
theorem v114 : ∀ d, 5 ≤ d → VC d 114 con114 := fun d hd =>
 valid_of_sym (C := ctx (fun _ => none) ccAnn) (G := GC) (B := 2) (m := 3) rfl rfl rfl (fun d _ => vnone d) (fun us p r hc hp ht => by
  unfold con114 at hc; split at hc
  ·cases hc; exact s114 _ _ _ _ _
  ·cases hc) (fun _ _ => rfl) rfl rfl d hd
theorem v91 : ∀ d, 5 ≤ d → VC d 91 con114 := fun d hd =>
 valid_of_sym (C := ctx (fun _ => none) ccAnn) (G := GC) (B := 2) (m := 3) rfl rfl rfl (fun d _ => vnone d) (fun us p r hc hp ht => by
  unfold con114 at hc; split at hc
  ·cases hc; exact s91 _ _ _ _ _
  ·cases hc) (fun _ _ => rfl) rfl rfl d hd
theorem vN (d : Nat) (g : FuncId) : VC d g conN := by
 intro us p r hc hp σ H vs hst hl
 unfold conN at hc
 split at hc
 ·cases hc; exact hp.elim
 ·cases hc
theorem vcc0 (d : Nat) : ∀ g c, cc0 g = some c → VC d g c := fun g c h => by
 unfold cc0 at h
 split at h
 ·cases h; exact vN d _
 ·cases h; exact vN d _
 ·cases h
theorem v90 : ∀ d, 8 ≤ d → VC d 90 con115 := fun d hd =>
 valid_of_sym (C := ctx cc0 ccAnn) (G := GC) (B := 2) (m := 6) rfl rfl rfl (fun d _ => vcc0 d) (fun us p r hc hp ht => by
  unfold con115 at hc; split at hc
  ·cases hc; exact s90 _
  ·cases hc) (fun _ _ => rfl) rfl rfl d hd
theorem vcc1 : ∀ d, 8 ≤ d → ∀ g c, cc1 g = some c → VC d g c := fun d hd g c h => by
 unfold cc1 at h
 split at h
 ·cases h; exact v107 d (by omega)
 ·cases h; exact v116 d (by omega)
 ·cases h; exact v115 d (by omega)
 ·cases h; exact v90 d (by omega)
 ·cases h; exact v77 d (by omega)
 ·cases h; exact v114 d (by omega)
 ·cases h; exact v91 d (by omega)
 ·cases h
theorem v92 : ∀ d, 11 ≤ d → VC d 92 con92 := fun d hd =>
 valid_of_sym (C := ctx cc1 ccAnn) (G := GC) (B := 8) (m := 3) rfl rfl rfl vcc1 (fun us p r hc hp ht => by
  unfold con92 at hc; split at hc
  ·cases hc; exact s92 _ hp
  ·cases hc) (fun _ _ => rfl) rfl rfl d hd
theorem v93 : ∀ d, 14 ≤ d → VC d 93 con93 := fun d hd => by
 intro us p r hc hp
 unfold con93 at hc; split at hc
 ·rename_i c s
  cases hc
  have := valid_of_sym (C := ctx cc1 (lstAnn s)) (G := GC) (B := 8) (m := 6) (g := 93) (c := fun us => match us with | [.dat 22 c', .str s'] => some (smallC c' ∧ s' = s, .prop (listedP c' c'.len s')) | _ => none) rfl rfl rfl vcc1 (fun us p r hc hp ht => by
   split at hc
   ·cases hc; obtain ⟨h1, rfl⟩ := hp; exact s93 _ _ h1
   ·cases hc) (fun _ _ => rfl) rfl rfl d hd
  exact this [.dat 22 c, .str s] _ _ rfl ⟨hp, rfl⟩
 ·cases hc
theorem v55 : ∀ d, 11 ≤ d → VC d 55 con55 := fun d hd =>
 valid_of_sym (C := ctx cc1 ccAnn) (G := GC) (B := 8) (m := 3) rfl rfl rfl vcc1 (fun us p r hc hp ht => by
  unfold con55 at hc; split at hc
  ·cases hc; exact s55 _ _ _ _ _ _ _ _ _ _ hp
  ·cases hc) (fun _ _ => rfl) rfl rfl d hd
theorem vcc2 : ∀ d, 14 ≤ d → ∀ g c, cc2 g = some c → VC d g c := fun d hd g c h => by
 unfold cc2 at h
 split at h
 ·cases h; exact v92 d (by omega)
 ·cases h; exact v93 d (by omega)
 ·cases h; exact v55 d (by omega)
 ·exact vcc1 d (by omega) _ c h
theorem v65 : ∀ d, 20 ≤ d → VC d 65 con65 := fun d hd =>
 valid_of_sym (C := ctx cc2 ccAnn) (G := GC) (B := 14) (m := 6) rfl rfl rfl vcc2 (fun us p r hc hp ht => by
  unfold con65 at hc; split at hc
  ·cases hc; exact s65 _ _ _ _ _ _ hp.1 hp.2
  ·cases hc) (fun _ _ => rfl) rfl rfl d hd
theorem v72 : ∀ d, 11 ≤ d → VC d 72 con72 := fun d hd =>
 valid_of_sym (C := ctx cc1 ccAnn) (G := GC) (B := 8) (m := 3) rfl rfl rfl vcc1 (fun us p r hc hp ht => by
  unfold con72 at hc; split at hc
  ·cases hc; exact s72 _ _ hp.1 hp.2
  ·cases hc) (fun _ _ => rfl) rfl rfl d hd
theorem v32 : ∀ d, 19 ≤ d → VC d 32 con32 := fun d hd =>
 valid_of_sym (C := ctx cc2 ccAnn) (G := GC) (B := 14) (m := 5) rfl rfl rfl vcc2 (fun us p r hc hp ht => by
  unfold con32 at hc; split at hc
  ·cases hc; exact s32 _ _ hp
  ·cases hc) (fun _ _ => rfl) rfl rfl d hd
theorem v28 : ∀ d, 7 ≤ d → VC d 28 con28 := fun d hd =>
 valid_of_sym (C := ctx (fun _ => none) ccAnn) (G := GC) (B := 2) (m := 5) rfl rfl rfl (fun d _ => vnone d) (fun us p r hc hp ht => by
  unfold con28 at hc; split at hc
  ·cases hc; exact s28 _ hp
  ·cases hc) (fun _ _ => rfl) rfl rfl d hd
theorem v7 : ∀ d, 10 ≤ d → VC d 7 con7 := fun d hd =>
 valid_of_sym (C := ctx (fun _ => none) fewAnn) (G := GC) (B := 2) (m := 8) rfl rfl rfl (fun d _ => vnone d) (fun us p r hc hp ht => by
  unfold con7 at hc; split at hc
  ·cases hc; exact sl7 _
  ·cases hc) (fun _ _ => rfl) rfl rfl d hd
theorem vcc3 : ∀ d, 20 ≤ d → ∀ g c, cc3 g = some c → VC d g c := fun d hd g c h => by
 unfold cc3 at h
 split at h
 ·cases h; exact v65 d (by omega)
 ·cases h; exact v72 d (by omega)
 ·cases h; exact v32 d (by omega)
 ·cases h; exact v28 d (by omega)
 ·cases h; exact v7 d (by omega)
 ·exact vcc2 d (by omega) _ c h
theorem v45 : ∀ d, 25 ≤ d → VC d 45 con45 := fun d hd =>
 valid_of_sym (C := ctx cc3 ccAnn) (G := GC) (B := 20) (m := 5) rfl rfl rfl vcc3 (fun us p r hc hp ht => by
  unfold con45 at hc; split at hc
  ·cases hc; exact s45 _ hp
  ·cases hc) (fun _ _ => rfl) rfl rfl d hd
theorem v52 : ∀ d, 25 ≤ d → VC d 52 con45 := fun d hd =>
 valid_of_sym (C := ctx cc3 ccAnn) (G := GC) (B := 20) (m := 5) rfl rfl rfl vcc3 (fun us p r hc hp ht => by
  unfold con45 at hc; split at hc
  ·cases hc; exact s52 _ hp
  ·cases hc) (fun _ _ => rfl) rfl rfl d hd
theorem vcc4 : ∀ d, 25 ≤ d → ∀ g c, cc4 g = some c → VC d g c := fun d hd g c h => by
 unfold cc4 at h
 split at h
 ·cases h; exact v45 d (by omega)
 ·cases h; exact v52 d (by omega)
 ·exact vcc3 d (by omega) _ c h
end Go.Ev

end

section
open Go.Proofs
namespace Go.Ev
set_option maxRecDepth 100000
abbrev VF (d : Nat) (cf : D → Con) : Prop := ValidF Tryz.prog GC (ev Tryz.prog GC d) cf
theorem vFn (d : Nat) : ∀ t c, (fun _ : TypeId => (none : Option (D → Con))) t = some c → VF d c := fun _ _ h => (noneF h).elim
theorem g_of {v : V} {g : GD} (h : gOf v = some g) : v = gV g := by
 unfold gOf at h
 split at h
 ·cases h; rfl
 ·cases h
theorem p_of {v : V} {g : GD} {p : Int} (h : pOf v = some (g, p)) : v = pV g p := by
 unfold pOf at h
 split at h
 ·cases h; rfl
 ·cases h
theorem v100 : ∀ d, 6 ≤ d → VC d 100 con100 := fun d hd =>
 valid_of_symF (C := ctxm (fun _ => none) (fun _ => none) cmAnn) (G := GC) (B := 2) (m := 4) rfl rfl rfl (fun d _ => vnone d) (fun d _ => vFn d) (fun us p r hc hp ht => by
  unfold con100 at hc
  split at hc
  ·cases hc; exact s100 _ _
  ·cases hc) (fun _ _ => rfl) rfl rfl d hd
theorem v110 : ∀ d, 6 ≤ d → VC d 110 con110 := fun d hd =>
 valid_of_symF (C := ctxm (fun _ => none) (fun _ => none) cmAnn) (G := GC) (B := 2) (m := 4) rfl rfl rfl (fun d _ => vnone d) (fun d _ => vFn d) (fun us p r hc hp ht => by
  unfold con110 at hc
  split at hc
  ·cases hc; exact s110 _ _
  ·cases hc) (fun _ _ => rfl) rfl rfl d hd
theorem v132 : ∀ d, 5 ≤ d → VC d 132 con132 := fun d hd =>
 valid_of_symF (C := ctxm (fun _ => none) (fun _ => none) cmAnn) (G := GC) (B := 2) (m := 3) rfl rfl rfl (fun d _ => vnone d) (fun d _ => vFn d) (fun us p r hc hp ht => by
  unfold con132 at hc
  split at hc
  ·cases hc; exact s132 _ _ hp
  ·cases hc) (fun _ _ => rfl) rfl rfl d hd
theorem v73 : ∀ d, 5 ≤ d → VC d 73 con73 := fun d hd =>
 valid_of_symF (C := ctxm (fun _ => none) (fun _ => none) cmAnn) (G := GC) (B := 2) (m := 3) rfl rfl rfl (fun d _ => vnone d) (fun d _ => vFn d) (fun us p r hc hp ht => by
  unfold con73 at hc
  split at hc
  ·cases hc; exact s73 _ _ hp
  ·cases hc) (fun _ _ => rfl) rfl rfl d hd
theorem vcm0 : ∀ d, 6 ≤ d → ∀ g c, cm0 g = some c → VC d g c := fun d hd g c h => by
 unfold cm0 at h
 split at h
 ·cases h; exact v107 d (by omega)
 ·cases h; exact v100 d (by omega)
 ·cases h; exact v110 d (by omega)
 ·cases h; exact v132 d (by omega)
 ·cases h
theorem v101 : ∀ d, 10 ≤ d → VC d 101 con101 := fun d hd =>
 valid_of_symF (C := ctxm cm0 (fun _ => none) cmAnn) (G := GC) (B := 6) (m := 4) rfl rfl rfl vcm0 (fun d _ => vFn d) (fun us p r hc hp ht => by
  unfold con101 at hc
  split at hc
  ·cases hc; exact s101 _ _
  ·cases hc) (fun _ _ => rfl) rfl rfl d hd
theorem v131 : ∀ d, 9 ≤ d → VC d 131 con131 := fun d hd =>
 valid_of_symF (C := ctxm cm0 (fun _ => none) cmAnn) (G := GC) (B := 6) (m := 3) rfl rfl rfl vcm0 (fun d _ => vFn d) (fun us p r hc hp ht => by
  unfold con131 at hc
  split at hc
  ·split at hc
   ·rename_i q; cases hc; rw [p_of q]; exact s131 _ _ _ hp
   ·cases hc
  ·cases hc) (fun _ _ => rfl) rfl rfl d hd
theorem v103 : ∀ d, 9 ≤ d → VC d 103 con103 := fun d hd =>
 valid_of_symF (C := ctxm cm0 (fun _ => none) cmAnn) (G := GC) (B := 6) (m := 3) rfl rfl rfl vcm0 (fun d _ => vFn d) (fun us p r hc hp ht => by
  unfold con103 at hc
  split at hc
  ·split at hc
   ·rename_i q; cases hc; rw [p_of q]; exact s103 _ _ _
   ·cases hc
  ·cases hc) (fun _ _ => rfl) rfl rfl d hd
theorem v104 : ∀ d, 9 ≤ d → VC d 104 con104 := fun d hd =>
 valid_of_symF (C := ctxm cm0 (fun _ => none) cmAnn) (G := GC) (B := 6) (m := 3) rfl rfl rfl vcm0 (fun d _ => vFn d) (fun us p r hc hp ht => by
  unfold con104 at hc
  split at hc
  ·split at hc
   ·rename_i q; cases hc; rw [p_of q]; exact s104 _ _
   ·cases hc
  ·cases hc) (fun _ _ => rfl) rfl rfl d hd
theorem v134 : ∀ d, 9 ≤ d → VC d 134 con134 := fun d hd =>
 valid_of_symF (C := ctxm cm0 (fun _ => none) cmAnn) (G := GC) (B := 6) (m := 3) rfl rfl rfl vcm0 (fun d _ => vFn d) (fun us p r hc hp ht => by
  unfold con134 at hc
  split at hc
  ·split at hc
   ·rename_i q; cases hc; rw [p_of q]; exact s134 _ _
   ·cases hc
  ·cases hc) (fun _ _ => rfl) rfl rfl d hd
theorem v108 : ∀ d, 9 ≤ d → VC d 108 con108 := fun d hd =>
 valid_of_symF (C := ctxm cm0 (fun _ => none) cmAnn) (G := GC) (B := 6) (m := 3) rfl rfl rfl vcm0 (fun d _ => vFn d) (fun us p r hc hp ht => by
  unfold con108 at hc
  split at hc
  ·split at hc
   ·rename_i q; cases hc; rw [p_of q]; exact s108 _ _ _ hp
   ·cases hc
  ·cases hc) (fun _ _ => rfl) rfl rfl d hd
theorem v112 : ∀ d, 9 ≤ d → VC d 112 con112 := fun d hd =>
 valid_of_symF (C := ctxm cm0 (fun _ => none) cmAnn) (G := GC) (B := 6) (m := 3) rfl rfl rfl vcm0 (fun d _ => vFn d) (fun us p r hc hp ht => by
  unfold con112 at hc
  split at hc
  ·cases hc; exact s112 _
  ·cases hc) (fun _ _ => rfl) rfl rfl d hd
theorem v113 : ∀ d, 9 ≤ d → VC d 113 con113 := fun d hd =>
 valid_of_symF (C := ctxm cm0 (fun _ => none) cmAnn) (G := GC) (B := 6) (m := 3) rfl rfl rfl vcm0 (fun d _ => vFn d) (fun us p r hc hp ht => by
  unfold con113 at hc
  split at hc
  ·cases hc; exact s113 _ _ hp.1 hp.2.1 hp.2.2
  ·cases hc) (fun _ _ => rfl) rfl rfl d hd
theorem v140 : ∀ d, 9 ≤ d → VC d 140 con140 := fun d hd =>
 valid_of_symF (C := ctxm cm0 (fun _ => none) cmAnn) (G := GC) (B := 6) (m := 3) rfl rfl rfl vcm0 (fun d _ => vFn d) (fun us p r hc hp ht => by
  unfold con140 at hc
  split at hc
  ·cases hc; exact s140 _
  ·cases hc) (fun _ _ => rfl) rfl rfl d hd
open Classical in
theorem v105 : ∀ d, 12 ≤ d → VC d 105 con105 := fun d hd us p r hc hp => by
 have hc0 := hc
 unfold con105 at hc; split at hc
 ·rename_i q x
  exact valid_of_symF (C := ctxm cm0 (fun _ => none) (tgAnn (cNm x))) (G := GC) (B := 6) (m := 6) (g := 105) (c := fun us => if us = [q, .dpt 57 x] then con105 us else none) rfl rfl rfl vcm0 (fun d _ => vFn d) (fun us p r hc hp ht => by
   split at hc
   ·rename_i e; subst e
    unfold con105 at hc
    simp only at hc
    split at hc
    ·rename_i h; cases hc; rw [p_of h]; exact s105 _ _ _ hp.1 hp.2
    ·cases hc
   ·cases hc) (fun _ _ => rfl) rfl rfl d hd _ p r (by show (if _ then _ else _) = _; rw [if_pos rfl]; exact hc0) hp
 ·cases hc
theorem disp (g : FuncId) (h1 : externA Tryz.prog g [undef] = none) (h2 : Nat.beq g 10 = false) : Disp Tryz.prog GC g := ⟨rfl, h1, by show cond (Nat.beq g 10) _ _ = none; rw [h2]; rfl, fun _ => rfl, rfl, rfl⟩
theorem ds131 : Disp Tryz.prog GC 131 := disp 131 (by kernel_rfl) rfl
theorem ds103 : Disp Tryz.prog GC 103 := disp 103 (by kernel_rfl) rfl
theorem ds104 : Disp Tryz.prog GC 104 := disp 104 (by kernel_rfl) rfl
theorem ds105 : Disp Tryz.prog GC 105 := disp 105 (by kernel_rfl) rfl
theorem ds108 : Disp Tryz.prog GC 108 := disp 108 (by kernel_rfl) rfl
theorem ds134 : Disp Tryz.prog GC 134 := disp 134 (by kernel_rfl) rfl
theorem ds100 : Disp Tryz.prog GC 100 := disp 100 (by kernel_rfl) rfl
theorem ds101 : Disp Tryz.prog GC 101 := disp 101 (by kernel_rfl) rfl
theorem ds112 : Disp Tryz.prog GC 112 := disp 112 (by kernel_rfl) rfl
theorem ds113 : Disp Tryz.prog GC 113 := disp 113 (by kernel_rfl) rfl
theorem ds140 : Disp Tryz.prog GC 140 := disp 140 (by kernel_rfl) rfl
theorem ds133 : Disp Tryz.prog GC 133 := disp 133 (by kernel_rfl) rfl
theorem ds138 : Disp Tryz.prog GC 138 := disp 138 (by kernel_rfl) rfl
theorem ds109 : Disp Tryz.prog GC 109 := disp 109 (by kernel_rfl) rfl
theorem ds141 : Disp Tryz.prog GC 141 := disp 141 (by kernel_rfl) rfl
theorem ds135 : Disp Tryz.prog GC 135 := disp 135 (by kernel_rfl) rfl
theorem ds97 : Disp Tryz.prog GC 97 := disp 97 (by kernel_rfl) rfl
theorem vR : ∀ d, 12 ≤ d → VF d conR := fun d hd => validF_of fun f us p r hc hp => by
 unfold conR at hc; split at hc
 ·split at hc
  ·rename_i h; cases hc; rw [p_of h]
   obtain ⟨nm, rfl, hl⟩ := hp.out
   exact ⟨_, _, _, con131, _, rfl, ds131, v131 d (by omega), rfl, hl⟩
  ·cases hc
 ·cases hc
theorem vNm : ∀ d, 12 ≤ d → VF d conNm := fun d hd => validF_of fun f us p r hc hp => by
 unfold conNm at hc; split at hc
 ·split at hc
  ·rename_i h; cases hc; rw [p_of h]
   obtain ⟨ho, htg⟩ := hp
   rcases ho.out with ⟨x, rfl⟩ | rfl | ⟨x, rfl, hx⟩ | ⟨x, rfl, hx⟩ | rfl
   ·exact ⟨_, _, _, con103, True, rfl, ds103, v103 d (by omega), (by rw [show runN _ _ = _ from propext (runN_103 x _)]; rfl), trivial⟩
   ·exact ⟨_, _, _, con104, True, rfl, ds104, v104 d (by omega), (by rw [show runN _ _ = _ from propext (runN_104 _)]; rfl), trivial⟩
   ·exact ⟨_, _, _, con105, _, rfl, ds105, v105 d (by omega), (by rw [show runN _ _ = _ from propext (runN_105 x _)]; rfl), And.intro htg hx⟩
   ·exact ⟨_, _, _, con108, _, rfl, ds108, v108 d (by omega), (by rw [show runN _ _ = _ from propext (runN_108 x _)]; rfl), hx⟩
   ·exact ⟨_, _, _, con134, True, rfl, ds134, v134 d (by omega), (by rw [show runN _ _ = _ from propext (runN_134 _)]; rfl), trivial⟩
  ·cases hc
 ·cases hc
theorem vC : ∀ d, 12 ≤ d → VF d conC := fun d hd => validF_of fun f us p r hc hp => by
 unfold conC at hc; split at hc
 ·cases hc
  rcases hp.out with rfl | rfl
  ·exact ⟨_, _, _, con100, True, rfl, ds100, v100 d (by omega), rfl, trivial⟩
  ·exact ⟨_, _, _, con101, True, rfl, ds101, v101 d (by omega), rfl, trivial⟩
 ·cases hc
theorem vK : ∀ d, 12 ≤ d → VF d conK := fun d hd => validF_of fun f us p r hc hp => by
 unfold conK at hc; split at hc
 ·cases hc
  obtain ⟨ho, hb⟩ := hp
  rcases ho.out with rfl | ⟨x, rfl, hx, hx'⟩
  ·exact ⟨_, _, _, con112, True, rfl, ds112, v112 d (by omega), rfl, trivial⟩
  ·exact ⟨_, _, _, con113, _, rfl, ds113, v113 d (by omega), rfl, hb, hx, hx'⟩
 ·cases hc
theorem vB : ∀ d, 12 ≤ d → VF d conB := fun d hd => validF_of fun f us p r hc hp => by
 unfold conB at hc; split at hc
 ·cases hc
  have hp : f = .fn 140 [] [] := hp
  subst hp
  exact ⟨_, _, _, con140, True, rfl, ds140, v140 d (by omega), rfl, trivial⟩
 ·cases hc
theorem vF1 : ∀ d, 12 ≤ d → ∀ t c, cF1 t = some c → VF d c := fun d hd t c h => by
 unfold cF1 at h
 split at h
 ·cases h; exact vR d hd
 ·cases h; exact vNm d hd
 ·cases h; exact vC d hd
 ·cases h; exact vK d hd
 ·cases h; exact vB d hd
 ·cases h
theorem v133 : ∀ d, 15 ≤ d → VC d 133 con133 := fun d hd =>
 valid_of_symF (C := ctxm cm0 cF1 cmAnn) (G := GC) (B := 12) (m := 3) rfl rfl rfl (fun d hd => vcm0 d (by omega)) vF1 (fun us p r hc hp ht => by
  unfold con133 at hc
  split at hc
  ·split at hc
   ·rename_i q1 q2; cases hc; rw [p_of q1, p_of q2]; exact s133 _ _ _ _ _ hp
   ·cases hc
  ·cases hc) (fun _ _ => rfl) rfl rfl d hd
theorem v138 : ∀ d, 15 ≤ d → VC d 138 con138 := fun d hd =>
 valid_of_symF (C := ctxm cm0 cF1 cmAnn) (G := GC) (B := 12) (m := 3) rfl rfl rfl (fun d hd => vcm0 d (by omega)) vF1 (fun us p r hc hp ht => by
  unfold con138 at hc
  split at hc
  ·split at hc
   ·rename_i q1 q2; cases hc; rw [p_of q1, p_of q2]; exact s138 _ _ _ _ _ _ hp.1 hp.2.1 hp.2.2
   ·cases hc
  ·cases hc) (fun _ _ => rfl) rfl rfl d hd
theorem v109 : ∀ d, 15 ≤ d → VC d 109 con109 := fun d hd =>
 valid_of_symF (C := ctxm cm0 cF1 cmAnn) (G := GC) (B := 12) (m := 3) rfl rfl rfl (fun d hd => vcm0 d (by omega)) vF1 (fun us p r hc hp ht => by
  unfold con109 at hc
  split at hc
  ·split at hc
   ·rename_i q1 q2; cases hc; rw [p_of q1, p_of q2]; exact s109 _ _ _ _
   ·cases hc
  ·cases hc) (fun _ _ => rfl) rfl rfl d hd
theorem v141 : ∀ d, 15 ≤ d → VC d 141 con141 := fun d hd =>
 valid_of_symF (C := ctxm cm0 cF1 cmAnn) (G := GC) (B := 12) (m := 3) rfl rfl rfl (fun d hd => vcm0 d (by omega)) vF1 (fun us p r hc hp ht => by
  unfold con141 at hc
  split at hc
  ·split at hc
   ·rename_i q1 q2; cases hc; rw [p_of q1, p_of q2]; exact s141 _ _ _ _ _ _ hp.1 hp.2
   ·cases hc
  ·cases hc) (fun _ _ => rfl) rfl rfl d hd
theorem conT1_go {d : Nat} (hd : 15 ≤ d) {f : D} (ho : okT1 f) {a b : GD} {i j : Int} (ha : a.tg.len ≤ 100) (hb : b.tg.len ≤ 100) : ∃ (g : FuncId) (ts : List TypeId) (ds : List D) (c : Con) (p' : Prop), f = .fn g ts ds ∧ Disp Tryz.prog GC g ∧ VC d g c ∧ c ([pV a i, pV b j] ++ capsV ts ds) = some (p', .int .i64 (runT1 f a b i j)) ∧ p' := by
 rcases ho.out with ⟨r, rfl, hr⟩ | ⟨n, la, rfl, hn⟩ | rfl | ⟨k, rfl, hk⟩
 ·exact ⟨_, _, _, con133, _, rfl, ds133, v133 d (by omega), rfl, hr⟩
 ·exact ⟨_, _, _, con138, _, rfl, ds138, v138 d (by omega), (by rw [runT1_138]; rfl), And.intro hn (And.intro ha hb)⟩
 ·exact ⟨_, _, _, con109, True, rfl, ds109, v109 d (by omega), (by rw [runT1_109]; rfl), trivial⟩
 ·exact ⟨_, _, _, con141, _, rfl, ds141, v141 d (by omega), (by rw [runT1_141]; rfl), And.intro rfl hk⟩
theorem vT1 : ∀ d, 15 ≤ d → VF d conT1 := fun d hd => validF_of fun f us p r hc hp => by
 unfold conT1 at hc; split at hc
 ·split at hc
  ·rename_i q1 q2; cases hc; rw [p_of q1, p_of q2]
   exact conT1_go hd hp.1 hp.2.1 hp.2.2
  ·cases hc
 ·cases hc
theorem vF2 : ∀ d, 15 ≤ d → ∀ t c, cF2 t = some c → VF d c := fun d hd t c h => by
 unfold cF2 at h
 split at h
 ·cases h; exact vT1 d hd
 ·exact vF1 d (by omega) _ c h
theorem v135 : ∀ d, 19 ≤ d → VC d 135 con135 := fun d hd =>
 valid_of_symF (C := ctxm cm0 cF2 cmAnn) (G := GC) (B := 15) (m := 4) rfl rfl rfl (fun d hd => vcm0 d (by omega)) vF2 (fun us p r hc hp ht => by
  unfold con135 at hc
  split at hc
  ·split at hc
   ·rename_i q1 q2; cases hc; rw [p_of q1, p_of q2]; exact s135 _ _ _ _ _ _ hp.1 hp.2.1 hp.2.2.1 hp.2.2.2
   ·cases hc
  ·cases hc) (fun _ _ => rfl) rfl rfl d hd
theorem okT1_id {f : D} (h : okT1 f) : ∃ g ts ds, f = .fn g ts ds ∧ g ≠ 135 := by
 rcases h.out with ⟨r, rfl, hr⟩ | ⟨n, la, rfl, hn⟩ | rfl | ⟨k, rfl, hk⟩
 ·exact ⟨_, _, _, rfl, by decide⟩
 ·exact ⟨_, _, _, rfl, by decide⟩
 ·exact ⟨_, _, _, rfl, by decide⟩
 ·exact ⟨_, _, _, rfl, by decide⟩
theorem vT2 : ∀ d, 19 ≤ d → VF d conT2 := fun d hd => validF_of fun f us p r hc hp => by
 unfold conT2 at hc; split at hc
 ·split at hc
  ·rename_i q1 q2; cases hc; rw [p_of q1, p_of q2]
   rcases hp.1.out with h | ⟨u, c, rfl, hu, hcc⟩
   ·have e : ∀ a b i j, runT2 f a b i j = runT1 f a b i j := fun a b i j => by
     obtain ⟨g, ts, ds, rfl, hg⟩ := okT1_id h
     exact runT2_1 hg a b i j
    rw [e]
    exact conT1_go (by omega) h hp.2.1 hp.2.2
   ·exact ⟨_, _, _, con135, _, rfl, ds135, v135 d (by omega), (by rw [runT2_135]; rfl), And.intro hu (And.intro hcc hp.2)⟩
  ·cases hc
 ·cases hc
theorem vF3 : ∀ d, 19 ≤ d → ∀ t c, cF3 t = some c → VF d c := fun d hd t c h => by
 unfold cF3 at h
 split at h
 ·cases h; exact vT2 d hd
 ·cases h
theorem v97 : ∀ d, 22 ≤ d → VC d 97 con97 := fun d hd =>
 valid_of_symF (C := ctxm cm0 cF3 cmAnn) (G := GC) (B := 19) (m := 3) rfl rfl rfl (fun d hd => vcm0 d (by omega)) vF3 (fun us p r hc hp ht => by
  unfold con97 at hc
  split at hc
  ·split at hc
   ·rename_i q1 q2; cases hc; rw [p_of q1, p_of q2]; exact s97 _ _ _ _ _ _ hp.1 hp.2.1 hp.2.2
   ·cases hc
  ·cases hc) (fun _ _ => rfl) rfl rfl d hd
theorem vA : ∀ d, 22 ≤ d → VF d conA := fun d hd => validF_of fun f us p r hc hp => by
 unfold conA at hc; split at hc
 ·split at hc
  ·rename_i q1 q2; cases hc; rw [p_of q1, p_of q2]
   obtain ⟨s, t, rfl, ht⟩ := hp.1.out
   exact ⟨_, _, _, con97, _, rfl, ds97, v97 d (by omega), rfl, ht, hp.2.1, hp.2.2⟩
  ·cases hc
 ·cases hc
theorem vF4 : ∀ d, 22 ≤ d → ∀ t c, cF4 t = some c → VF d c := fun d hd t c h => by
 unfold cF4 at h
 split at h
 ·cases h; exact vA d hd
 ·cases h
open Classical in
theorem v42 : ∀ d, 25 ≤ d → VC d 42 con42 := fun d hd us p r hc hp => by
 have hc0 := hc
 unfold con42 at hc; split at hc
 ·rename_i ts q1 q2
  split at hc
  ·rename_i a i b j h1 h2
   exact valid_of_symF (C := ctxm cm0 cF4 (sepAnn (fun k => runA (el ts k) a b i j))) (G := GC) (B := 22) (m := 3) (g := 42) (c := fun us => if us = [.dat 82 ts, q1, q2] then con42 us else none) rfl rfl rfl (fun d hd => vcm0 d (by omega)) vF4 (fun us p r hc hp ht => by
    split at hc
    ·rename_i e; subst e
     unfold con42 at hc
     simp only [h1, h2] at hc
     cases hc
     rw [p_of h1, p_of h2]; exact s42 _ _ _ _ _ hp.1.1 hp.1.2 hp.2.1 hp.2.2
    ·cases hc) (fun _ _ => rfl) rfl rfl d hd _ p r (by show (if _ then _ else _) = _; rw [if_pos rfl]; exact hc0) hp
  ·cases hc
 ·cases hc
theorem v71 : ∀ d, 11 ≤ d → VC d 71 con71 := fun d hd =>
 valid_of_symF (C := ctxm cm0 (fun _ => none) cmAnn) (G := GC) (B := 6) (m := 5) rfl rfl rfl vcm0 (fun d _ => vFn d) (fun us p r hc hp ht => by
  unfold con71 at hc
  split at hc
  ·cases hc; exact s71 _ _ _ _ _
  ·cases hc) (fun _ _ => rfl) rfl rfl d hd
theorem v70 : ∀ d, 9 ≤ d → VC d 70 con70 := fun d hd =>
 valid_of_symF (C := ctxm cm0 (fun _ => none) cmAnn) (G := GC) (B := 6) (m := 3) rfl rfl rfl vcm0 (fun d _ => vFn d) (fun us p r hc hp ht => by
  unfold con70 at hc
  split at hc
  ·cases hc; exact s70 _ _
  ·cases hc) (fun _ _ => rfl) rfl rfl d hd
theorem vcn0 : ∀ d, 25 ≤ d → ∀ g c, cn0 g = some c → VC d g c := fun d hd g c h => by
 unfold cn0 at h
 split at h
 ·cases h; exact v71 d (by omega)
 ·cases h; exact v70 d (by omega)
 ·exact vcc4 d (by omega) _ c h
theorem v43 : ∀ d, 30 ≤ d → VC d 43 con43 := fun d hd =>
 valid_of_symF (C := ctx cn0 cnAnn) (G := GC) (B := 25) (m := 5) rfl rfl rfl vcn0 (fun _ _ _ _ h => (noneF h).elim) (fun us p r hc hp ht => by
  unfold con43 at hc
  split at hc
  ·cases hc; exact s43 _ hp
  ·cases hc) (fun _ _ => rfl) rfl rfl d hd
theorem v41 : ∀ d, 29 ≤ d → VC d 41 con41 := fun d hd =>
 valid_of_symF (C := ctx cc4 cnAnn) (G := GC) (B := 25) (m := 4) rfl rfl rfl vcc4 (fun _ _ _ _ h => (noneF h).elim) (fun us p r hc hp ht => by
  unfold con41 at hc
  split at hc
  ·cases hc; exact s41 _ hp
  ·cases hc) (fun _ _ => rfl) rfl rfl d hd
theorem v30 : ∀ d, 29 ≤ d → VC d 30 con41 := fun d hd =>
 valid_of_symF (C := ctx cc4 cnAnn) (G := GC) (B := 25) (m := 4) rfl rfl rfl vcc4 (fun _ _ _ _ h => (noneF h).elim) (fun us p r hc hp ht => by
  unfold con41 at hc
  split at hc
  ·cases hc; exact s30 _ hp
  ·cases hc) (fun _ _ => rfl) rfl rfl d hd
theorem v51 : ∀ d, 6 ≤ d → VC d 51 con51 := fun d hd =>
 valid_of_symF (C := ctx (fun _ => none) cnAnn) (G := GC) (B := 2) (m := 4) rfl rfl rfl (fun d _ => vnone d) (fun _ _ _ _ h => (noneF h).elim) (fun us p r hc hp ht => by
  unfold con51 at hc
  split at hc
  ·cases hc; exact s51 _ hp
  ·cases hc) (fun _ _ => rfl) rfl rfl d hd
theorem v56 : ∀ d, 12 ≤ d → VC d 56 con56 := fun d hd =>
 valid_of_symF (C := ctx cc1 cnAnn) (G := GC) (B := 8) (m := 4) rfl rfl rfl vcc1 (fun _ _ _ _ h => (noneF h).elim) (fun us p r hc hp ht => by
  unfold con56 at hc
  split at hc
  ·cases hc; exact s56 _ _ hp
  ·cases hc) (fun _ _ => rfl) rfl rfl d hd
open Classical in
theorem v76 : ∀ d, 12 ≤ d → VC d 76 con76 := fun d hd us p r hc hp => by
 have hc0 := hc
 unfold con76 at hc; split at hc
 ·rename_i k s la nm n q
  split at hc
  ·rename_i g h1
   exact valid_of_symF (C := ctx cc1 (namAnn nm g.tg)) (G := GC) (B := 8) (m := 4) (g := 76) (c := fun us => if us = [.agg [.int .u8 k, .str s, .prop la, .dat 23 nm, .int .i64 n], q] then con76 us else none) rfl rfl rfl vcc1 (fun _ _ _ _ h => (noneF h).elim) (fun us p r hc hp ht => by
    split at hc
    ·rename_i e; subst e
     unfold con76 at hc
     simp only [h1] at hc
     cases hc
     rw [g_of h1]; exact s76 _ _ _ _ _ _ hp.1 hp.2
    ·cases hc) (fun _ _ => rfl) rfl rfl d hd _ p r (by show (if _ then _ else _) = _; rw [if_pos rfl]; exact hc0) hp
  ·cases hc
 ·cases hc
theorem vcn1 : ∀ d, 30 ≤ d → ∀ g c, cn1 g = some c → VC d g c := fun d hd g c h => by
 unfold cn1 at h
 split at h
 ·cases h; exact v71 d (by omega)
 ·cases h; exact v70 d (by omega)
 ·cases h; exact v43 d (by omega)
 ·cases h; exact v42 d (by omega)
 ·cases h; exact v41 d (by omega)
 ·cases h; exact v30 d (by omega)
 ·cases h; exact v73 d (by omega)
 ·cases h; exact v51 d (by omega)
 ·cases h; exact v56 d (by omega)
 ·cases h; exact v76 d (by omega)
 ·exact vcc4 d (by omega) _ c h
theorem v53 : ∀ d, 34 ≤ d → VC d 53 con53 := fun d hd =>
 valid_of_symF (C := ctx cn1 cnAnn) (G := GC) (B := 30) (m := 4) rfl rfl rfl vcn1 (fun _ _ _ _ h => (noneF h).elim) (fun us p r hc hp ht => by
  unfold con53 at hc
  split at hc
  ·split at hc
   ·rename_i q1 q2; cases hc; rw [g_of q1, g_of q2]; exact s53 _ _ _ _ _ _ _ _ _ hp.1 hp.2.1 hp.2.2.1 hp.2.2.2
   ·cases hc
  ·cases hc) (fun _ _ => rfl) rfl rfl d hd
theorem v29 : ∀ d, 34 ≤ d → VC d 29 con29 := fun d hd =>
 valid_of_symF (C := ctx cn1 cnAnn) (G := GC) (B := 30) (m := 4) rfl rfl rfl vcn1 (fun _ _ _ _ h => (noneF h).elim) (fun us p r hc hp ht => by
  unfold con29 at hc
  split at hc
  ·split at hc
   ·rename_i q; cases hc; rw [g_of q]; exact s29 _ hp
   ·cases hc
  ·cases hc) (fun _ _ => rfl) rfl rfl d hd
theorem v33 : ∀ d, 34 ≤ d → VC d 33 con33 := fun d hd =>
 valid_of_symF (C := ctx cn1 cnAnn) (G := GC) (B := 30) (m := 4) rfl rfl rfl vcn1 (fun _ _ _ _ h => (noneF h).elim) (fun us p r hc hp ht => by
  unfold con33 at hc
  split at hc
  ·split at hc
   ·rename_i q1 q2; cases hc; rw [g_of q1, g_of q2]; exact s33 _ _ hp
   ·cases hc
  ·cases hc) (fun _ _ => rfl) rfl rfl d hd
theorem v13 : ∀ d, 34 ≤ d → VC d 13 con13 := fun d hd =>
 valid_of_symF (C := ctx cn1 cnAnn) (G := GC) (B := 30) (m := 4) rfl rfl rfl vcn1 (fun _ _ _ _ h => (noneF h).elim) (fun us p r hc hp ht => by
  unfold con13 at hc
  split at hc
  ·split at hc
   ·rename_i q1 q2; cases hc; rw [g_of q1, g_of q2]; exact s13 _ _ _ _ _ hp.1 hp.2.1 hp.2.2
   ·cases hc
  ·cases hc) (fun _ _ => rfl) rfl rfl d hd
theorem v26 : ∀ d, 8 ≤ d → VC d 26 con26 := fun d hd =>
 valid_of_symF (C := ctx (fun _ => none) cnAnn) (G := GC) (B := 2) (m := 6) rfl rfl rfl (fun d _ => vnone d) (fun _ _ _ _ h => (noneF h).elim) (fun us p r hc hp ht => by
  unfold con26 at hc
  split at hc
  ·cases hc; exact s26 ⟨_, _, _, _, _, _, _, _, _⟩
  ·cases hc) (fun _ _ => rfl) rfl rfl d hd
theorem vcn2 : ∀ d, 34 ≤ d → ∀ g c, cn2 g = some c → VC d g c := fun d hd g c h => by
 unfold cn2 at h
 split at h
 ·cases h; exact v53 d (by omega)
 ·cases h; exact v29 d (by omega)
 ·cases h; exact v33 d (by omega)
 ·cases h; exact v13 d (by omega)
 ·cases h; exact v26 d (by omega)
 ·exact vcn1 d (by omega) _ c h
theorem v14 : ∀ d, 38 ≤ d → VC d 14 con14 := fun d hd =>
 valid_of_symF (C := ctx cn2 cnAnn) (G := GC) (B := 34) (m := 4) rfl rfl rfl vcn2 (fun _ _ _ _ h => (noneF h).elim) (fun us p r hc hp ht => by
  unfold con14 at hc
  split at hc
  ·split at hc
   ·rename_i q1 q2; cases hc; rw [g_of q1, g_of q2]; exact s14 _ _ _ _ _ hp.1 hp.2.1 hp.2.2
   ·cases hc
  ·cases hc) (fun _ _ => rfl) rfl rfl d hd
end Go.Ev

end

section
open Go.Proofs
namespace Go.Ev
def abcd : List UInt8 := [97, 98, 99, 100]
def lets (k : Int) : List UInt8 := List.take (Int.toNat (1 : Int) - 0) (List.drop 0 (List.take (abcd.length - k.toNat) (List.drop k.toNat abcd)))
def two3 (a k : Int) : Int := bitsN (shrZ .u8 a k) 3
open Classical in
noncomputable def pRk (pa : Int) : List UInt8 := if bitsN pa 4 = 0 then [] else lets (two3 pa 3)
open Classical in
noncomputable def pCt (pb : Int) : List UInt8 := if bitsN pb 4 = 0 then [] else lets (two3 pb 3)
open Classical in
noncomputable def pDi (pa pb : Int) : List UInt8 := if bitsN pa 128 = 0 then [] else lets (two3 pb 4)
open Classical in
noncomputable def pTg (pa pb : Int) : D := if bitsN pb 64 = 0 then .nil else .list [.str (lets (two3 pa 4))]
noncomputable def pG (pa pb : Int) (nm : List UInt8) : GD := ⟨nm, pRk pa, pCt pb, 10 * IntKind.i64.wrap (pb.tmod 4), IntKind.i64.wrap (pa.tmod 3), pDi pa pb, bitsN pa 64 = 0 → False, bitsN pb 128 = 0 → False, pTg pa pb⟩
noncomputable def nrm : V → V
 | .val (.int k n) => .int k n
 | .val (.bool b) => .prop (isProp b)
 | .val (.string b) => .str b.data.toList
 | v => v
noncomputable def bxs (S : SS) (b : Nat) : List V := match S.hp.get b with | some (.box _ l) => l.map nrm | _ => []
noncomputable def con40 : Con := fun | [.agg [.int .u8 pa, .int .u8 pb], .str nm] => some ((0 ≤ pa ∧ pa < 256) ∧ (0 ≤ pb ∧ pb < 256), gV (pG pa pb nm)) | _ => none
def rfFrz : FuncId → Nat → List (Tmp × Nat × TypeId)
 | 40, 7 => [(5, 8, 23)]
 | _, _ => []
structure u8P (d : D) : Prop where
 out : (0 ≤ (d.fld 0).asInt ∧ (d.fld 0).asInt < 256) ∧ (0 ≤ (d.fld 1).asInt ∧ (d.fld 1).asInt < 256)
structure u8Ps (l : D) : Prop where
 out : ∀ i, i < l.len → u8P (el l i)
def gbs (i : Int) : List D := [D.int (IntKind.u8.wrap (97 + i.tdiv 26)), D.int (IntKind.u8.wrap (97 + i.tmod 26))]
def gname (i : Int) : List UInt8 := [103] ++ bytesD (List.take 2 (gbs i))
noncomputable def gE (l : D) (i : Nat) : D := gD (pG ((el l i).fld 0).asInt ((el l i).fld 1).asInt (gname i))
noncomputable def gL (l : D) (n : Nat) : List D := (List.range n).map fun i => gE l i
def m16 (l : D) : D := l.sub 0 (min (l.len : Int) 16).toNat
noncomputable def gsD (l : D) : D := listD (gL (m16 l) (m16 l).len)
noncomputable def con12 : Con := fun | [.dat 39 l, .val (.int .i64 16)] => some (u8Ps l, .dat 28 (gsD l)) | _ => none
structure u8C (d : D) : Prop where
 out : (0 ≤ (d.fld 0).asInt ∧ (d.fld 0).asInt < 256) ∧ (0 ≤ (d.fld 1).asInt ∧ (d.fld 1).asInt < 256) ∧ (0 ≤ (d.fld 2).asInt ∧ (d.fld 2).asInt < 256)
structure u8Cs (l : D) : Prop where
 out : ∀ i, i < l.len → u8C (el l i)
def mK (d : D) : Int := IntKind.u8.wrap (1 + ((d.fld 0).asInt).tmod 10)
def nm1 (d : D) : List UInt8 := lets (((d.fld 2).asInt).tmod 4)
def nm2 (d : D) : List UInt8 := lets ((IntKind.u8.wrap ((d.fld 2).asInt + 1)).tmod 4)
open Classical in
noncomputable def mNm (d : D) : List D := if bitsN (d.fld 2).asInt 4 = 0 then [.str (nm1 d)] else [.str (nm1 d), .str (nm2 d)]
open Classical in
noncomputable def mAm (d : D) (r : List UInt8) : List UInt8 := if (d.fld 4).asProp ∧ mK d ≠ 1 then r else []
noncomputable def mC (d : D) (r : List UInt8) : D :=
 if mK d = 1 then .sct [.int (mK d), .str (mAm d r), .bool (false = true), .list (mNm d), .int 0]
 else if mK d = 4 then .sct [.int (mK d), .str (mAm d r), .bool (d.fld 3).asProp, .nil, .int (1 + IntKind.i64.wrap (((d.fld 1).asInt).tmod 2))]
 else if mK d = 5 then .sct [.int (mK d), .str (mAm d r), .bool (d.fld 3).asProp, .nil, .int 0]
 else if mK d = 6 ∨ mK d = 7 then .sct [.int (mK d), .str (mAm d r), .bool (d.fld 3).asProp, .list (mNm d), .int 0]
 else if mK d = 10 then .sct [.int (mK d), .str (mAm d r), .bool (false = true), .nil, .int (IntKind.i64.wrap (((d.fld 1).asInt).tmod 64))]
 else .sct [.int (mK d), .str (mAm d r), .bool (false = true), .nil, .int 0]
noncomputable def mR (l : D) : Nat → List UInt8
 | 0 => []
 | n + 1 => if mK (el l n) = 1 then nm1 (el l n) else mR l n
noncomputable def mL (l : D) (n : Nat) : List D := (List.range n).map fun i => mC (el l i) (mR l i)
def m8 (l : D) : D := l.sub 0 (min (l.len : Int) 8).toNat
noncomputable def mD (l : D) : D := listD (mL (m8 l) (m8 l).len)
noncomputable def con11 : Con := fun | [.dat 31 l] => some (u8Cs l, .dat 22 (mD l)) | _ => none
noncomputable def end0P (l : D) (x : Nat) (r : List UInt8) (e : D) : Prop :=
 (0 : Nat) + 1 ≤ [e].length ∧ (1 : Nat) ≤ 16777216 ∧ ((-9223372036854775808 : Int) ≤ (0 : Int) + 1 ∧ (0 : Int) + 1 < 9223372036854775808) ∧ ((∃ y : Nat, y = 0 ∧ (m8 l).len - y < (m8 l).len - x ∧ ((0 : Int) + 1 = 0 ∧ False ∧ r = [] ∧ True) ∧ True) ∨
  ∃ y : Nat, (0 < y ∧ y ≤ (m8 l).len) ∧ (m8 l).len - y < (m8 l).len - x ∧ ((0 : Int) + 1 = (y : Int) ∧ ((0 : Nat) = 0 ∧ 1 = y ∧ True) ∧ r = mR (m8 l) y ∧ True) ∧ List.take 1 [e] = mL (m8 l) y ∧ True)
noncomputable def end1P (l : D) (x : Nat) (r : List UInt8) (e : D) : Prop :=
 (0 : Nat) + 1 ≤ [e].length ∧ 0 + x ≤ (mL (m8 l) x).length ∧ x + 1 ≤ 16777216 ∧ ((-9223372036854775808 : Int) ≤ (x : Int) + 1 ∧ (x : Int) + 1 < 9223372036854775808) ∧ ((∃ y : Nat, y = 0 ∧ (m8 l).len - y < (m8 l).len - x ∧ ((x : Int) + 1 = 0 ∧ False ∧ r = [] ∧ True) ∧ True) ∨
  ∃ y : Nat, (0 < y ∧ y ≤ (m8 l).len) ∧ (m8 l).len - y < (m8 l).len - x ∧ ((x : Int) + 1 = (y : Int) ∧ ((0 : Nat) = 0 ∧ x + 1 = y ∧ True) ∧ r = mR (m8 l) y ∧ True) ∧ List.take x (mL (m8 l) x) ++ List.take 1 [e] = mL (m8 l) y ∧ True)
def cpC (d : D) : D := .sct [.int (cK d), .str (cA d), .bool (cL d), listD (cNm d).asList, .int (cN d)]
def cpL (l : D) (n : Nat) : List D := (List.range n).map fun i => cpC (el l i)
def catD (c d : D) : D := listD (cpL c c.len ++ cpL d d.len)
noncomputable def con16 : Con := fun | [.dat 22 c, .dat 22 d] => some ((smallC c ∧ smallC d) ∧ ((badZ c).2 = 0 ∧ (badZ d).2 = 0) ∧ c.len + d.len ≤ 32, .tup [.dat 22 (catD c d), .int .i64 0]) | _ => none
noncomputable def slB (S : SS) (t : Tmp) : Nat := match S.fr.get t with | some (.ptr b _) => b | _ => 0
noncomputable def slRow (S : SS) (t : Tmp) : List D := match S.fr.get t with | some (.slc b _ _ _) => bkL S b | _ => []
noncomputable def slSB (S : SS) (t : Tmp) : Nat := match S.fr.get t with | some (.slc b _ _ _) => b | _ => 0
def gAt (d : D) : GD := ⟨(d.fld 0).asStr, cA d, (d.fld 2).asStr, (cNm d).asInt, cN d, (d.fld 5).asStr, (d.fld 6).asProp, (d.fld (Nat.succ 6)).asProp, d.fld (Nat.succ 6).succ⟩
noncomputable def rfAnn : FuncId → Nat → Option Ann
 | 12, 3 => some { hs := 2, τ := Nat, slots := fun _ i x => match i with | 0 => [(15, .int .i64 0), (5, .val (.slice none 0 0))] | _ => [(15, .int .i64 x), (5, .slc 60 (.lit 0) (.sym x) none)],
                   blks := fun S i x => match i with | 0 => [] | _ => [(60, .arr 25 (gL (m16 (slD S 0)) x))], inv := fun S i x => match i with | 0 => x = 0 | _ => 0 < x ∧ x ≤ (m16 (slD S 0)).len, meas := fun S _ x => (m16 (slD S 0)).len - x }
 | 16, 9 => some { hs := 2, τ := Nat, slots := fun S i x => match i with | 0 => [(31, .int .i64 x), (6, .val (.slice none 0 0))] | _ => [(31, .int .i64 x), (6, .slc 60 (.lit 0) (.sym ((slRow S 6).length + x)) none)],
                   blks := fun S i x => match i with | 0 => [] | _ => [(60, .arr 57 (slRow S 6 ++ cpL (slD S 29) x))], inv := fun S i x => match i with | 0 => x = 0 ∧ slRow S 6 = [] | _ => 0 < (slRow S 6).length + x ∧ x ≤ (slD S 29).len, meas := fun S _ x => (slD S 29).len - x, dead := fun S => match S.fr.get 6 with | some (.slc b _ _ _) => [b] | _ => [] }
 | 5, 6 => some { τ := Nat, slots := fun _ _ x => [(41, .int .i64 x)], blks := fun _ _ _ => [], inv := fun S _ x => x ≤ (slD S 9).len, meas := fun S _ x => (slD S 9).len - x }
 | 5, 9 => some { τ := Nat, slots := fun _ _ x => [(46, .int .i64 x)], blks := fun _ _ _ => [], inv := fun S _ x => x ≤ (slD S 9).len, meas := fun S _ x => (slD S 9).len - x }
 | 11, 4 => some { hs := 2, τ := Nat, slots := fun S i x => match i with | 0 => [(15, .int .i64 0), (3, .val (.slice none 0 0)), (4, .str [])] | _ => [(15, .int .i64 x), (3, .slc 60 (.lit 0) (.sym x) none), (4, .str (mR (m8 (slD S 0)) x))],
                   blks := fun S i x => match i with | 0 => [] | _ => [(60, .arr 57 (mL (m8 (slD S 0)) x))], inv := fun S i x => match i with | 0 => x = 0 | _ => 0 < x ∧ x ≤ (m8 (slD S 0)).len, meas := fun S _ x => (m8 (slD S 0)).len - x }
 | _, _ => none
noncomputable def rf5 : FuncId → Option Con
 | 11 => some con11
 | 12 => some con12
 | 14 => some con14
 | 16 => some con16
 | _ => none
noncomputable def rfJoin : FuncId → Nat → Option Ann
 | 40, 4 => some { τ := Unit, slots := fun _ _ _ => [], blks := fun S _ _ => [(2, .box 25 ((bxs S 2).set 1 (.str (pRk (bkI S 0 0)))))], inv := fun _ _ _ => True, meas := fun _ _ _ => 0 }
 | 40, 6 => some { τ := Unit, slots := fun _ _ _ => [], blks := fun S _ _ => [(2, .box 25 ((bxs S 2).set 2 (.str (pCt (bkI S 0 1)))))], inv := fun _ _ _ => True, meas := fun _ _ _ => 0 }
 | 40, 8 => some { hs := 2, τ := Unit, slots := fun _ _ _ => [], blks := fun S i _ => match i with | 0 => [(2, .box 25 ((bxs S 2).set 8 (.val (.slice none 0 0))))] | _ => [(2, .box 25 ((bxs S 2).set 8 (.dat 23 (.list [.str (lets (two3 (bkI S 0 0) 4))]))))],
                   inv := fun S i _ => match i with | 0 => bitsN (bkI S 0 1) 64 = 0 | _ => bitsN (bkI S 0 1) 64 ≠ 0, meas := fun _ _ _ => 0 }
 | 40, 10 => some { τ := Unit, slots := fun _ _ _ => [], blks := fun S _ _ => [(2, .box 25 ((bxs S 2).set 5 (.str (pDi (bkI S 0 0) (bkI S 0 1)))))], inv := fun _ _ _ => True, meas := fun _ _ _ => 0 }
 | 11, 10 => some { hs := 2, τ := Unit, slots := fun S i _ => match i with | 0 => [(8, .slc (slSB S 8) (.lit 0) (.lit 1) (some (.lit 1)))] | _ => [(8, .slc 70 (.lit 0) (.lit 2) none)], blks := fun S i _ => match i with | 0 => [(slSB S 8, .arr 9 (slRow S 8))] | _ => [(70, .arr 9 (slRow S 8 ++ [.str (lets ((IntKind.u8.wrap (bkI S (slB S 6) 2 + 1)).tmod 4))]))],
                    inv := fun S i _ => match i with | 0 => bitsN (bkI S (slB S 6) 2) 4 = 0 | _ => bitsN (bkI S (slB S 6) 2) 4 ≠ 0, meas := fun _ _ _ => 0 }
 | _, _ => none
noncomputable def ctxr (con : FuncId → Option Con) (ann : FuncId → Nat → Option Ann) : Ctx := { ctx con ann with join := rfJoin, frz := rfFrz }
instance (con : FuncId → Option Con) (ann : FuncId → Nat → Option Ann) : Nonempty (NoF (ctxr con ann)) := ⟨⟨fun _ _ h => noneF h⟩⟩
end Go.Ev

end

section
open Go.Proofs
namespace Go.Ev
set_option maxRecDepth 100000
set_option maxHeartbeats 4000000
theorem vc40 : ∀ (pa pb : Int) (nm : List UInt8), symFun (ctxr (fun _ => none) rfAnn) (3 : Nat) (40 : FuncId) [V.agg [V.int IntKind.u8 pa, V.int IntKind.u8 pb], V.str nm] (gV (pG pa pb nm)) = (((3 :
 Int) = (0 : Int) → False) ∧ (0 : Int) ≤ pa ∧ (0 : Int) ≤ (64 : Int) ∧ ((0 : Int) ≤ pa ∧ pa < (256 : Int)) ∧ ((0 : Int) ≤ (64 : Int) ∧ (64 : Int) < (256 : Int)) ∧ ((4 : Int) = (0 : Int) → False) ∧
 ((-9223372036854775808 : Int) ≤ (10 : Int) * IntKind.i64.wrap (pb.tmod (4 : Int)) ∧ (10 : Int) * IntKind.i64.wrap (pb.tmod (4 : Int)) < (9223372036854775808 : Int)) ∧ (0 : Int) ≤ pb ∧ (0 : Int) ≤ (128
 : Int) ∧ ((0 : Int) ≤ pb ∧ pb < (256 : Int)) ∧ ((0 : Int) ≤ (128 : Int) ∧ (128 : Int) < (256 : Int)) ∧ ((0 : Int) ≤ pa ∧ (0 : Int) ≤ (4 : Int) ∧ ((0 : Int) ≤ pa ∧ pa < (256 : Int)) ∧ ((0 : Int) ≤ (4 :
 Int) ∧ (4 : Int) < (256 : Int)) ∧ ((bitsN pa (4 : Int) = (0 : Int) → False) → (0 : Int) ≤ (3 : Int) ∧ (0 : Int) ≤ shrZ IntKind.u8 pa (3 : Int) ∧ (0 : Int) ≤ (3 : Int) ∧ ((0 : Int) ≤ shrZ IntKind.u8 pa
 (3 : Int) ∧ shrZ IntKind.u8 pa (3 : Int) < (256 : Int)) ∧ ((0 : Int) ≤ (3 : Int) ∧ (3 : Int) < (256 : Int)) ∧ (0 : Int) ≤ bitsN (shrZ IntKind.u8 pa (3 : Int)) (3 : Int) ∧ bitsN (shrZ IntKind.u8 pa (3
 : Int)) (3 : Int) ≤ (↑abcd.length : Int) ∧ (↑abcd.length : Int) ≤ (↑abcd.length : Int) ∧ (0 : Int) ≤ (0 : Int) ∧ (0 : Int) ≤ (1 : Int) ∧ (1 : Int) ≤ (↑(List.take (abcd.length - (bitsN (shrZ IntKind.u8
 pa (3 : Int)) (3 : Int)).toNat) (List.drop (bitsN (shrZ IntKind.u8 pa (3 : Int)) (3 : Int)).toNat abcd)).length : Int) ∧ ∃ (x : Unit), True ∧ True ∧ (nm = nm ∧ lets (bitsN (shrZ IntKind.u8 pa (3 :
 Int)) (3 : Int)) = pRk pa ∧ ([] : List UInt8) = [] ∧ (10 : Int) * IntKind.i64.wrap (pb.tmod (4 : Int)) = (10 : Int) * IntKind.i64.wrap (pb.tmod (4 : Int)) ∧ IntKind.i64.wrap (pa.tmod (3 : Int)) =
 IntKind.i64.wrap (pa.tmod (3 : Int)) ∧ ([] : List UInt8) = [] ∧ (bitsN pa (64 : Int) = (0 : Int) → False ↔ bitsN pa (64 : Int) = (0 : Int) → False) ∧ (bitsN pb (128 : Int) = (0 : Int) → False ↔ bitsN
 pb (128 : Int) = (0 : Int) → False) ∧ True ∧ True) ∧ True) ∧ (((bitsN pa (4 : Int) = (0 : Int) → False) → False) → ∃ (x : Unit), True ∧ True ∧ (nm = nm ∧ [] = pRk pa ∧ ([] : List UInt8) = [] ∧ (10 :
 Int) * IntKind.i64.wrap (pb.tmod (4 : Int)) = (10 : Int) * IntKind.i64.wrap (pb.tmod (4 : Int)) ∧ IntKind.i64.wrap (pa.tmod (3 : Int)) = IntKind.i64.wrap (pa.tmod (3 : Int)) ∧ ([] : List UInt8) = [] ∧
 (bitsN pa (64 : Int) = (0 : Int) → False ↔ bitsN pa (64 : Int) = (0 : Int) → False) ∧ (bitsN pb (128 : Int) = (0 : Int) → False ↔ bitsN pb (128 : Int) = (0 : Int) → False) ∧ True ∧ True) ∧ True)) ∧ ∀
 (x : Unit), True → ((0 : Int) ≤ pb ∧ (0 : Int) ≤ (4 : Int) ∧ ((0 : Int) ≤ pb ∧ pb < (256 : Int)) ∧ ((0 : Int) ≤ (4 : Int) ∧ (4 : Int) < (256 : Int)) ∧ ((bitsN pb (4 : Int) = (0 : Int) → False) → (0 :
 Int) ≤ (3 : Int) ∧ (0 : Int) ≤ shrZ IntKind.u8 pb (3 : Int) ∧ (0 : Int) ≤ (3 : Int) ∧ ((0 : Int) ≤ shrZ IntKind.u8 pb (3 : Int) ∧ shrZ IntKind.u8 pb (3 : Int) < (256 : Int)) ∧ ((0 : Int) ≤ (3 : Int) ∧
 (3 : Int) < (256 : Int)) ∧ (0 : Int) ≤ bitsN (shrZ IntKind.u8 pb (3 : Int)) (3 : Int) ∧ bitsN (shrZ IntKind.u8 pb (3 : Int)) (3 : Int) ≤ (↑abcd.length : Int) ∧ (↑abcd.length : Int) ≤ (↑abcd.length :
 Int) ∧ (0 : Int) ≤ (0 : Int) ∧ (0 : Int) ≤ (1 : Int) ∧ (1 : Int) ≤ (↑(List.take (abcd.length - (bitsN (shrZ IntKind.u8 pb (3 : Int)) (3 : Int)).toNat) (List.drop (bitsN (shrZ IntKind.u8 pb (3 : Int))
 (3 : Int)).toNat abcd)).length : Int) ∧ ∃ (x : Unit), True ∧ True ∧ (nm = nm ∧ pRk pa = pRk pa ∧ lets (bitsN (shrZ IntKind.u8 pb (3 : Int)) (3 : Int)) = pCt pb ∧ (10 : Int) * IntKind.i64.wrap (pb.tmod
 (4 : Int)) = (10 : Int) * IntKind.i64.wrap (pb.tmod (4 : Int)) ∧ IntKind.i64.wrap (pa.tmod (3 : Int)) = IntKind.i64.wrap (pa.tmod (3 : Int)) ∧ ([] : List UInt8) = [] ∧ (bitsN pa (64 : Int) = (0 : Int)
 → False ↔ bitsN pa (64 : Int) = (0 : Int) → False) ∧ (bitsN pb (128 : Int) = (0 : Int) → False ↔ bitsN pb (128 : Int) = (0 : Int) → False) ∧ True ∧ True) ∧ True) ∧ (((bitsN pb (4 : Int) = (0 : Int) →
 False) → False) → ∃ (x : Unit), True ∧ True ∧ (nm = nm ∧ pRk pa = pRk pa ∧ [] = pCt pb ∧ (10 : Int) * IntKind.i64.wrap (pb.tmod (4 : Int)) = (10 : Int) * IntKind.i64.wrap (pb.tmod (4 : Int)) ∧
 IntKind.i64.wrap (pa.tmod (3 : Int)) = IntKind.i64.wrap (pa.tmod (3 : Int)) ∧ ([] : List UInt8) = [] ∧ (bitsN pa (64 : Int) = (0 : Int) → False ↔ bitsN pa (64 : Int) = (0 : Int) → False) ∧ (bitsN pb
 (128 : Int) = (0 : Int) → False ↔ bitsN pb (128 : Int) = (0 : Int) → False) ∧ True ∧ True) ∧ True)) ∧ ∀ (x : Unit), True → ((0 : Int) ≤ pb ∧ (0 : Int) ≤ (64 : Int) ∧ ((0 : Int) ≤ pb ∧ pb < (256 :
 Int)) ∧ ((0 : Int) ≤ (64 : Int) ∧ (64 : Int) < (256 : Int)) ∧ ((bitsN pb (64 : Int) = (0 : Int) → False) → (0 : Int) ≤ (4 : Int) ∧ (0 : Int) ≤ shrZ IntKind.u8 pa (4 : Int) ∧ (0 : Int) ≤ (3 : Int) ∧
 ((0 : Int) ≤ shrZ IntKind.u8 pa (4 : Int) ∧ shrZ IntKind.u8 pa (4 : Int) < (256 : Int)) ∧ ((0 : Int) ≤ (3 : Int) ∧ (3 : Int) < (256 : Int)) ∧ (0 : Int) ≤ bitsN (shrZ IntKind.u8 pa (4 : Int)) (3 : Int)
 ∧ bitsN (shrZ IntKind.u8 pa (4 : Int)) (3 : Int) ≤ (↑abcd.length : Int) ∧ (↑abcd.length : Int) ≤ (↑abcd.length : Int) ∧ (0 : Int) ≤ (0 : Int) ∧ (0 : Int) ≤ (1 : Int) ∧ (1 : Int) ≤ (↑(List.take
 (abcd.length - (bitsN (shrZ IntKind.u8 pa (4 : Int)) (3 : Int)).toNat) (List.drop (bitsN (shrZ IntKind.u8 pa (4 : Int)) (3 : Int)).toNat abcd)).length : Int) ∧ (0 : Nat) + (1 : Nat) ≤ [D.str (lets
 (bitsN (shrZ IntKind.u8 pa (4 : Int)) (3 : Int)))].length ∧ ((∃ (x : Unit), bitsN pb (64 : Int) = (0 : Int) ∧ True ∧ (nm = nm ∧ pRk pa = pRk pa ∧ pCt pb = pCt pb ∧ (10 : Int) * IntKind.i64.wrap
 (pb.tmod (4 : Int)) = (10 : Int) * IntKind.i64.wrap (pb.tmod (4 : Int)) ∧ IntKind.i64.wrap (pa.tmod (3 : Int)) = IntKind.i64.wrap (pa.tmod (3 : Int)) ∧ ([] : List UInt8) = [] ∧ (bitsN pa (64 : Int) =
 (0 : Int) → False ↔ bitsN pa (64 : Int) = (0 : Int) → False) ∧ (bitsN pb (128 : Int) = (0 : Int) → False ↔ bitsN pb (128 : Int) = (0 : Int) → False) ∧ False ∧ True) ∧ True) ∨ ∃ (x : Unit), (bitsN pb
 (64 : Int) = (0 : Int) → False) ∧ True ∧ (nm = nm ∧ pRk pa = pRk pa ∧ pCt pb = pCt pb ∧ (10 : Int) * IntKind.i64.wrap (pb.tmod (4 : Int)) = (10 : Int) * IntKind.i64.wrap (pb.tmod (4 : Int)) ∧
 IntKind.i64.wrap (pa.tmod (3 : Int)) = IntKind.i64.wrap (pa.tmod (3 : Int)) ∧ ([] : List UInt8) = [] ∧ (bitsN pa (64 : Int) = (0 : Int) → False ↔ bitsN pa (64 : Int) = (0 : Int) → False) ∧ (bitsN pb
 (128 : Int) = (0 : Int) → False ↔ bitsN pb (128 : Int) = (0 : Int) → False) ∧ D.list (List.take (1 : Nat) [D.str (lets (bitsN (shrZ IntKind.u8 pa (4 : Int)) (3 : Int)))]) = D.list [D.str (lets (two3
 pa (4 : Int)))] ∧ True) ∧ True)) ∧ (((bitsN pb (64 : Int) = (0 : Int) → False) → False) → (∃ (x : Unit), bitsN pb (64 : Int) = (0 : Int) ∧ True ∧ (nm = nm ∧ pRk pa = pRk pa ∧ pCt pb = pCt pb ∧ (10 :
 Int) * IntKind.i64.wrap (pb.tmod (4 : Int)) = (10 : Int) * IntKind.i64.wrap (pb.tmod (4 : Int)) ∧ IntKind.i64.wrap (pa.tmod (3 : Int)) = IntKind.i64.wrap (pa.tmod (3 : Int)) ∧ ([] : List UInt8) = [] ∧
 (bitsN pa (64 : Int) = (0 : Int) → False ↔ bitsN pa (64 : Int) = (0 : Int) → False) ∧ (bitsN pb (128 : Int) = (0 : Int) → False ↔ bitsN pb (128 : Int) = (0 : Int) → False) ∧ True ∧ True) ∧ True) ∨ ∃
 (x : Unit), (bitsN pb (64 : Int) = (0 : Int) → False) ∧ True ∧ (nm = nm ∧ pRk pa = pRk pa ∧ pCt pb = pCt pb ∧ (10 : Int) * IntKind.i64.wrap (pb.tmod (4 : Int)) = (10 : Int) * IntKind.i64.wrap (pb.tmod
 (4 : Int)) ∧ IntKind.i64.wrap (pa.tmod (3 : Int)) = IntKind.i64.wrap (pa.tmod (3 : Int)) ∧ ([] : List UInt8) = [] ∧ (bitsN pa (64 : Int) = (0 : Int) → False ↔ bitsN pa (64 : Int) = (0 : Int) → False)
 ∧ (bitsN pb (128 : Int) = (0 : Int) → False ↔ bitsN pb (128 : Int) = (0 : Int) → False) ∧ False ∧ True) ∧ True)) ∧ (∀ (x : Unit), bitsN pb (64 : Int) = (0 : Int) → ((0 : Int) ≤ pa ∧ (0 : Int) ≤ (128 :
 Int) ∧ ((0 : Int) ≤ pa ∧ pa < (256 : Int)) ∧ ((0 : Int) ≤ (128 : Int) ∧ (128 : Int) < (256 : Int)) ∧ ((bitsN pa (128 : Int) = (0 : Int) → False) → (0 : Int) ≤ (4 : Int) ∧ (0 : Int) ≤ shrZ IntKind.u8
 pb (4 : Int) ∧ (0 : Int) ≤ (3 : Int) ∧ ((0 : Int) ≤ shrZ IntKind.u8 pb (4 : Int) ∧ shrZ IntKind.u8 pb (4 : Int) < (256 : Int)) ∧ ((0 : Int) ≤ (3 : Int) ∧ (3 : Int) < (256 : Int)) ∧ (0 : Int) ≤ bitsN
 (shrZ IntKind.u8 pb (4 : Int)) (3 : Int) ∧ bitsN (shrZ IntKind.u8 pb (4 : Int)) (3 : Int) ≤ (↑abcd.length : Int) ∧ (↑abcd.length : Int) ≤ (↑abcd.length : Int) ∧ (0 : Int) ≤ (0 : Int) ∧ (0 : Int) ≤ (1
 : Int) ∧ (1 : Int) ≤ (↑(List.take (abcd.length - (bitsN (shrZ IntKind.u8 pb (4 : Int)) (3 : Int)).toNat) (List.drop (bitsN (shrZ IntKind.u8 pb (4 : Int)) (3 : Int)).toNat abcd)).length : Int) ∧ ∃ (x :
 Unit), True ∧ True ∧ (nm = nm ∧ pRk pa = pRk pa ∧ pCt pb = pCt pb ∧ (10 : Int) * IntKind.i64.wrap (pb.tmod (4 : Int)) = (10 : Int) * IntKind.i64.wrap (pb.tmod (4 : Int)) ∧ IntKind.i64.wrap (pa.tmod (3
 : Int)) = IntKind.i64.wrap (pa.tmod (3 : Int)) ∧ lets (bitsN (shrZ IntKind.u8 pb (4 : Int)) (3 : Int)) = pDi pa pb ∧ (bitsN pa (64 : Int) = (0 : Int) → False ↔ bitsN pa (64 : Int) = (0 : Int) → False)
 ∧ (bitsN pb (128 : Int) = (0 : Int) → False ↔ bitsN pb (128 : Int) = (0 : Int) → False) ∧ True ∧ True) ∧ True) ∧ (((bitsN pa (128 : Int) = (0 : Int) → False) → False) → ∃ (x : Unit), True ∧ True ∧ (nm
 = nm ∧ pRk pa = pRk pa ∧ pCt pb = pCt pb ∧ (10 : Int) * IntKind.i64.wrap (pb.tmod (4 : Int)) = (10 : Int) * IntKind.i64.wrap (pb.tmod (4 : Int)) ∧ IntKind.i64.wrap (pa.tmod (3 : Int)) =
 IntKind.i64.wrap (pa.tmod (3 : Int)) ∧ [] = pDi pa pb ∧ (bitsN pa (64 : Int) = (0 : Int) → False ↔ bitsN pa (64 : Int) = (0 : Int) → False) ∧ (bitsN pb (128 : Int) = (0 : Int) → False ↔ bitsN pb (128
 : Int) = (0 : Int) → False) ∧ True ∧ True) ∧ True)) ∧ ∀ (x : Unit), True → nm = (pG pa pb nm).nm ∧ pRk pa = (pG pa pb nm).rk ∧ pCt pb = (pG pa pb nm).ct ∧ (10 : Int) * IntKind.i64.wrap (pb.tmod (4 :
 Int)) = (pG pa pb nm).si ∧ IntKind.i64.wrap (pa.tmod (3 : Int)) = (pG pa pb nm).sd ∧ pDi pa pb = (pG pa pb nm).di ∧ (bitsN pa (64 : Int) = (0 : Int) → False ↔ bitsN pa (64 : Int) = (0 : Int) → False)
 ∧ (bitsN pb (128 : Int) = (0 : Int) → False ↔ bitsN pb (128 : Int) = (0 : Int) → False) ∧ D.nil = (pG pa pb nm).tg ∧ True) ∧ ∀ (x : Unit), (bitsN pb (64 : Int) = (0 : Int) → False) → ((0 : Int) ≤ pa ∧
 (0 : Int) ≤ (128 : Int) ∧ ((0 : Int) ≤ pa ∧ pa < (256 : Int)) ∧ ((0 : Int) ≤ (128 : Int) ∧ (128 : Int) < (256 : Int)) ∧ ((bitsN pa (128 : Int) = (0 : Int) → False) → (0 : Int) ≤ (4 : Int) ∧ (0 : Int)
 ≤ shrZ IntKind.u8 pb (4 : Int) ∧ (0 : Int) ≤ (3 : Int) ∧ ((0 : Int) ≤ shrZ IntKind.u8 pb (4 : Int) ∧ shrZ IntKind.u8 pb (4 : Int) < (256 : Int)) ∧ ((0 : Int) ≤ (3 : Int) ∧ (3 : Int) < (256 : Int)) ∧
 (0 : Int) ≤ bitsN (shrZ IntKind.u8 pb (4 : Int)) (3 : Int) ∧ bitsN (shrZ IntKind.u8 pb (4 : Int)) (3 : Int) ≤ (↑abcd.length : Int) ∧ (↑abcd.length : Int) ≤ (↑abcd.length : Int) ∧ (0 : Int) ≤ (0 : Int)
 ∧ (0 : Int) ≤ (1 : Int) ∧ (1 : Int) ≤ (↑(List.take (abcd.length - (bitsN (shrZ IntKind.u8 pb (4 : Int)) (3 : Int)).toNat) (List.drop (bitsN (shrZ IntKind.u8 pb (4 : Int)) (3 : Int)).toNat
 abcd)).length : Int) ∧ ∃ (x : Unit), True ∧ True ∧ (nm = nm ∧ pRk pa = pRk pa ∧ pCt pb = pCt pb ∧ (10 : Int) * IntKind.i64.wrap (pb.tmod (4 : Int)) = (10 : Int) * IntKind.i64.wrap (pb.tmod (4 : Int))
 ∧ IntKind.i64.wrap (pa.tmod (3 : Int)) = IntKind.i64.wrap (pa.tmod (3 : Int)) ∧ lets (bitsN (shrZ IntKind.u8 pb (4 : Int)) (3 : Int)) = pDi pa pb ∧ (bitsN pa (64 : Int) = (0 : Int) → False ↔ bitsN pa
 (64 : Int) = (0 : Int) → False) ∧ (bitsN pb (128 : Int) = (0 : Int) → False ↔ bitsN pb (128 : Int) = (0 : Int) → False) ∧ D.list [D.str (lets (two3 pa (4 : Int)))] = D.list [D.str (lets (two3 pa (4 :
 Int)))] ∧ True) ∧ True) ∧ (((bitsN pa (128 : Int) = (0 : Int) → False) → False) → ∃ (x : Unit), True ∧ True ∧ (nm = nm ∧ pRk pa = pRk pa ∧ pCt pb = pCt pb ∧ (10 : Int) * IntKind.i64.wrap (pb.tmod (4 :
 Int)) = (10 : Int) * IntKind.i64.wrap (pb.tmod (4 : Int)) ∧ IntKind.i64.wrap (pa.tmod (3 : Int)) = IntKind.i64.wrap (pa.tmod (3 : Int)) ∧ [] = pDi pa pb ∧ (bitsN pa (64 : Int) = (0 : Int) → False ↔
 bitsN pa (64 : Int) = (0 : Int) → False) ∧ (bitsN pb (128 : Int) = (0 : Int) → False ↔ bitsN pb (128 : Int) = (0 : Int) → False) ∧ D.list [D.str (lets (two3 pa (4 : Int)))] = D.list [D.str (lets (two3
 pa (4 : Int)))] ∧ True) ∧ True)) ∧ ∀ (x : Unit), True → nm = (pG pa pb nm).nm ∧ pRk pa = (pG pa pb nm).rk ∧ pCt pb = (pG pa pb nm).ct ∧ (10 : Int) * IntKind.i64.wrap (pb.tmod (4 : Int)) = (pG pa pb
 nm).si ∧ IntKind.i64.wrap (pa.tmod (3 : Int)) = (pG pa pb nm).sd ∧ pDi pa pb = (pG pa pb nm).di ∧ (bitsN pa (64 : Int) = (0 : Int) → False ↔ bitsN pa (64 : Int) = (0 : Int) → False) ∧ (bitsN pb (128 :
 Int) = (0 : Int) → False ↔ bitsN pb (128 : Int) = (0 : Int) → False) ∧ D.list [D.str (lets (two3 pa (4 : Int)))] = (pG pa pb nm).tg ∧ True) := by intros; kernel_rfl
theorem bits3 (a : Int) : 0 ≤ bitsN a 3 ∧ bitsN a 3 ≤ 3 := by
 unfold bitsN
 have : a.toNat &&& (3 : Int).toNat ≤ 3 := Nat.and_le_right
 omega
theorem shr_u8 {a : Int} (h : 0 ≤ a ∧ a < 256) (n : Int) : 0 ≤ shrZ .u8 a n ∧ shrZ .u8 a n < 256 := by
 unfold shrZ
 generalize min n.toNat IntKind.u8.bits = m
 have h2 : (0 : Int) < 2 ^ m := Int.pow_pos (by decide)
 rw [Int.fdiv_eq_ediv_of_nonneg _ (Int.le_of_lt h2)]
 exact ⟨Int.ediv_nonneg h.1 (Int.le_of_lt h2), Int.lt_of_le_of_lt (Int.ediv_le_self _ h.1) h.2⟩
theorem abcd_len : abcd.length = 4 := rfl
theorem let_n {k : Int} (h : 0 ≤ k ∧ k ≤ 3) : (1 : Int) ≤ ((List.take (abcd.length - k.toNat) (List.drop k.toNat abcd)).length : Int) := by
 rw [List.length_take, List.length_drop, abcd_len]; omega
theorem let_le {k : Int} (h : 0 ≤ k ∧ k ≤ 3) : k ≤ (abcd.length : Int) := by rw [abcd_len]; omega
theorem rk_y {pa : Int} (h : bitsN pa 4 = 0 → False) : lets (bitsN (shrZ IntKind.u8 pa 3) 3) = pRk pa := by unfold pRk; rw [if_neg h]; rfl
theorem rk_n {pa : Int} (h : (bitsN pa 4 = 0 → False) → False) : [] = pRk pa := by unfold pRk; rw [if_pos (Classical.byContradiction h)]
theorem ct_y {pb : Int} (h : bitsN pb 4 = 0 → False) : lets (bitsN (shrZ IntKind.u8 pb 3) 3) = pCt pb := by unfold pCt; rw [if_neg h]; rfl
theorem ct_n {pb : Int} (h : (bitsN pb 4 = 0 → False) → False) : [] = pCt pb := by unfold pCt; rw [if_pos (Classical.byContradiction h)]
theorem di_y {pa pb : Int} (h : bitsN pa 128 = 0 → False) : lets (bitsN (shrZ IntKind.u8 pb 4) 3) = pDi pa pb := by unfold pDi; rw [if_neg h]; rfl
theorem di_n {pa pb : Int} (h : (bitsN pa 128 = 0 → False) → False) : [] = pDi pa pb := by unfold pDi; rw [if_pos (Classical.byContradiction h)]
theorem tg_y {pa pb : Int} {nm : List UInt8} (h : bitsN pb 64 = 0 → False) : D.list [D.str (lets (two3 pa 4))] = (pG pa pb nm).tg := by show _ = pTg pa pb; unfold pTg; rw [if_neg h]
theorem tg_n {pa pb : Int} {nm : List UInt8} (h : bitsN pb 64 = 0) : D.nil = (pG pa pb nm).tg := by show _ = pTg pa pb; unfold pTg; rw [if_pos h]
theorem w_mod {p : Int} (h : 0 ≤ p ∧ p < 256) (m : Int) (hm : 0 < m ∧ m ≤ 100) : IntKind.i64.wrap (p.tmod m) = p.tmod m ∧ 0 ≤ p.tmod m ∧ p.tmod m < m := by
 have h1 : 0 ≤ p.tmod m := Int.tmod_nonneg _ h.1
 have h2 : p.tmod m < m := Int.tmod_lt_of_pos _ hm.1
 exact ⟨IntWalk.i64_in _ ⟨by omega, by omega⟩, h1, h2⟩
theorem s40 (pa pb : Int) (nm : List UInt8) (ha : 0 ≤ pa ∧ pa < 256) (hb : 0 ≤ pb ∧ pb < 256) : symFun (ctxr (fun _ => none) rfAnn) 3 40 [.agg [.int .u8 pa, .int .u8 pb], .str nm] (gV (pG pa pb nm)) := by
 rw [vc40]
 have w4 := w_mod hb 4 (by omega)
 have a3 := shr_u8 ha 3
 have a4 := shr_u8 ha 4
 have b3 := shr_u8 hb 3
 have b4 := shr_u8 hb 4
 have x3 := bits3 (shrZ IntKind.u8 pa 3)
 have x4 := bits3 (shrZ IntKind.u8 pa 4)
 have y3 := bits3 (shrZ IntKind.u8 pb 3)
 have y4 := bits3 (shrZ IntKind.u8 pb 4)
 repeat' (first | apply And.intro | intro _ | refine Or.inl (Exists.intro () (And.intro (Classical.byContradiction ‹(bitsN pb 64 = 0 → False) → False›) ?_)) | refine Or.inr (Exists.intro () (And.intro ‹bitsN pb 64 = 0 → False› ?_)) | refine Exists.intro () ?_)
 all_goals first
  | with_reducible rfl
  | trivial
  | exact rk_y ‹_›
  | exact rk_n ‹_›
  | exact ct_y ‹_›
  | exact ct_n ‹_›
  | exact di_y ‹_›
  | exact di_n ‹_›
  | exact tg_y ‹_›
  | exact tg_n ‹_›
  | exact let_n ‹_›
  | exact let_le ‹_›
  | exact Nat.le_refl 1
  | rfl
  | omega
end Go.Ev

end
