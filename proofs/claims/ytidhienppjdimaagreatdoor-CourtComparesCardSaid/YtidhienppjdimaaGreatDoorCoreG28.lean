/-
  Part of the engine that the claim is proved with: it states nothing of the document by itself.
-/
import Derived.Test.YtidhienppjdimaaGreatDoorCoreCcC
import Derived.Test.YtidhienppjdimaaGreatDoorCoreAwake
import Derived.Test.YtidhienppjdimaaGreatDoorCoreG25
import Derived.Test.YtidhienppjdimaaGreatDoorCoreSeF
import Derived.Test.YtidhienppjdimaaGreatDoorRows
import Derived.Test.YtidhienppjdimaaGreatDoorCoreKit
import Derived.Test.YtidhienppjdimaaGreatDoorProg
import Derived.Test.YtidhienppjdimaaGreatDoorCoreG0
import Derived.OpenShut
import Derived.LaidSub
import Derived.MakeChecks

section
open Go.Proofs
namespace Go.Ev
set_option maxRecDepth 100000
noncomputable def GC : Msk := { bits := GB, fast := false, ora := fun g => cond (Nat.beq g 10) (some (.bool true)) none }
abbrev VC (d : Nat) (g : FuncId) (c : Con) : Prop := Valid Tryz.prog GC (ev Tryz.prog GC d) g c
theorem vnone (d : Nat) : ∀ g c, (fun _ : FuncId => (none : Option Con)) g = some c → VC d g c := fun _ _ h => by cases h
theorem v107 : ∀ d, 5 ≤ d → VC d 107 con107 := fun d hd =>
 valid_of_sym (C := ctx (fun _ => none) ccAnn) (G := GC) (B := 2) (m := 3) rfl rfl rfl (fun d _ => vnone d) (fun us p r hc hp ht => by
  unfold con107 at hc; split at hc
  ·cases hc; exact s107 _ _ hp
  ·cases hc) (fun _ _ => rfl) rfl rfl d hd
theorem v116 : ∀ d, 5 ≤ d → VC d 116 con107 := fun d hd =>
 valid_of_sym (C := ctx (fun _ => none) ccAnn) (G := GC) (B := 2) (m := 3) rfl rfl rfl (fun d _ => vnone d) (fun us p r hc hp ht => by
  unfold con107 at hc; split at hc
  ·cases hc; exact s116 _ _ hp
  ·cases hc) (fun _ _ => rfl) rfl rfl d hd
theorem v115 : ∀ d, 5 ≤ d → VC d 115 con115 := fun d hd =>
 valid_of_sym (C := ctx (fun _ => none) ccAnn) (G := GC) (B := 2) (m := 3) rfl rfl rfl (fun d _ => vnone d) (fun us p r hc hp ht => by
  unfold con115 at hc; split at hc
  ·cases hc; exact s115 _
  ·cases hc) (fun _ _ => rfl) rfl rfl d hd
theorem v77 : ∀ d, 5 ≤ d → VC d 77 con77 := fun d hd =>
 valid_of_sym (C := ctx (fun _ => none) ccAnn) (G := GC) (B := 2) (m := 3) rfl rfl rfl (fun d _ => vnone d) (fun us p r hc hp ht => by
  unfold con77 at hc; split at hc
  ·cases hc; exact s77 _ _ hp
  ·cases hc) (fun _ _ => rfl) rfl rfl d hd
theorem v114 : ∀ d, 5 ≤ d → VC d 114 con114 := fun d hd =>
 valid_of_sym (C := ctx (fun _ => none) ccAnn) (G := GC) (B := 2) (m := 3) rfl rfl rfl (fun d _ => vnone d) (fun us p r hc hp ht => by
  unfold con114 at hc; split at hc
  ·cases hc; exact s114 _ _ _ _ _
  ·cases hc) (fun _ _ => rfl) rfl rfl d hd
theorem v91 : ∀ d, 5 ≤ d → VC d 91 con114 := fun d hd =>
 valid_of_sym (C := ctx (fun _ => none) ccAnn) (G := GC) (B := 2) (m := 3) rfl rfl rfl (fun d _ => vnone d) (fun us p r hc hp ht => by
  unfold con114 at hc; split at hc
  ·cases hc; exact s91 _ _ _ _ _
  ·cases hc) (fun _ _ => rfl) rfl rfl d hd
theorem vN (d : Nat) (g : FuncId) : VC d g conN := by
 intro us p r hc hp σ H vs hst hl
 unfold conN at hc
 split at hc
 ·cases hc; exact hp.elim
 ·cases hc
theorem vcc0 (d : Nat) : ∀ g c, cc0 g = some c → VC d g c := fun g c h => by
 unfold cc0 at h
 split at h
 ·cases h; exact vN d _
 ·cases h; exact vN d _
 ·cases h
theorem v90 : ∀ d, 8 ≤ d → VC d 90 con115 := fun d hd =>
 valid_of_sym (C := ctx cc0 ccAnn) (G := GC) (B := 2) (m := 6) rfl rfl rfl (fun d _ => vcc0 d) (fun us p r hc hp ht => by
  unfold con115 at hc; split at hc
  ·cases hc; exact s90 _
  ·cases hc) (fun _ _ => rfl) rfl rfl d hd
theorem vcc1 : ∀ d, 8 ≤ d → ∀ g c, cc1 g = some c → VC d g c := fun d hd g c h => by
 unfold cc1 at h
 split at h
 ·cases h; exact v107 d (by omega)
 ·cases h; exact v116 d (by omega)
 ·cases h; exact v115 d (by omega)
 ·cases h; exact v90 d (by omega)
 ·cases h; exact v77 d (by omega)
 ·cases h; exact v114 d (by omega)
 ·cases h; exact v91 d (by omega)
 ·cases h
theorem v92 : ∀ d, 11 ≤ d → VC d 92 con92 := fun d hd =>
 valid_of_sym (C := ctx cc1 ccAnn) (G := GC) (B := 8) (m := 3) rfl rfl rfl vcc1 (fun us p r hc hp ht => by
  unfold con92 at hc; split at hc
  ·cases hc; exact s92 _ hp
  ·cases hc) (fun _ _ => rfl) rfl rfl d hd
theorem v93 : ∀ d, 14 ≤ d → VC d 93 con93 := fun d hd => by
 intro us p r hc hp
 unfold con93 at hc; split at hc
 ·rename_i c s
  cases hc
  have := valid_of_sym (C := ctx cc1 (lstAnn s)) (G := GC) (B := 8) (m := 6) (g := 93) (c := fun us => match us with | [.dat 22 c', .str s'] => some (smallC c' ∧ s' = s, .prop (listedP c' c'.len s')) | _ => none) rfl rfl rfl vcc1 (fun us p r hc hp ht => by
   split at hc
   ·cases hc; obtain ⟨h1, rfl⟩ := hp; exact s93 _ _ h1
   ·cases hc) (fun _ _ => rfl) rfl rfl d hd
  exact this [.dat 22 c, .str s] _ _ rfl ⟨hp, rfl⟩
 ·cases hc
theorem v55 : ∀ d, 11 ≤ d → VC d 55 con55 := fun d hd =>
 valid_of_sym (C := ctx cc1 ccAnn) (G := GC) (B := 8) (m := 3) rfl rfl rfl vcc1 (fun us p r hc hp ht => by
  unfold con55 at hc; split at hc
  ·cases hc; exact s55 _ _ _ _ _ _ _ _ _ _ hp
  ·cases hc) (fun _ _ => rfl) rfl rfl d hd
theorem vcc2 : ∀ d, 14 ≤ d → ∀ g c, cc2 g = some c → VC d g c := fun d hd g c h => by
 unfold cc2 at h
 split at h
 ·cases h; exact v92 d (by omega)
 ·cases h; exact v93 d (by omega)
 ·cases h; exact v55 d (by omega)
 ·exact vcc1 d (by omega) _ c h
theorem v65 : ∀ d, 20 ≤ d → VC d 65 con65 := fun d hd =>
 valid_of_sym (C := ctx cc2 ccAnn) (G := GC) (B := 14) (m := 6) rfl rfl rfl vcc2 (fun us p r hc hp ht => by
  unfold con65 at hc; split at hc
  ·cases hc; exact s65 _ _ _ _ _ _ hp.1 hp.2
  ·cases hc) (fun _ _ => rfl) rfl rfl d hd
theorem v72 : ∀ d, 11 ≤ d → VC d 72 con72 := fun d hd =>
 valid_of_sym (C := ctx cc1 ccAnn) (G := GC) (B := 8) (m := 3) rfl rfl rfl vcc1 (fun us p r hc hp ht => by
  unfold con72 at hc; split at hc
  ·cases hc; exact s72 _ _ hp.1 hp.2
  ·cases hc) (fun _ _ => rfl) rfl rfl d hd
theorem v32 : ∀ d, 19 ≤ d → VC d 32 con32 := fun d hd =>
 valid_of_sym (C := ctx cc2 ccAnn) (G := GC) (B := 14) (m := 5) rfl rfl rfl vcc2 (fun us p r hc hp ht => by
  unfold con32 at hc; split at hc
  ·cases hc; exact s32 _ _ hp
  ·cases hc) (fun _ _ => rfl) rfl rfl d hd
theorem v28 : ∀ d, 7 ≤ d → VC d 28 con28 := fun d hd =>
 valid_of_sym (C := ctx (fun _ => none) ccAnn) (G := GC) (B := 2) (m := 5) rfl rfl rfl (fun d _ => vnone d) (fun us p r hc hp ht => by
  unfold con28 at hc; split at hc
  ·cases hc; exact s28 _ hp
  ·cases hc) (fun _ _ => rfl) rfl rfl d hd
theorem v7 : ∀ d, 10 ≤ d → VC d 7 con7 := fun d hd =>
 valid_of_sym (C := ctx (fun _ => none) fewAnn) (G := GC) (B := 2) (m := 8) rfl rfl rfl (fun d _ => vnone d) (fun us p r hc hp ht => by
  unfold con7 at hc; split at hc
  ·cases hc; exact sl7 _
  ·cases hc) (fun _ _ => rfl) rfl rfl d hd
theorem vcc3 : ∀ d, 20 ≤ d → ∀ g c, cc3 g = some c → VC d g c := fun d hd g c h => by
 unfold cc3 at h
 split at h
 ·cases h; exact v65 d (by omega)
 ·cases h; exact v72 d (by omega)
 ·cases h; exact v32 d (by omega)
 ·cases h; exact v28 d (by omega)
 ·cases h; exact v7 d (by omega)
 ·exact vcc2 d (by omega) _ c h
theorem v45 : ∀ d, 25 ≤ d → VC d 45 con45 := fun d hd =>
 valid_of_sym (C := ctx cc3 ccAnn) (G := GC) (B := 20) (m := 5) rfl rfl rfl vcc3 (fun us p r hc hp ht => by
  unfold con45 at hc; split at hc
  ·cases hc; exact s45 _ hp
  ·cases hc) (fun _ _ => rfl) rfl rfl d hd
theorem v52 : ∀ d, 25 ≤ d → VC d 52 con45 := fun d hd =>
 valid_of_sym (C := ctx cc3 ccAnn) (G := GC) (B := 20) (m := 5) rfl rfl rfl vcc3 (fun us p r hc hp ht => by
  unfold con45 at hc; split at hc
  ·cases hc; exact s52 _ hp
  ·cases hc) (fun _ _ => rfl) rfl rfl d hd
theorem vcc4 : ∀ d, 25 ≤ d → ∀ g c, cc4 g = some c → VC d g c := fun d hd g c h => by
 unfold cc4 at h
 split at h
 ·cases h; exact v45 d (by omega)
 ·cases h; exact v52 d (by omega)
 ·exact vcc3 d (by omega) _ c h
end Go.Ev

end

section
open Go.Proofs
namespace Go.Ev
set_option maxRecDepth 100000
abbrev VF (d : Nat) (cf : D → Con) : Prop := ValidF Tryz.prog GC (ev Tryz.prog GC d) cf
theorem vFn (d : Nat) : ∀ t c, (fun _ : TypeId => (none : Option (D → Con))) t = some c → VF d c := fun _ _ h => (noneF h).elim
theorem g_of {v : V} {g : GD} (h : gOf v = some g) : v = gV g := by
 unfold gOf at h
 split at h
 ·cases h; rfl
 ·cases h
theorem p_of {v : V} {g : GD} {p : Int} (h : pOf v = some (g, p)) : v = pV g p := by
 unfold pOf at h
 split at h
 ·cases h; rfl
 ·cases h
theorem v100 : ∀ d, 6 ≤ d → VC d 100 con100 := fun d hd =>
 valid_of_symF (C := ctxm (fun _ => none) (fun _ => none) cmAnn) (G := GC) (B := 2) (m := 4) rfl rfl rfl (fun d _ => vnone d) (fun d _ => vFn d) (fun us p r hc hp ht => by
  unfold con100 at hc
  split at hc
  ·cases hc; exact s100 _ _
  ·cases hc) (fun _ _ => rfl) rfl rfl d hd
theorem v110 : ∀ d, 6 ≤ d → VC d 110 con110 := fun d hd =>
 valid_of_symF (C := ctxm (fun _ => none) (fun _ => none) cmAnn) (G := GC) (B := 2) (m := 4) rfl rfl rfl (fun d _ => vnone d) (fun d _ => vFn d) (fun us p r hc hp ht => by
  unfold con110 at hc
  split at hc
  ·cases hc; exact s110 _ _
  ·cases hc) (fun _ _ => rfl) rfl rfl d hd
theorem v132 : ∀ d, 5 ≤ d → VC d 132 con132 := fun d hd =>
 valid_of_symF (C := ctxm (fun _ => none) (fun _ => none) cmAnn) (G := GC) (B := 2) (m := 3) rfl rfl rfl (fun d _ => vnone d) (fun d _ => vFn d) (fun us p r hc hp ht => by
  unfold con132 at hc
  split at hc
  ·cases hc; exact s132 _ _ hp
  ·cases hc) (fun _ _ => rfl) rfl rfl d hd
theorem v73 : ∀ d, 5 ≤ d → VC d 73 con73 := fun d hd =>
 valid_of_symF (C := ctxm (fun _ => none) (fun _ => none) cmAnn) (G := GC) (B := 2) (m := 3) rfl rfl rfl (fun d _ => vnone d) (fun d _ => vFn d) (fun us p r hc hp ht => by
  unfold con73 at hc
  split at hc
  ·cases hc; exact s73 _ _ hp
  ·cases hc) (fun _ _ => rfl) rfl rfl d hd
theorem vcm0 : ∀ d, 6 ≤ d → ∀ g c, cm0 g = some c → VC d g c := fun d hd g c h => by
 unfold cm0 at h
 split at h
 ·cases h; exact v107 d (by omega)
 ·cases h; exact v100 d (by omega)
 ·cases h; exact v110 d (by omega)
 ·cases h; exact v132 d (by omega)
 ·cases h
theorem v101 : ∀ d, 10 ≤ d → VC d 101 con101 := fun d hd =>
 valid_of_symF (C := ctxm cm0 (fun _ => none) cmAnn) (G := GC) (B := 6) (m := 4) rfl rfl rfl vcm0 (fun d _ => vFn d) (fun us p r hc hp ht => by
  unfold con101 at hc
  split at hc
  ·cases hc; exact s101 _ _
  ·cases hc) (fun _ _ => rfl) rfl rfl d hd
theorem v131 : ∀ d, 9 ≤ d → VC d 131 con131 := fun d hd =>
 valid_of_symF (C := ctxm cm0 (fun _ => none) cmAnn) (G := GC) (B := 6) (m := 3) rfl rfl rfl vcm0 (fun d _ => vFn d) (fun us p r hc hp ht => by
  unfold con131 at hc
  split at hc
  ·split at hc
   ·rename_i q; cases hc; rw [p_of q]; exact s131 _ _ _ hp
   ·cases hc
  ·cases hc) (fun _ _ => rfl) rfl rfl d hd
theorem v103 : ∀ d, 9 ≤ d → VC d 103 con103 := fun d hd =>
 valid_of_symF (C := ctxm cm0 (fun _ => none) cmAnn) (G := GC) (B := 6) (m := 3) rfl rfl rfl vcm0 (fun d _ => vFn d) (fun us p r hc hp ht => by
  unfold con103 at hc
  split at hc
  ·split at hc
   ·rename_i q; cases hc; rw [p_of q]; exact s103 _ _ _
   ·cases hc
  ·cases hc) (fun _ _ => rfl) rfl rfl d hd
theorem v104 : ∀ d, 9 ≤ d → VC d 104 con104 := fun d hd =>
 valid_of_symF (C := ctxm cm0 (fun _ => none) cmAnn) (G := GC) (B := 6) (m := 3) rfl rfl rfl vcm0 (fun d _ => vFn d) (fun us p r hc hp ht => by
  unfold con104 at hc
  split at hc
  ·split at hc
   ·rename_i q; cases hc; rw [p_of q]; exact s104 _ _
   ·cases hc
  ·cases hc) (fun _ _ => rfl) rfl rfl d hd
theorem v134 : ∀ d, 9 ≤ d → VC d 134 con134 := fun d hd =>
 valid_of_symF (C := ctxm cm0 (fun _ => none) cmAnn) (G := GC) (B := 6) (m := 3) rfl rfl rfl vcm0 (fun d _ => vFn d) (fun us p r hc hp ht => by
  unfold con134 at hc
  split at hc
  ·split at hc
   ·rename_i q; cases hc; rw [p_of q]; exact s134 _ _
   ·cases hc
  ·cases hc) (fun _ _ => rfl) rfl rfl d hd
theorem v108 : ∀ d, 9 ≤ d → VC d 108 con108 := fun d hd =>
 valid_of_symF (C := ctxm cm0 (fun _ => none) cmAnn) (G := GC) (B := 6) (m := 3) rfl rfl rfl vcm0 (fun d _ => vFn d) (fun us p r hc hp ht => by
  unfold con108 at hc
  split at hc
  ·split at hc
   ·rename_i q; cases hc; rw [p_of q]; exact s108 _ _ _ hp
   ·cases hc
  ·cases hc) (fun _ _ => rfl) rfl rfl d hd
theorem v112 : ∀ d, 9 ≤ d → VC d 112 con112 := fun d hd =>
 valid_of_symF (C := ctxm cm0 (fun _ => none) cmAnn) (G := GC) (B := 6) (m := 3) rfl rfl rfl vcm0 (fun d _ => vFn d) (fun us p r hc hp ht => by
  unfold con112 at hc
  split at hc
  ·cases hc; exact s112 _
  ·cases hc) (fun _ _ => rfl) rfl rfl d hd
theorem v113 : ∀ d, 9 ≤ d → VC d 113 con113 := fun d hd =>
 valid_of_symF (C := ctxm cm0 (fun _ => none) cmAnn) (G := GC) (B := 6) (m := 3) rfl rfl rfl vcm0 (fun d _ => vFn d) (fun us p r hc hp ht => by
  unfold con113 at hc
  split at hc
  ·cases hc; exact s113 _ _ hp.1 hp.2.1 hp.2.2
  ·cases hc) (fun _ _ => rfl) rfl rfl d hd
theorem v140 : ∀ d, 9 ≤ d → VC d 140 con140 := fun d hd =>
 valid_of_symF (C := ctxm cm0 (fun _ => none) cmAnn) (G := GC) (B := 6) (m := 3) rfl rfl rfl vcm0 (fun d _ => vFn d) (fun us p r hc hp ht => by
  unfold con140 at hc
  split at hc
  ·cases hc; exact s140 _
  ·cases hc) (fun _ _ => rfl) rfl rfl d hd
open Classical in
theorem v105 : ∀ d, 12 ≤ d → VC d 105 con105 := fun d hd us p r hc hp => by
 have hc0 := hc
 unfold con105 at hc; split at hc
 ·rename_i q x
  exact valid_of_symF (C := ctxm cm0 (fun _ => none) (tgAnn (cNm x))) (G := GC) (B := 6) (m := 6) (g := 105) (c := fun us => if us = [q, .dpt 57 x] then con105 us else none) rfl rfl rfl vcm0 (fun d _ => vFn d) (fun us p r hc hp ht => by
   split at hc
   ·rename_i e; subst e
    unfold con105 at hc
    simp only at hc
    split at hc
    ·rename_i h; cases hc; rw [p_of h]; exact s105 _ _ _ hp.1 hp.2
    ·cases hc
   ·cases hc) (fun _ _ => rfl) rfl rfl d hd _ p r (by show (if _ then _ else _) = _; rw [if_pos rfl]; exact hc0) hp
 ·cases hc
theorem disp (g : FuncId) (h1 : externA Tryz.prog g [undef] = none) (h2 : Nat.beq g 10 = false) : Disp Tryz.prog GC g := ⟨rfl, h1, by show cond (Nat.beq g 10) _ _ = none; rw [h2]; rfl, fun _ => rfl, rfl, rfl⟩
theorem ds131 : Disp Tryz.prog GC 131 := disp 131 (by kernel_rfl) rfl
theorem ds103 : Disp Tryz.prog GC 103 := disp 103 (by kernel_rfl) rfl
theorem ds104 : Disp Tryz.prog GC 104 := disp 104 (by kernel_rfl) rfl
theorem ds105 : Disp Tryz.prog GC 105 := disp 105 (by kernel_rfl) rfl
theorem ds108 : Disp Tryz.prog GC 108 := disp 108 (by kernel_rfl) rfl
theorem ds134 : Disp Tryz.prog GC 134 := disp 134 (by kernel_rfl) rfl
theorem ds100 : Disp Tryz.prog GC 100 := disp 100 (by kernel_rfl) rfl
theorem ds101 : Disp Tryz.prog GC 101 := disp 101 (by kernel_rfl) rfl
theorem ds112 : Disp Tryz.prog GC 112 := disp 112 (by kernel_rfl) rfl
theorem ds113 : Disp Tryz.prog GC 113 := disp 113 (by kernel_rfl) rfl
theorem ds140 : Disp Tryz.prog GC 140 := disp 140 (by kernel_rfl) rfl
theorem ds133 : Disp Tryz.prog GC 133 := disp 133 (by kernel_rfl) rfl
theorem ds138 : Disp Tryz.prog GC 138 := disp 138 (by kernel_rfl) rfl
theorem ds109 : Disp Tryz.prog GC 109 := disp 109 (by kernel_rfl) rfl
theorem ds141 : Disp Tryz.prog GC 141 := disp 141 (by kernel_rfl) rfl
theorem ds135 : Disp Tryz.prog GC 135 := disp 135 (by kernel_rfl) rfl
theorem ds97 : Disp Tryz.prog GC 97 := disp 97 (by kernel_rfl) rfl
theorem vR : ∀ d, 12 ≤ d → VF d conR := fun d hd => validF_of fun f us p r hc hp => by
 unfold conR at hc; split at hc
 ·split at hc
  ·rename_i h; cases hc; rw [p_of h]
   obtain ⟨nm, rfl, hl⟩ := hp.out
   exact ⟨_, _, _, con131, _, rfl, ds131, v131 d (by omega), rfl, hl⟩
  ·cases hc
 ·cases hc
theorem vNm : ∀ d, 12 ≤ d → VF d conNm := fun d hd => validF_of fun f us p r hc hp => by
 unfold conNm at hc; split at hc
 ·split at hc
  ·rename_i h; cases hc; rw [p_of h]
   obtain ⟨ho, htg⟩ := hp
   rcases ho.out with ⟨x, rfl⟩ | rfl | ⟨x, rfl, hx⟩ | ⟨x, rfl, hx⟩ | rfl
   ·exact ⟨_, _, _, con103, True, rfl, ds103, v103 d (by omega), (by rw [show runN _ _ = _ from propext (runN_103 x _)]; rfl), trivial⟩
   ·exact ⟨_, _, _, con104, True, rfl, ds104, v104 d (by omega), (by rw [show runN _ _ = _ from propext (runN_104 _)]; rfl), trivial⟩
   ·exact ⟨_, _, _, con105, _, rfl, ds105, v105 d (by omega), (by rw [show runN _ _ = _ from propext (runN_105 x _)]; rfl), And.intro htg hx⟩
   ·exact ⟨_, _, _, con108, _, rfl, ds108, v108 d (by omega), (by rw [show runN _ _ = _ from propext (runN_108 x _)]; rfl), hx⟩
   ·exact ⟨_, _, _, con134, True, rfl, ds134, v134 d (by omega), (by rw [show runN _ _ = _ from propext (runN_134 _)]; rfl), trivial⟩
  ·cases hc
 ·cases hc
theorem vC : ∀ d, 12 ≤ d → VF d conC := fun d hd => validF_of fun f us p r hc hp => by
 unfold conC at hc; split at hc
 ·cases hc
  rcases hp.out with rfl | rfl
  ·exact ⟨_, _, _, con100, True, rfl, ds100, v100 d (by omega), rfl, trivial⟩
  ·exact ⟨_, _, _, con101, True, rfl, ds101, v101 d (by omega), rfl, trivial⟩
 ·cases hc
theorem vK : ∀ d, 12 ≤ d → VF d conK := fun d hd => validF_of fun f us p r hc hp => by
 unfold conK at hc; split at hc
 ·cases hc
  obtain ⟨ho, hb⟩ := hp
  rcases ho.out with rfl | ⟨x, rfl, hx, hx'⟩
  ·exact ⟨_, _, _, con112, True, rfl, ds112, v112 d (by omega), rfl, trivial⟩
  ·exact ⟨_, _, _, con113, _, rfl, ds113, v113 d (by omega), rfl, hb, hx, hx'⟩
 ·cases hc
theorem vB : ∀ d, 12 ≤ d → VF d conB := fun d hd => validF_of fun f us p r hc hp => by
 unfold conB at hc; split at hc
 ·cases hc
  have hp : f = .fn 140 [] [] := hp
  subst hp
  exact ⟨_, _, _, con140, True, rfl, ds140, v140 d (by omega), rfl, trivial⟩
 ·cases hc
theorem vF1 : ∀ d, 12 ≤ d → ∀ t c, cF1 t = some c → VF d c := fun d hd t c h => by
 unfold cF1 at h
 split at h
 ·cases h; exact vR d hd
 ·cases h; exact vNm d hd
 ·cases h; exact vC d hd
 ·cases h; exact vK d hd
 ·cases h; exact vB d hd
 ·cases h
theorem v133 : ∀ d, 15 ≤ d → VC d 133 con133 := fun d hd =>
 valid_of_symF (C := ctxm cm0 cF1 cmAnn) (G := GC) (B := 12) (m := 3) rfl rfl rfl (fun d hd => vcm0 d (by omega)) vF1 (fun us p r hc hp ht => by
  unfold con133 at hc
  split at hc
  ·split at hc
   ·rename_i q1 q2; cases hc; rw [p_of q1, p_of q2]; exact s133 _ _ _ _ _ hp
   ·cases hc
  ·cases hc) (fun _ _ => rfl) rfl rfl d hd
theorem v138 : ∀ d, 15 ≤ d → VC d 138 con138 := fun d hd =>
 valid_of_symF (C := ctxm cm0 cF1 cmAnn) (G := GC) (B := 12) (m := 3) rfl rfl rfl (fun d hd => vcm0 d (by omega)) vF1 (fun us p r hc hp ht => by
  unfold con138 at hc
  split at hc
  ·split at hc
   ·rename_i q1 q2; cases hc; rw [p_of q1, p_of q2]; exact s138 _ _ _ _ _ _ hp.1 hp.2.1 hp.2.2
   ·cases hc
  ·cases hc) (fun _ _ => rfl) rfl rfl d hd
theorem v109 : ∀ d, 15 ≤ d → VC d 109 con109 := fun d hd =>
 valid_of_symF (C := ctxm cm0 cF1 cmAnn) (G := GC) (B := 12) (m := 3) rfl rfl rfl (fun d hd => vcm0 d (by omega)) vF1 (fun us p r hc hp ht => by
  unfold con109 at hc
  split at hc
  ·split at hc
   ·rename_i q1 q2; cases hc; rw [p_of q1, p_of q2]; exact s109 _ _ _ _
   ·cases hc
  ·cases hc) (fun _ _ => rfl) rfl rfl d hd
theorem v141 : ∀ d, 15 ≤ d → VC d 141 con141 := fun d hd =>
 valid_of_symF (C := ctxm cm0 cF1 cmAnn) (G := GC) (B := 12) (m := 3) rfl rfl rfl (fun d hd => vcm0 d (by omega)) vF1 (fun us p r hc hp ht => by
  unfold con141 at hc
  split at hc
  ·split at hc
   ·rename_i q1 q2; cases hc; rw [p_of q1, p_of q2]; exact s141 _ _ _ _ _ _ hp.1 hp.2
   ·cases hc
  ·cases hc) (fun _ _ => rfl) rfl rfl d hd
theorem conT1_go {d : Nat} (hd : 15 ≤ d) {f : D} (ho : okT1 f) {a b : GD} {i j : Int} (ha : a.tg.len ≤ 100) (hb : b.tg.len ≤ 100) : ∃ (g : FuncId) (ts : List TypeId) (ds : List D) (c : Con) (p' : Prop), f = .fn g ts ds ∧ Disp Tryz.prog GC g ∧ VC d g c ∧ c ([pV a i, pV b j] ++ capsV ts ds) = some (p', .int .i64 (runT1 f a b i j)) ∧ p' := by
 rcases ho.out with ⟨r, rfl, hr⟩ | ⟨n, la, rfl, hn⟩ | rfl | ⟨k, rfl, hk⟩
 ·exact ⟨_, _, _, con133, _, rfl, ds133, v133 d (by omega), rfl, hr⟩
 ·exact ⟨_, _, _, con138, _, rfl, ds138, v138 d (by omega), (by rw [runT1_138]; rfl), And.intro hn (And.intro ha hb)⟩
 ·exact ⟨_, _, _, con109, True, rfl, ds109, v109 d (by omega), (by rw [runT1_109]; rfl), trivial⟩
 ·exact ⟨_, _, _, con141, _, rfl, ds141, v141 d (by omega), (by rw [runT1_141]; rfl), And.intro rfl hk⟩
theorem vT1 : ∀ d, 15 ≤ d → VF d conT1 := fun d hd => validF_of fun f us p r hc hp => by
 unfold conT1 at hc; split at hc
 ·split at hc
  ·rename_i q1 q2; cases hc; rw [p_of q1, p_of q2]
   exact conT1_go hd hp.1 hp.2.1 hp.2.2
  ·cases hc
 ·cases hc
theorem vF2 : ∀ d, 15 ≤ d → ∀ t c, cF2 t = some c → VF d c := fun d hd t c h => by
 unfold cF2 at h
 split at h
 ·cases h; exact vT1 d hd
 ·exact vF1 d (by omega) _ c h
theorem v135 : ∀ d, 19 ≤ d → VC d 135 con135 := fun d hd =>
 valid_of_symF (C := ctxm cm0 cF2 cmAnn) (G := GC) (B := 15) (m := 4) rfl rfl rfl (fun d hd => vcm0 d (by omega)) vF2 (fun us p r hc hp ht => by
  unfold con135 at hc
  split at hc
  ·split at hc
   ·rename_i q1 q2; cases hc; rw [p_of q1, p_of q2]; exact s135 _ _ _ _ _ _ hp.1 hp.2.1 hp.2.2.1 hp.2.2.2
   ·cases hc
  ·cases hc) (fun _ _ => rfl) rfl rfl d hd
theorem okT1_id {f : D} (h : okT1 f) : ∃ g ts ds, f = .fn g ts ds ∧ g ≠ 135 := by
 rcases h.out with ⟨r, rfl, hr⟩ | ⟨n, la, rfl, hn⟩ | rfl | ⟨k, rfl, hk⟩
 ·exact ⟨_, _, _, rfl, by decide⟩
 ·exact ⟨_, _, _, rfl, by decide⟩
 ·exact ⟨_, _, _, rfl, by decide⟩
 ·exact ⟨_, _, _, rfl, by decide⟩
theorem vT2 : ∀ d, 19 ≤ d → VF d conT2 := fun d hd => validF_of fun f us p r hc hp => by
 unfold conT2 at hc; split at hc
 ·split at hc
  ·rename_i q1 q2; cases hc; rw [p_of q1, p_of q2]
   rcases hp.1.out with h | ⟨u, c, rfl, hu, hcc⟩
   ·have e : ∀ a b i j, runT2 f a b i j = runT1 f a b i j := fun a b i j => by
     obtain ⟨g, ts, ds, rfl, hg⟩ := okT1_id h
     exact runT2_1 hg a b i j
    rw [e]
    exact conT1_go (by omega) h hp.2.1 hp.2.2
   ·exact ⟨_, _, _, con135, _, rfl, ds135, v135 d (by omega), (by rw [runT2_135]; rfl), And.intro hu (And.intro hcc hp.2)⟩
  ·cases hc
 ·cases hc
theorem vF3 : ∀ d, 19 ≤ d → ∀ t c, cF3 t = some c → VF d c := fun d hd t c h => by
 unfold cF3 at h
 split at h
 ·cases h; exact vT2 d hd
 ·cases h
theorem v97 : ∀ d, 22 ≤ d → VC d 97 con97 := fun d hd =>
 valid_of_symF (C := ctxm cm0 cF3 cmAnn) (G := GC) (B := 19) (m := 3) rfl rfl rfl (fun d hd => vcm0 d (by omega)) vF3 (fun us p r hc hp ht => by
  unfold con97 at hc
  split at hc
  ·split at hc
   ·rename_i q1 q2; cases hc; rw [p_of q1, p_of q2]; exact s97 _ _ _ _ _ _ hp.1 hp.2.1 hp.2.2
   ·cases hc
  ·cases hc) (fun _ _ => rfl) rfl rfl d hd
theorem vA : ∀ d, 22 ≤ d → VF d conA := fun d hd => validF_of fun f us p r hc hp => by
 unfold conA at hc; split at hc
 ·split at hc
  ·rename_i q1 q2; cases hc; rw [p_of q1, p_of q2]
   obtain ⟨s, t, rfl, ht⟩ := hp.1.out
   exact ⟨_, _, _, con97, _, rfl, ds97, v97 d (by omega), rfl, ht, hp.2.1, hp.2.2⟩
  ·cases hc
 ·cases hc
theorem vF4 : ∀ d, 22 ≤ d → ∀ t c, cF4 t = some c → VF d c := fun d hd t c h => by
 unfold cF4 at h
 split at h
 ·cases h; exact vA d hd
 ·cases h
open Classical in
theorem v42 : ∀ d, 25 ≤ d → VC d 42 con42 := fun d hd us p r hc hp => by
 have hc0 := hc
 unfold con42 at hc; split at hc
 ·rename_i ts q1 q2
  split at hc
  ·rename_i a i b j h1 h2
   exact valid_of_symF (C := ctxm cm0 cF4 (sepAnn (fun k => runA (el ts k) a b i j))) (G := GC) (B := 22) (m := 3) (g := 42) (c := fun us => if us = [.dat 82 ts, q1, q2] then con42 us else none) rfl rfl rfl (fun d hd => vcm0 d (by omega)) vF4 (fun us p r hc hp ht => by
    split at hc
    ·rename_i e; subst e
     unfold con42 at hc
     simp only [h1, h2] at hc
     cases hc
     rw [p_of h1, p_of h2]; exact s42 _ _ _ _ _ hp.1.1 hp.1.2 hp.2.1 hp.2.2
    ·cases hc) (fun _ _ => rfl) rfl rfl d hd _ p r (by show (if _ then _ else _) = _; rw [if_pos rfl]; exact hc0) hp
  ·cases hc
 ·cases hc
theorem v71 : ∀ d, 11 ≤ d → VC d 71 con71 := fun d hd =>
 valid_of_symF (C := ctxm cm0 (fun _ => none) cmAnn) (G := GC) (B := 6) (m := 5) rfl rfl rfl vcm0 (fun d _ => vFn d) (fun us p r hc hp ht => by
  unfold con71 at hc
  split at hc
  ·cases hc; exact s71 _ _ _ _ _
  ·cases hc) (fun _ _ => rfl) rfl rfl d hd
theorem v70 : ∀ d, 9 ≤ d → VC d 70 con70 := fun d hd =>
 valid_of_symF (C := ctxm cm0 (fun _ => none) cmAnn) (G := GC) (B := 6) (m := 3) rfl rfl rfl vcm0 (fun d _ => vFn d) (fun us p r hc hp ht => by
  unfold con70 at hc
  split at hc
  ·cases hc; exact s70 _ _
  ·cases hc) (fun _ _ => rfl) rfl rfl d hd
theorem vcn0 : ∀ d, 25 ≤ d → ∀ g c, cn0 g = some c → VC d g c := fun d hd g c h => by
 unfold cn0 at h
 split at h
 ·cases h; exact v71 d (by omega)
 ·cases h; exact v70 d (by omega)
 ·exact vcc4 d (by omega) _ c h
theorem v43 : ∀ d, 30 ≤ d → VC d 43 con43 := fun d hd =>
 valid_of_symF (C := ctx cn0 cnAnn) (G := GC) (B := 25) (m := 5) rfl rfl rfl vcn0 (fun _ _ _ _ h => (noneF h).elim) (fun us p r hc hp ht => by
  unfold con43 at hc
  split at hc
  ·cases hc; exact s43 _ hp
  ·cases hc) (fun _ _ => rfl) rfl rfl d hd
theorem v41 : ∀ d, 29 ≤ d → VC d 41 con41 := fun d hd =>
 valid_of_symF (C := ctx cc4 cnAnn) (G := GC) (B := 25) (m := 4) rfl rfl rfl vcc4 (fun _ _ _ _ h => (noneF h).elim) (fun us p r hc hp ht => by
  unfold con41 at hc
  split at hc
  ·cases hc; exact s41 _ hp
  ·cases hc) (fun _ _ => rfl) rfl rfl d hd
theorem v30 : ∀ d, 29 ≤ d → VC d 30 con41 := fun d hd =>
 valid_of_symF (C := ctx cc4 cnAnn) (G := GC) (B := 25) (m := 4) rfl rfl rfl vcc4 (fun _ _ _ _ h => (noneF h).elim) (fun us p r hc hp ht => by
  unfold con41 at hc
  split at hc
  ·cases hc; exact s30 _ hp
  ·cases hc) (fun _ _ => rfl) rfl rfl d hd
theorem v51 : ∀ d, 6 ≤ d → VC d 51 con51 := fun d hd =>
 valid_of_symF (C := ctx (fun _ => none) cnAnn) (G := GC) (B := 2) (m := 4) rfl rfl rfl (fun d _ => vnone d) (fun _ _ _ _ h => (noneF h).elim) (fun us p r hc hp ht => by
  unfold con51 at hc
  split at hc
  ·cases hc; exact s51 _ hp
  ·cases hc) (fun _ _ => rfl) rfl rfl d hd
theorem v56 : ∀ d, 12 ≤ d → VC d 56 con56 := fun d hd =>
 valid_of_symF (C := ctx cc1 cnAnn) (G := GC) (B := 8) (m := 4) rfl rfl rfl vcc1 (fun _ _ _ _ h => (noneF h).elim) (fun us p r hc hp ht => by
  unfold con56 at hc
  split at hc
  ·cases hc; exact s56 _ _ hp
  ·cases hc) (fun _ _ => rfl) rfl rfl d hd
open Classical in
theorem v76 : ∀ d, 12 ≤ d → VC d 76 con76 := fun d hd us p r hc hp => by
 have hc0 := hc
 unfold con76 at hc; split at hc
 ·rename_i k s la nm n q
  split at hc
  ·rename_i g h1
   exact valid_of_symF (C := ctx cc1 (namAnn nm g.tg)) (G := GC) (B := 8) (m := 4) (g := 76) (c := fun us => if us = [.agg [.int .u8 k, .str s, .prop la, .dat 23 nm, .int .i64 n], q] then con76 us else none) rfl rfl rfl vcc1 (fun _ _ _ _ h => (noneF h).elim) (fun us p r hc hp ht => by
    split at hc
    ·rename_i e; subst e
     unfold con76 at hc
     simp only [h1] at hc
     cases hc
     rw [g_of h1]; exact s76 _ _ _ _ _ _ hp.1 hp.2
    ·cases hc) (fun _ _ => rfl) rfl rfl d hd _ p r (by show (if _ then _ else _) = _; rw [if_pos rfl]; exact hc0) hp
  ·cases hc
 ·cases hc
theorem vcn1 : ∀ d, 30 ≤ d → ∀ g c, cn1 g = some c → VC d g c := fun d hd g c h => by
 unfold cn1 at h
 split at h
 ·cases h; exact v71 d (by omega)
 ·cases h; exact v70 d (by omega)
 ·cases h; exact v43 d (by omega)
 ·cases h; exact v42 d (by omega)
 ·cases h; exact v41 d (by omega)
 ·cases h; exact v30 d (by omega)
 ·cases h; exact v73 d (by omega)
 ·cases h; exact v51 d (by omega)
 ·cases h; exact v56 d (by omega)
 ·cases h; exact v76 d (by omega)
 ·exact vcc4 d (by omega) _ c h
theorem v53 : ∀ d, 34 ≤ d → VC d 53 con53 := fun d hd =>
 valid_of_symF (C := ctx cn1 cnAnn) (G := GC) (B := 30) (m := 4) rfl rfl rfl vcn1 (fun _ _ _ _ h => (noneF h).elim) (fun us p r hc hp ht => by
  unfold con53 at hc
  split at hc
  ·split at hc
   ·rename_i q1 q2; cases hc; rw [g_of q1, g_of q2]; exact s53 _ _ _ _ _ _ _ _ _ hp.1 hp.2.1 hp.2.2.1 hp.2.2.2
   ·cases hc
  ·cases hc) (fun _ _ => rfl) rfl rfl d hd
theorem v29 : ∀ d, 34 ≤ d → VC d 29 con29 := fun d hd =>
 valid_of_symF (C := ctx cn1 cnAnn) (G := GC) (B := 30) (m := 4) rfl rfl rfl vcn1 (fun _ _ _ _ h => (noneF h).elim) (fun us p r hc hp ht => by
  unfold con29 at hc
  split at hc
  ·split at hc
   ·rename_i q; cases hc; rw [g_of q]; exact s29 _ hp
   ·cases hc
  ·cases hc) (fun _ _ => rfl) rfl rfl d hd
theorem v33 : ∀ d, 34 ≤ d → VC d 33 con33 := fun d hd =>
 valid_of_symF (C := ctx cn1 cnAnn) (G := GC) (B := 30) (m := 4) rfl rfl rfl vcn1 (fun _ _ _ _ h => (noneF h).elim) (fun us p r hc hp ht => by
  unfold con33 at hc
  split at hc
  ·split at hc
   ·rename_i q1 q2; cases hc; rw [g_of q1, g_of q2]; exact s33 _ _ hp
   ·cases hc
  ·cases hc) (fun _ _ => rfl) rfl rfl d hd
theorem v13 : ∀ d, 34 ≤ d → VC d 13 con13 := fun d hd =>
 valid_of_symF (C := ctx cn1 cnAnn) (G := GC) (B := 30) (m := 4) rfl rfl rfl vcn1 (fun _ _ _ _ h => (noneF h).elim) (fun us p r hc hp ht => by
  unfold con13 at hc
  split at hc
  ·split at hc
   ·rename_i q1 q2; cases hc; rw [g_of q1, g_of q2]; exact s13 _ _ _ _ _ hp.1 hp.2.1 hp.2.2
   ·cases hc
  ·cases hc) (fun _ _ => rfl) rfl rfl d hd
theorem v26 : ∀ d, 8 ≤ d → VC d 26 con26 := fun d hd =>
 valid_of_symF (C := ctx (fun _ => none) cnAnn) (G := GC) (B := 2) (m := 6) rfl rfl rfl (fun d _ => vnone d) (fun _ _ _ _ h => (noneF h).elim) (fun us p r hc hp ht => by
  unfold con26 at hc
  split at hc
  ·cases hc; exact s26 ⟨_, _, _, _, _, _, _, _, _⟩
  ·cases hc) (fun _ _ => rfl) rfl rfl d hd
theorem vcn2 : ∀ d, 34 ≤ d → ∀ g c, cn2 g = some c → VC d g c := fun d hd g c h => by
 unfold cn2 at h
 split at h
 ·cases h; exact v53 d (by omega)
 ·cases h; exact v29 d (by omega)
 ·cases h; exact v33 d (by omega)
 ·cases h; exact v13 d (by omega)
 ·cases h; exact v26 d (by omega)
 ·exact vcn1 d (by omega) _ c h
open Classical in
theorem v31 : ∀ d, 38 ≤ d → VC d 31 con31 := fun d hd us p r hc hp => by
 have hc0 := hc
 unfold con31 at hc; split at hc
 ·rename_i c q1 q2 i j
  split at hc
  ·rename_i a b h1 h2
   exact valid_of_symF (C := ctx cn2 (sepAnn (clE c a b i j))) (G := GC) (B := 34) (m := 4) (g := 31) (c := fun us => if us = [.dat 22 c, q1, q2, .int .i64 i, .int .i64 j] then con31 us else none) rfl rfl rfl vcn2 (fun _ _ _ _ h => (noneF h).elim) (fun us p r hc hp ht => by
    split at hc
    ·rename_i e; subst e
     unfold con31 at hc
     simp only [h1, h2] at hc
     cases hc
     rw [g_of h1, g_of h2]; exact s31 _ _ _ _ _ hp.1.1 hp.1.2 hp.2.1 hp.2.2
    ·cases hc) (fun _ _ => rfl) rfl rfl d hd _ p r (by show (if _ then _ else _) = _; rw [if_pos rfl]; exact hc0) hp
  ·cases hc
 ·cases hc
theorem v14 : ∀ d, 38 ≤ d → VC d 14 con14 := fun d hd =>
 valid_of_symF (C := ctx cn2 cnAnn) (G := GC) (B := 34) (m := 4) rfl rfl rfl vcn2 (fun _ _ _ _ h => (noneF h).elim) (fun us p r hc hp ht => by
  unfold con14 at hc
  split at hc
  ·split at hc
   ·rename_i q1 q2; cases hc; rw [g_of q1, g_of q2]; exact s14 _ _ _ _ _ hp.1 hp.2.1 hp.2.2
   ·cases hc
  ·cases hc) (fun _ _ => rfl) rfl rfl d hd
theorem v8 : ∀ d, 40 ≤ d → VC d 8 con8v := fun d hd =>
 valid_of_symF (C := ctx cn2 cnAnn) (G := GC) (B := 34) (m := 6) rfl rfl rfl vcn2 (fun _ _ _ _ h => (noneF h).elim) (fun us p r hc hp ht => by
  unfold con8v at hc
  split at hc
  ·cases hc; exact sl8 _
  ·cases hc) (fun _ _ => rfl) rfl rfl d hd
theorem vcn3 : ∀ d, 40 ≤ d → ∀ g c, cn3 g = some c → VC d g c := fun d hd g c h => by
 unfold cn3 at h
 split at h
 ·cases h; exact v31 d (by omega)
 ·cases h; exact v14 d (by omega)
 ·cases h; exact v8 d (by omega)
 ·exact vcn2 d (by omega) _ c h
theorem v9 : ∀ d, 44 ≤ d → VC d 9 con9 := fun d hd =>
 valid_of_symF (C := ctx cn3 cnAnn) (G := GC) (B := 40) (m := 4) rfl rfl rfl vcn3 (fun _ _ _ _ h => (noneF h).elim) (fun us p r hc hp ht => by
  unfold con9 at hc
  split at hc
  ·split at hc
   ·rename_i q1 q2; cases hc; rw [g_of q1, g_of q2]; exact s9 _ _ _ _ _ hp.1 hp.2.1 hp.2.2
   ·cases hc
  ·cases hc) (fun _ _ => rfl) rfl rfl d hd
theorem vcn4 : ∀ d, 44 ≤ d → ∀ g c, cn4 g = some c → VC d g c := fun d hd g c h => by
 unfold cn4 at h
 split at h
 ·cases h; exact v9 d (by omega)
 ·exact vcn3 d (by omega) _ c h
theorem v3 : ∀ d, 48 ≤ d → VC d 3 con3 := fun d hd =>
 valid_of_symF (C := ctx cn4 cnAnn) (G := GC) (B := 44) (m := 4) rfl rfl rfl vcn4 (fun _ _ _ _ h => (noneF h).elim) (fun us p r hc hp ht => by
  unfold con3 at hc
  split at hc
  ·split at hc
   ·rename_i q1 q2; cases hc; rw [g_of q1, g_of q2]; exact sl3 _ _ _ _ _
   ·cases hc
  ·cases hc) (fun _ _ => rfl) rfl rfl d hd
end Go.Ev

end

section
open Go.Proofs Go.Proofs.YtidhienppjdimaaGreatDoor
namespace Go.Ev
open Go.ChangeShapes Go.WideShapes Go.ChangeAt Go.RowKit
theorem arr_ints {P : Program} {w : World} {n e : Nat} {k : IntKind} {t : TypeId} {fuel : Nat} {cs : List Value} {zs : List Int} {p : List MemPlace} {enc : TypeId × Value → Unit} {base : Nat} {sp : Nat → Bool} {held : Bool}
  (ht : P.underlying t = some (.array n e)) (he : P.underlying e = some (.int k)) (hc1 : P.cellsOf e = 1) (hct : P.cellsOf t = n)
  (h : DataW.trod enc P w base sp held fuel t cs = some (.agg (zs.map fun z => .lit (.int k z)), p)) : cs = zs.map (Value.int k) := by
 obtain ⟨xs, m, _, ex, hlen, hxl, hel⟩ := DataW.trod_array ht h
 have e3 : (zs.map fun z => (DataW.lit (.int k z) : DataW Unit)) = xs.map (·.1) := DataW.agg.inj (Prod.mk.inj ex).1
 have hzl : zs.length = n := by have := congrArg List.length e3; simp at this; omega
 rw [hct] at hlen
 refine List.ext_getElem? fun i => ?_
 by_cases hi : i < n
 ·have k0 := hel i hi
  rw [hc1, Nat.mul_one, List.getElem?_eq_getElem (by omega : i < xs.length)] at k0
  obtain ⟨z, e1, e2, _⟩ := DataW.trod_int he k0
  have h0 : ((cs.drop i).take 1)[0]? = some (.int k z) := by rw [e1]; rfl
  have h1 : cs[i]? = some (.int k z) := by simpa using h0
  have h2 : (zs.map fun z => (DataW.lit (.int k z) : DataW Unit))[i]? = (xs.map (·.1))[i]? := by rw [e3]
  rw [List.getElem?_map, List.getElem?_map, List.getElem?_eq_getElem (by omega : i < zs.length), List.getElem?_eq_getElem (by omega : i < xs.length), e2] at h2
  simp only [Option.map_some, Option.some.injEq, DataW.lit.injEq, Lit.int.injEq, true_and] at h2
  rw [h1, List.getElem?_map, List.getElem?_eq_getElem (by omega : i < zs.length), Option.map_some, h2]
 ·rw [List.getElem?_eq_none (by omega), List.getElem?_eq_none (by simp; omega)]
theorem bytes_eq {s : ByteArray} {l : List UInt8} (h : s.data.toList = l) : s = ⟨⟨l⟩⟩ := by subst h; rfl
theorem form_cells {P : Program} {w : World} {t ts ti tb : TypeId} {fuel : Nat} {c : List Value} {s : List UInt8} {a b : Int} {x y z : Bool} {p : List MemPlace} {enc : TypeId × Value → Unit} {base : Nat} {sp : Nat → Bool} {held : Bool} {fs : Array Field} {f0 f1 f2 f3 f4 f5 : Field}
  (ht : P.underlying t = some (.struct fs)) (hf : fs = #[f0, f1, f2, f3, f4, f5]) (ho : f0.offset = 0 ∧ f1.offset = 1 ∧ f2.offset = 2 ∧ f3.offset = 3 ∧ f4.offset = 4 ∧ f5.offset = 5)
  (hty : f0.type = ts ∧ f1.type = ti ∧ f2.type = ti ∧ f3.type = tb ∧ f4.type = tb ∧ f5.type = tb) (hs : P.underlying ts = some .string) (hi : P.underlying ti = some (.int .i64)) (hb : P.underlying tb = some .bool)
  (hc : P.cellsOf ts = 1 ∧ P.cellsOf ti = 1 ∧ P.cellsOf tb = 1 ∧ P.cellsOf t = 6)
  (h : DataW.trod enc P w base sp held fuel t c = some (.agg [.lit (.string s), .lit (.int .i64 a), .lit (.int .i64 b), .lit (.bool x), .lit (.bool y), .lit (.bool z)], p)) :
  c = [.string ⟨⟨s⟩⟩, .int .i64 a, .int .i64 b, .bool x, .bool y, .bool z] := by
 obtain ⟨xs, m, _, ex, hlen, hxl, hel⟩ := DataW.trod_struct ht h
 subst hf
 rw [hc.2.2.2] at hlen
 have hxl : xs.length = 6 := hxl
 match xs, hxl with
 | [x0, x1, x2, x3, x4, x5], _ =>
  have e3 := DataW.agg.inj (Prod.mk.inj ex).1
  simp only [List.map_cons, List.map_nil, List.cons.injEq, and_true] at e3
  obtain ⟨g0, g1, g2, g3, g4, g5⟩ := e3
  match c, hlen with
  | [c0, c1, c2, c3, c4, c5], _ =>
   have k0 := hel 0 f0 rfl
   have k1 := hel 1 f1 rfl
   have k2 := hel 2 f2 rfl
   have k3 := hel 3 f3 rfl
   have k4 := hel 4 f4 rfl
   have k5 := hel 5 f5 rfl
   rw [ho.1, hty.1, hc.1] at k0
   rw [ho.2.1, hty.2.1, hc.2.1] at k1
   rw [ho.2.2.1, hty.2.2.1, hc.2.1] at k2
   rw [ho.2.2.2.1, hty.2.2.2.1, hc.2.2.1] at k3
   rw [ho.2.2.2.2.1, hty.2.2.2.2.1, hc.2.2.1] at k4
   rw [ho.2.2.2.2.2, hty.2.2.2.2.2, hc.2.2.1] at k5
   obtain ⟨v0, d0, q0, _⟩ := DataW.trod_string hs k0
   obtain ⟨v1, d1, q1, _⟩ := DataW.trod_int hi k1
   obtain ⟨v2, d2, q2, _⟩ := DataW.trod_int hi k2
   obtain ⟨v3, d3, q3⟩ := DataW.trod_bool hb k3
   obtain ⟨v4, d4, q4⟩ := DataW.trod_bool hb k4
   obtain ⟨v5, d5, q5⟩ := DataW.trod_bool hb k5
   have d0 : c0 = .string v0 := (List.cons.inj d0).1
   have d1 : c1 = .int .i64 v1 := (List.cons.inj d1).1
   have d2 : c2 = .int .i64 v2 := (List.cons.inj d2).1
   have d3 : c3 = .bool v3 := (List.cons.inj d3).1
   have d4 : c4 = .bool v4 := (List.cons.inj d4).1
   have d5 : c5 = .bool v5 := (List.cons.inj d5).1
   subst q0 q1 q2 q3 q4 q5
   have r0 := Lit.string.inj (DataW.lit.inj g0)
   have r1 := (Lit.int.inj (DataW.lit.inj g1)).2
   have r2 := (Lit.int.inj (DataW.lit.inj g2)).2
   have r3 := Lit.bool.inj (DataW.lit.inj g3)
   have r4 := Lit.bool.inj (DataW.lit.inj g4)
   have r5 := Lit.bool.inj (DataW.lit.inj g5)
   subst r1 r2 r3 r4 r5
   rw [d0, d1, d2, d3, d4, d5, bytes_eq r0.symm]
theorem chunk_eq {α : Type} {k : Nat} : ∀ (n : Nat) {a b : List α}, a.length = n * k → b.length = n * k → (∀ i, i < n → (a.drop (i * k)).take k = (b.drop (i * k)).take k) → a = b
 | 0, a, b, ha, hb, _ => by rw [List.eq_nil_of_length_eq_zero (by omega : a.length = 0), List.eq_nil_of_length_eq_zero (by omega : b.length = 0)]
 | n + 1, a, b, ha, hb, h => by
  have h0 := h 0 (by omega)
  rw [Nat.zero_mul, List.drop_zero, List.drop_zero] at h0
  have ha' : a.length = n * k + k := by rw [ha, Nat.succ_mul]
  have hb' : b.length = n * k + k := by rw [hb, Nat.succ_mul]
  have h1 : a.drop k = b.drop k := chunk_eq (k := k) n (by rw [List.length_drop]; omega) (by rw [List.length_drop]; omega) fun i hi => by
   have := h (i + 1) (by omega)
   rw [List.drop_drop, List.drop_drop]
   rw [Nat.succ_mul, Nat.add_comm] at this
   exact this
  rw [← List.take_append_drop k a, ← List.take_append_drop k b, h0, h1]
def pow10z : List Int := [1, 10, 100, 1000, 10000, 100000, 1000000, 10000000, 100000000, 1000000000, 10000000000, 100000000000, 1000000000000, 10000000000000, 100000000000000, 1000000000000000, 10000000000000000, 100000000000000000, 1000000000000000000, 10000000000000000000]
abbrev laidC : List (String × DataW Unit) := Rows.courtComparesRow.laid
theorem pow_laid {W : World} (h : laidMetH Tryz.prog laidC W) : ∃ cs, W.var? Tryz.prog "internal/strconv.uint64pow10" = some cs ∧ cs.toList = pow10s := by
 rw [MakeChecks.laidMetH_plain _ _ _ (by kernel_rfl)] at h
 obtain ⟨ps, hl, _, _⟩ := h
 obtain ⟨_, _, _, _, _, _, _, _, _, _, hl, _⟩ := hl
 obtain ⟨_, _, _, _, _, _, _, _, _, _, hl, _⟩ := hl
 obtain ⟨g, t, cs, fuel, p, q, hg, ht, hv, hd, _, _⟩ := hl
 obtain rfl := Option.some.inj ((show Tryz.prog.globalNamed "internal/strconv.uint64pow10" = some 4 by kernel_rfl).symm.trans hg)
 obtain rfl := Option.some.inj ((show (Tryz.prog.globals[4]?).map (·.type) = some 213 by kernel_rfl).symm.trans ht)
 refine ⟨cs, hv, ?_⟩
 have e : (Rows.laid_internal_strconv_uint64pow10 : DataW Unit) = .agg (pow10z.map fun z => .lit (.int .u64 z)) := by kernel_rfl
 rw [e] at hd
 exact arr_ints (zs := pow10z) (n := 20) (e := 199) Tryz.underlying213 Tryz.underlying199 (by kernel_rfl) (by kernel_rfl) hd
theorem forms_laid {W : World} (h : laidMetH Tryz.prog laidC W) : ∃ cs, W.var? Tryz.prog "trestle/court.forms" = some cs ∧ cs.toList = formCs := by
 rw [MakeChecks.laidMetH_plain _ _ _ (by kernel_rfl)] at h
 obtain ⟨ps, hl, _, _⟩ := h
 obtain ⟨_, _, _, _, _, _, _, _, _, _, hl, _⟩ := hl
 obtain ⟨_, _, _, _, _, _, _, _, _, _, hl, _⟩ := hl
 obtain ⟨_, _, _, _, _, _, _, _, _, _, hl, _⟩ := hl
 obtain ⟨_, _, _, _, _, _, _, _, _, _, hl, _⟩ := hl
 obtain ⟨_, _, _, _, _, _, _, _, _, _, hl, _⟩ := hl
 obtain ⟨_, _, _, _, _, _, _, _, _, _, hl, _⟩ := hl
 obtain ⟨g, t, cs, fuel, p, q, hg, ht, hv, hd, _, _⟩ := hl
 obtain rfl := Option.some.inj ((show Tryz.prog.globalNamed "trestle/court.forms" = some 0 by kernel_rfl).symm.trans hg)
 obtain rfl := Option.some.inj ((show (Tryz.prog.globals[0]?).map (·.type) = some 138 by kernel_rfl).symm.trans ht)
 refine ⟨cs, hv, ?_⟩
 obtain ⟨xs, m, _, ex, hlen, hxl, hel⟩ := DataW.trod_array Tryz.underlying138 hd
 have hc6 : Tryz.prog.cellsOf 137 = 6 := by kernel_rfl
 rw [show Tryz.prog.cellsOf 138 = 66 by kernel_rfl] at hlen
 rw [hc6] at hel
 match xs, hxl with
 | [x0, x1, x2, x3, x4, x5, x6, x7, x8, x9, x10], _ =>
  have e3 := DataW.agg.inj (Prod.mk.inj ex).1
  simp only [List.map_cons, List.map_nil, List.cons.injEq, and_true] at e3
  obtain ⟨g0, g1, g2, g3, g4, g5, g6, g7, g8, g9, g10⟩ := e3
  have one : ∀ {c : List Value} {x : DataW Unit × List MemPlace} {s : List UInt8} {a b : Int} {u v z : Bool}, DataW.trod (fun _ => ()) Tryz.prog W 0 (fun _ => true) false m 137 c = some x → DataW.agg [.lit (.string s), .lit (.int .i64 a), .lit (.int .i64 b), .lit (.bool u), .lit (.bool v), .lit (.bool z)] = x.1 → c = [.string ⟨⟨s⟩⟩, .int .i64 a, .int .i64 b, .bool u, .bool v, .bool z] := fun {c x s a b u v z} h1 h2 => by
   obtain ⟨x1, x2⟩ := x
   cases h2
   exact form_cells Tryz.underlying137 rfl ⟨rfl, rfl, rfl, rfl, rfl, rfl⟩ ⟨rfl, rfl, rfl, rfl, rfl, rfl⟩ Tryz.underlying9 Tryz.underlying3 Tryz.underlying4 ⟨by kernel_rfl, by kernel_rfl, by kernel_rfl, hc6⟩ h1
  refine chunk_eq (k := 6) 11 hlen (by rfl) fun i hi => ?_
  match i, hi with
  | 0, h => exact one (hel 0 h) g0
  | 1, h => exact one (hel 1 h) g1
  | 2, h => exact one (hel 2 h) g2
  | 3, h => exact one (hel 3 h) g3
  | 4, h => exact one (hel 4 h) g4
  | 5, h => exact one (hel 5 h) g5
  | 6, h => exact one (hel 6 h) g6
  | 7, h => exact one (hel 7 h) g7
  | 8, h => exact one (hel 8 h) g8
  | 9, h => exact one (hel 9 h) g9
  | 10, h => exact one (hel 10 h) g10
theorem var_row {W : World} (hsh : W.ShapedOpen Tryz.prog) {g e : Nat} {n : String} {cs : Array Value} (hg : Tryz.prog.globalNamed n = some g) (hlt : g < Tryz.prog.globals.size)
  (ht : (((begin Tryz.prog (fun _ _ => 0) default).world.heap[g]?).bind Obj.row?).map (·.2) = some e) (hv : W.var? Tryz.prog n = some cs) : ∃ arr fz, W.heap[g]? = some (.cells arr e fz) ∧ arr.toList = cs.toList := by
 cases hr : ((begin Tryz.prog (fun _ _ => 0) default).world.heap[g]?).bind Obj.row? with
 | none => rw [hr] at ht; cases ht
 | some y =>
  obtain ⟨zero, t⟩ := y
  rw [hr] at ht
  simp only [Option.map_some, Option.some.injEq] at ht
  subst ht
  obtain ⟨cs', h1, _, _⟩ := hsh.1 g zero _ hlt hr
  refine ⟨cs', _, h1, ?_⟩
  have : W.var? Tryz.prog n = some cs' := by
   unfold World.var?
   rw [hg]
   simp only [Option.bind_some, h1]
  rw [hv] at this
  rw [Option.some.inj this]
theorem laidG_of {W : World} (hsh : W.ShapedOpen Tryz.prog) (h : laidMetH Tryz.prog laidC W) : LaidG W := fun x hx => by
 rcases List.mem_cons.1 hx with hx | hx
 ·subst hx
  refine ⟨by show 0 < 9; omega, by kernel_rfl, ?_⟩
  obtain ⟨cs, hv, hc⟩ := forms_laid h
  obtain ⟨arr, fz, h1, h2⟩ := var_row hsh (e := 138) (show Tryz.prog.globalNamed "trestle/court.forms" = some 0 by kernel_rfl) (Nat.le_of_ble_eq_true (by kernel_rfl)) (by kernel_rfl) hv
  exact ⟨arr, fz, h1, h2.trans hc⟩
 ·have hx := List.mem_singleton.1 hx
  subst hx
  refine ⟨by show 4 < 9; omega, by kernel_rfl, ?_⟩
  obtain ⟨cs, hv, hc⟩ := pow_laid h
  obtain ⟨arr, fz, h1, h2⟩ := var_row hsh (e := 213) (show Tryz.prog.globalNamed "internal/strconv.uint64pow10" = some 4 by kernel_rfl) (Nat.le_of_ble_eq_true (by kernel_rfl)) (by kernel_rfl) hv
  exact ⟨arr, fz, h1, h2.trans hc⟩
end Go.Ev

end
