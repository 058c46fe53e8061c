/-
  Part of the engine that the claim is proved with: it states nothing of the document by itself.
-/
import Derived.Test.YtfplgbngodmbiaaGreatDoorCoreG26
import Derived.Test.YtfplgbngodmbiaaGreatDoorCoreSort
import Derived.Test.YtfplgbngodmbiaaGreatDoorRows
import Derived.Test.YtfplgbngodmbiaaGreatDoorCoreKit
import Derived.Test.YtfplgbngodmbiaaGreatDoorCoreGlob
import Derived.OpenShut
import Derived.LaidSub
import Derived.MakeChecks

section
open Go.Proofs
namespace Go.Ev
set_option maxRecDepth 100000
theorem vc43c : ∀ (p q : D),
  symFun (ctx (fun (x : FuncId) => none) permAnn) (3 : Nat) (43 : FuncId) [V.dat (29 : TypeId) p, V.dat (29 : TypeId) q] (V.prop (eqD p q)) =
    ((((↑p.len : Int) = (↑q.len : Int) → False) → (false = true ↔ p.len = q.len ∧ ∀ (i : Nat), i < p.len → atI p i = atI q i)) ∧
      ((((↑p.len : Int) = (↑q.len : Int) → False) → False) →
        (∃ (x : Nat), (x ≤ p.len ∧ ∀ (i : Nat), i < x → atI p i = atI q i) ∧ ((0 : Int) = (↑x : Int) ∧ True) ∧ True) ∧
          ∀ (x : Nat),
            (x ≤ p.len ∧ ∀ (i : Nat), i < x → atI p i = atI q i) →
              p.len - x < LIM ∧
                ((↑x : Int) < (↑p.len : Int) →
                    (0 : Int) ≤ (↑x : Int) ∧
                      (↑x : Int) < (↑p.len : Int) ∧
                        (0 : Int) ≤ (↑x : Int) ∧
                          (↑x : Int) < (↑q.len : Int) ∧
                            (((nthD p.asList (↑x : Int).toNat).asInt = (nthD q.asList (↑x : Int).toNat).asInt → False) →
                                (false = true ↔ p.len = q.len ∧ ∀ (i : Nat), i < p.len → atI p i = atI q i)) ∧
                              ((((nthD p.asList (↑x : Int).toNat).asInt = (nthD q.asList (↑x : Int).toNat).asInt → False) → False) →
                                ((-9223372036854775808 : Int) ≤ (↑x : Int) + (1 : Int) ∧ (↑x : Int) + (1 : Int) < (9223372036854775808 : Int)) ∧
                                  ∃ (y : Nat),
                                    (y ≤ p.len ∧ ∀ (i : Nat), i < y → atI p i = atI q i) ∧
                                      p.len - y < p.len - x ∧ ((↑x : Int) + (1 : Int) = (↑y : Int) ∧ True) ∧ True)) ∧
                  (((↑x : Int) < (↑p.len : Int) → False) → (true = true ↔ p.len = q.len ∧ ∀ (i : Nat), i < p.len → atI p i = atI q i)))) := by intros; kernel_rfl
theorem s43c (p q : D) (h : p.len ≤ 100) : symFun (ctx (fun _ => none) permAnn) 3 43 [V.dat 29 p, V.dat 29 q] (V.prop (eqD p q)) := by
  rw [vc43c]
  refine ⟨fun hne => ⟨fun h => by simp at h, fun hall => absurd (by rw [hall.1]) hne⟩, fun hnn => ?_⟩
  have hlen : p.len = q.len := by
    have : (p.len : Int) = (q.len : Int) := Classical.byContradiction hnn
    omega
  refine ⟨⟨0, ⟨Nat.zero_le _, fun i hi => by omega⟩, ⟨rfl, trivial⟩, trivial⟩, fun x ⟨hx, hinv⟩ => ⟨by unfold LIM; omega, fun hlt => ?_, fun hge => ⟨fun _ => ⟨hlen, fun i hi => hinv i (by have hge' : ¬ (x : Int) < p.len := hge; omega)⟩, fun _ => rfl⟩⟩⟩
  have ex : ((x : Int).toNat) = x := by omega
  rw [ex]
  refine ⟨by omega, hlt, by omega, by omega, fun hne => ⟨fun h => by simp at h, fun hall => absurd (hall.2 x (by omega)) hne⟩, fun hnn2 => ⟨by omega, x + 1, ⟨by omega, fun i hi => ?_⟩, by omega, ⟨by omega, trivial⟩, trivial⟩⟩
  rcases Nat.lt_or_ge i x with h1 | h1
  · exact hinv i h1
  · have : i = x := by omega
    subst this
    exact Classical.byContradiction hnn2
noncomputable def GC : Msk := { bits := 8148143480379124170695548490005220526561112381261839627163311972662352389597279522111094783, fast := false, ora := fun g => cond (Nat.beq g 21) (some (.bool true)) none, tab := tabM, srt := rowsF, srtC := srtF }
abbrev VC (d : Nat) (g : FuncId) (c : Con) : Prop := Valid Tryz.prog GC (ev Tryz.prog GC d) g c
theorem v43c : ∀ d, 5 ≤ d → VC d 43 con43 := fun d hd =>
  valid_of_sym (C := ctx (fun _ => none) permAnn) (G := GC) (B := 2) (m := 3) rfl rfl rfl (fun _ _ _ _ h => by cases h) (fun us p r hc hp ht => by
    unfold con43 at hc; split at hc
    · cases hc; exact s43c _ _ hp
    · cases hc) tabS_ok rfl rfl d hd
theorem v126 : ∀ d, 5 ≤ d → VC d 126 con126 := fun d hd =>
  valid_of_sym (C := ctx (fun _ => none) chkAnn) (G := GC) (B := 2) (m := 3) rfl rfl rfl (fun _ _ _ _ h => by cases h) (fun us p r hc hp ht => by
    unfold con126 at hc; split at hc
    · cases hc; exact s126 _
    · cases hc) tabS_ok rfl rfl d hd
theorem v130 : ∀ d, 5 ≤ d → VC d 130 con126 := fun d hd =>
  valid_of_sym (C := ctx (fun _ => none) chkAnn) (G := GC) (B := 2) (m := 3) rfl rfl rfl (fun _ _ _ _ h => by cases h) (fun us p r hc hp ht => by
    unfold con126 at hc; split at hc
    · cases hc; exact s130 _
    · cases hc) tabS_ok rfl rfl d hd
theorem v127 : ∀ d, 5 ≤ d → VC d 127 con127 := fun d hd =>
  valid_of_sym (C := ctx (fun _ => none) chkAnn) (G := GC) (B := 2) (m := 3) rfl rfl rfl (fun _ _ _ _ h => by cases h) (fun us p r hc hp ht => by
    unfold con127 at hc; split at hc
    · cases hc; exact s127 _ _ hp
    · cases hc) tabS_ok rfl rfl d hd
theorem v28 : ∀ d, 5 ≤ d → VC d 28 con28 := fun d hd =>
  valid_of_sym (C := ctx (fun _ => none) chkAnn) (G := GC) (B := 2) (m := 3) rfl rfl rfl (fun _ _ _ _ h => by cases h) (fun us p r hc hp ht => by
    unfold con28 at hc; split at hc
    · cases hc; exact s28 _ _ _ _ _ _ _
    · cases hc) tabS_ok rfl rfl d hd
theorem v114 : ∀ d, 5 ≤ d → VC d 114 con114 := fun d hd =>
  valid_of_sym (C := ctx (fun _ => none) chkAnn) (G := GC) (B := 2) (m := 3) rfl rfl rfl (fun _ _ _ _ h => by cases h) (fun us p r hc hp ht => by
    unfold con114 at hc; split at hc
    · cases hc; exact s114 _ _ hp
    · cases hc) tabS_ok rfl rfl d hd
theorem vk1 : ∀ d, 5 ≤ d → ∀ g c, chk1 g = some c → VC d g c := fun d hd g c h => by
  unfold chk1 at h
  split at h
  · cases h; exact v43c d hd
  · cases h; exact v126 d hd
  · cases h; exact v130 d hd
  · cases h; exact v127 d hd
  · cases h; exact v28 d hd
  · cases h; exact v114 d hd
  · cases h
theorem v63 : ∀ d, 10 ≤ d → VC d 63 con63 := fun d hd =>
  valid_of_sym (C := ctx chk1 chkAnn) (G := GC) (B := 6) (m := 4) rfl rfl rfl (fun d hd => vk1 d (by omega)) (fun us p r hc hp ht => by
    unfold con63 at hc; split at hc
    · cases hc; exact s63 _ _ _ _ _ _ _ hp
    · cases hc) tabS_ok rfl rfl d hd
open Classical in
theorem v68 : ∀ d, 10 ≤ d → VC d 68 con63 := fun d hd us p r hc hp => by
  have hc0 := hc
  unfold con63 at hc; split at hc
  · rename_i nm sh a b o x y
    exact valid_of_sym (C := ctx chk1 (chk68 o (sizeZ sh a b))) (G := GC) (B := 6) (m := 4) (g := 68) (c := fun us => if us = [.agg [.str nm, .int .u8 sh, .int .i64 a, .int .i64 b, .dat 29 o, .int .i64 x, .int .i64 y]] then con63 us else none) rfl rfl rfl (fun d hd => vk1 d (by omega)) (fun us p r hc hp ht => by
      split at hc
      · rename_i e; subst e
        have hc2 : some (o.len ≤ 100, V.int .i64 (errZ nm sh a b o x y)) = some (p, r) := hc
        cases hc2; exact s68 nm sh a b o x y hp
      · cases hc) tabS_ok rfl rfl d hd _ p r (by show (if _ then _ else _) = _; rw [if_pos rfl]; exact hc0) hp
  · cases hc
theorem v93 : ∀ d, 10 ≤ d → VC d 93 con93 := fun d hd =>
  valid_of_sym (C := ctx chk1 chkAnn) (G := GC) (B := 5) (m := 5) rfl rfl rfl vk1 (fun us p r hc hp ht => by
    unfold con93 at hc; split at hc
    · cases hc; exact s93 _ _ _ _ _ _ _ hp
    · cases hc) tabS_ok rfl rfl d hd
theorem v79 : ∀ d, 10 ≤ d → VC d 79 con79 := fun d hd =>
  valid_of_sym (C := ctx chk1 chkAnn) (G := GC) (B := 6) (m := 4) rfl rfl rfl (fun d hd => vk1 d (by omega)) (fun us p r hc hp ht => by
    unfold con79 at hc; split at hc
    · cases hc; exact s79 _ _ _ _ _ _ _ _ _ _ _ _ _ _ hp
    · cases hc) tabS_ok rfl rfl d hd
theorem vk2 : ∀ d, 10 ≤ d → ∀ g c, chk2 g = some c → VC d g c := fun d hd g c h => by
  unfold chk2 at h
  split at h
  · cases h; exact v63 d hd
  · cases h; exact v68 d hd
  · cases h; exact v93 d hd
  · cases h; exact v79 d hd
  · exact vk1 d (by omega) _ c h
theorem v62 : ∀ d, 15 ≤ d → VC d 62 con62 := fun d hd =>
  valid_of_sym (C := ctx chk2 chkAnn) (G := GC) (B := 10) (m := 5) rfl rfl rfl vk2 (fun us p r hc hp ht => by
    unfold con62 at hc; split at hc
    · cases hc; exact s62 _ hp
    · cases hc) tabS_ok rfl rfl d hd
theorem v67 : ∀ d, 15 ≤ d → VC d 67 con62 := fun d hd =>
  valid_of_sym (C := ctx chk2 chkAnn) (G := GC) (B := 10) (m := 5) rfl rfl rfl vk2 (fun us p r hc hp ht => by
    unfold con62 at hc; split at hc
    · cases hc; exact s67 _ hp
    · cases hc) tabS_ok rfl rfl d hd
theorem v92 : ∀ d, 15 ≤ d → VC d 92 con92 := fun d hd =>
  valid_of_sym (C := ctx chk2 chkAnn) (G := GC) (B := 10) (m := 5) rfl rfl rfl vk2 (fun us p r hc hp ht => by
    unfold con92 at hc; split at hc
    · cases hc; exact s92 _ _ hp.1 hp.2.1 hp.2.2
    · cases hc) tabS_ok rfl rfl d hd
theorem v70 : ∀ d, 15 ≤ d → VC d 70 con70 := fun d hd =>
  valid_of_sym (C := ctx chk2 chkAnn) (G := GC) (B := 10) (m := 5) rfl rfl rfl vk2 (fun us p r hc hp ht => by
    unfold con70 at hc; split at hc
    · cases hc; exact s70 _ _ hp.1 hp.2.1 hp.2.2
    · cases hc) tabS_ok rfl rfl d hd
theorem v69 : ∀ d, 15 ≤ d → VC d 69 con69 := fun d hd =>
  valid_of_sym (C := ctx chk2 chkAnn) (G := GC) (B := 10) (m := 5) rfl rfl rfl vk2 (fun us p r hc hp ht => by
    unfold con69 at hc; split at hc
    · cases hc; exact s69 _ hp
    · cases hc) tabS_ok rfl rfl d hd
theorem v66 : ∀ d, 15 ≤ d → VC d 66 con66 := fun d hd =>
  valid_of_sym (C := ctx chk2 chkAnn) (G := GC) (B := 10) (m := 5) rfl rfl rfl vk2 (fun us p r hc hp ht => by
    unfold con66 at hc; split at hc
    · cases hc; exact s66 _ hp
    · cases hc) tabS_ok rfl rfl d hd
theorem v60 : ∀ d, 15 ≤ d → VC d 60 con60 := fun d hd =>
  valid_of_sym (C := ctx chk2 chkAnn) (G := GC) (B := 10) (m := 5) rfl rfl rfl vk2 (fun us p r hc hp ht => by
    unfold con60 at hc; split at hc
    · cases hc; exact s60 _ _ hp
    · cases hc) tabS_ok rfl rfl d hd
theorem v19 : ∀ d, 15 ≤ d → VC d 19 con19 := fun d hd =>
  valid_of_sym (C := ctx chk2 chkAnn) (G := GC) (B := 10) (m := 5) rfl rfl rfl vk2 (fun us p r hc hp ht => by
    unfold con19 at hc; split at hc
    · cases hc; exact s19 _
    · cases hc) tabS_ok rfl rfl d hd
theorem vk3 : ∀ d, 15 ≤ d → ∀ g c, chk3 g = some c → VC d g c := fun d hd g c h => by
  unfold chk3 at h
  split at h
  · cases h; exact v62 d hd
  · cases h; exact v67 d hd
  · cases h; exact v92 d hd
  · cases h; exact v70 d hd
  · cases h; exact v69 d hd
  · cases h; exact v66 d hd
  · cases h; exact v60 d hd
  · cases h; exact v19 d hd
  · exact vk2 d (by omega) _ c h
end Go.Ev

end

section
open Go.Proofs
namespace Go.Ev
set_option maxRecDepth 100000
theorem v83 : ∀ d, 18 ≤ d → VC d 83 con83 := fun d hd =>
  valid_of_sym (C := ctx chk3 fmtAnn) (G := GC) (B := 15) (m := 3) rfl rfl rfl vk3 (fun us p r hc hp ht => by
    unfold con83 at hc; split at hc
    · cases hc; exact s83 _
    · cases hc) tabS_ok rfl rfl d hd
theorem vf1 : ∀ d, 18 ≤ d → ∀ g c, fmt1 g = some c → VC d g c := fun d hd g c h => by
  unfold fmt1 at h
  split at h
  · cases h; exact v83 d hd
  · exact vk3 d (by omega) _ c h
theorem v58 : ∀ d, 21 ≤ d → VC d 58 con58 := fun d hd =>
  valid_of_sym (C := ctxJ chk3) (G := GC) (B := 15) (m := 6) rfl rfl rfl vk3 (fun us p r hc hp ht => by
    unfold con58 at hc; split at hc
    · cases hc; exact s58 _ hp
    · cases hc) tabS_ok rfl rfl d hd
theorem v30 : ∀ d, 21 ≤ d → VC d 30 con30 := fun d hd =>
  valid_of_sym (C := ctx fmt1 fmtAnn) (G := GC) (B := 18) (m := 3) rfl rfl rfl vf1 (fun us p r hc hp ht => by
    unfold con30 at hc; split at hc
    · cases hc; exact s30 _ hp.1 hp.2
    · cases hc) tabS_ok rfl rfl d hd
theorem vf2' : ∀ d, 21 ≤ d → ∀ g c, fmt2 g = some c → VC d g c := fun d hd g c h => by
  unfold fmt2 at h
  split at h
  · cases h; exact v58 d hd
  · cases h; exact v30 d hd
  · exact vk3 d (by omega) _ c h
theorem v27 : ∀ d, 25 ≤ d → VC d 27 con27 := fun d hd =>
  valid_of_sym (C := ctx fmt2 fmtAnn) (G := GC) (B := 21) (m := 4) rfl rfl rfl vf2' (fun us p r hc hp ht => by
    unfold con27 at hc; split at hc
    · cases hc; exact s27 _ hp
    · cases hc) tabS_ok rfl rfl d hd
theorem vf3 : ∀ d, 25 ≤ d → ∀ g c, fmt3 g = some c → VC d g c := fun d hd g c h => by
  unfold fmt3 at h
  split at h
  · cases h; exact v27 d hd
  · exact vk3 d (by omega) _ c h
theorem v9 : ∀ d, 28 ≤ d → VC d 9 con9 := fun d hd =>
  valid_of_sym (C := ctx fmt3 fmtAnn) (G := GC) (B := 25) (m := 3) rfl rfl rfl vf3 (fun us p r hc hp ht => by
    unfold con9 at hc; split at hc
    · cases hc; exact s9 _
    · cases hc) tabS_ok rfl rfl d hd
end Go.Ev

end

section
open Go.Proofs Go.Proofs.YtfplgbngodmbiaaGreatDoor
namespace Go.Ev
open Go.ChangeShapes Go.WideShapes Go.ChangeAt Go.RowKit
theorem arr_ints {P : Program} {w : World} {n e : Nat} {k : IntKind} {t : TypeId} {fuel : Nat} {cs : List Value} {zs : List Int} {p : List MemPlace} {enc : TypeId × Value → Unit} {base : Nat} {sp : Nat → Bool} {held : Bool}
    (ht : P.underlying t = some (.array n e)) (he : P.underlying e = some (.int k)) (hc1 : P.cellsOf e = 1) (hct : P.cellsOf t = n)
    (h : DataW.trod enc P w base sp held fuel t cs = some (.agg (zs.map fun z => .lit (.int k z)), p)) : cs = zs.map (Value.int k) := by
  obtain ⟨xs, m, _, ex, hlen, hxl, hel⟩ := DataW.trod_array ht h
  have e3 : (zs.map fun z => (DataW.lit (.int k z) : DataW Unit)) = xs.map (·.1) := DataW.agg.inj (Prod.mk.inj ex).1
  have hzl : zs.length = n := by have := congrArg List.length e3; simp at this; omega
  rw [hct] at hlen
  refine List.ext_getElem? fun i => ?_
  by_cases hi : i < n
  · have k0 := hel i hi
    rw [hc1, Nat.mul_one, List.getElem?_eq_getElem (by omega : i < xs.length)] at k0
    obtain ⟨z, e1, e2, _⟩ := DataW.trod_int he k0
    have h0 : ((cs.drop i).take 1)[0]? = some (.int k z) := by rw [e1]; rfl
    have h1 : cs[i]? = some (.int k z) := by simpa using h0
    have h2 : (zs.map fun z => (DataW.lit (.int k z) : DataW Unit))[i]? = (xs.map (·.1))[i]? := by rw [e3]
    rw [List.getElem?_map, List.getElem?_map, List.getElem?_eq_getElem (by omega : i < zs.length), List.getElem?_eq_getElem (by omega : i < xs.length), e2] at h2
    simp only [Option.map_some, Option.some.injEq, DataW.lit.injEq, Lit.int.injEq, true_and] at h2
    rw [h1, List.getElem?_map, List.getElem?_eq_getElem (by omega : i < zs.length), Option.map_some, h2]
  · rw [List.getElem?_eq_none (by omega), List.getElem?_eq_none (by simp; omega)]
def pow10z : List Int := [1, 10, 100, 1000, 10000, 100000, 1000000, 10000000, 100000000, 1000000000, 10000000000, 100000000000, 1000000000000, 10000000000000, 100000000000000, 1000000000000000, 10000000000000000, 100000000000000000, 1000000000000000000, 10000000000000000000]
theorem pow_laid {W : World} (h : laidMetH Tryz.prog Rows.hallFormatsRow.laid W) : ∃ cs, W.var? Tryz.prog "internal/strconv.uint64pow10" = some cs ∧ cs.toList = pow10s := by
  rw [MakeChecks.laidMetH_plain _ _ _ (by kernel_rfl)] at h
  obtain ⟨ps, hl, _, _⟩ := h
  obtain ⟨_, _, _, _, _, _, _, _, _, _, hl, _⟩ := hl
  obtain ⟨_, _, _, _, _, _, _, _, _, _, hl, _⟩ := hl
  obtain ⟨g, t, cs, fuel, p, q, hg, ht, hv, hd, _, _⟩ := hl
  obtain rfl := Option.some.inj ((show Tryz.prog.globalNamed "internal/strconv.uint64pow10" = some 1 by kernel_rfl).symm.trans hg)
  obtain rfl := Option.some.inj ((show (Tryz.prog.globals[1]?).map (·.type) = some 235 by kernel_rfl).symm.trans ht)
  refine ⟨cs, hv, ?_⟩
  have e : (Rows.laid_internal_strconv_uint64pow10 : DataW Unit) = .agg (pow10z.map fun z => .lit (.int .u64 z)) := by kernel_rfl
  rw [e] at hd
  exact arr_ints (zs := pow10z) (n := 20) (e := 191) Tryz.underlying235 Tryz.underlying191 (by kernel_rfl) (by kernel_rfl) hd
theorem laidG_of {W : World} (hsh : W.ShapedOpen Tryz.prog) (h : laidMetH Tryz.prog Rows.hallFormatsRow.laid W) : LaidG W := fun x hx => by
  have hx : x = { g := 1, e := 235, cs := pow10s } := List.mem_singleton.1 hx
  subst hx
  refine ⟨by show 1 < 6; omega, by kernel_rfl, ?_⟩
  obtain ⟨cs, hv, hc⟩ := pow_laid h
  have ht : (((begin Tryz.prog (fun _ _ => 0) default).world.heap[1]?).bind Obj.row?).map (·.2) = some 235 := by kernel_rfl
  cases hr : ((begin Tryz.prog (fun _ _ => 0) default).world.heap[1]?).bind Obj.row? with
  | none => rw [hr] at ht; cases ht
  | some y =>
    obtain ⟨zero, t⟩ := y
    rw [hr] at ht
    simp only [Option.map_some, Option.some.injEq] at ht
    subst ht
    obtain ⟨cs', h1, _, _⟩ := hsh.1 1 zero 235 (show 1 < Tryz.prog.globals.size from Nat.le_of_ble_eq_true (by kernel_rfl)) hr
    refine ⟨cs', _, h1, ?_⟩
    have : W.var? Tryz.prog "internal/strconv.uint64pow10" = some cs' := by
      unfold World.var?
      rw [show Tryz.prog.globalNamed "internal/strconv.uint64pow10" = some 1 by kernel_rfl]
      simp only [Option.bind_some, h1]
    rw [hv] at this
    rw [← Option.some.inj this]; exact hc
end Go.Ev

end
