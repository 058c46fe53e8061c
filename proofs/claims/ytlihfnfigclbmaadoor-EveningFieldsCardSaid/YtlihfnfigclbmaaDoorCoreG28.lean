/-
  Part of the engine that the claim is proved with: it states nothing of the document by itself.
-/
import Derived.Test.YtlihfnfigclbmaaDoorCoreEnA
import Derived.Test.YtlihfnfigclbmaaDoorCoreEnC
import Derived.Test.YtlihfnfigclbmaaDoorCoreAwake
import Derived.Test.YtlihfnfigclbmaaDoorRows
import Derived.Test.YtlihfnfigclbmaaDoorCoreKit
import Derived.Test.YtlihfnfigclbmaaDoorProg
import Derived.Test.YtlihfnfigclbmaaDoorCoreEv
import Derived.OpenShut
import Derived.LaidSub
import Derived.MakeChecks

section
open Go.Proofs
namespace Go.Ev
set_option maxRecDepth 100000
noncomputable def GC : Msk := { bits := GB, fast := false, ora := fun g => cond (Nat.beq g 9) (some (.bool true)) none }
abbrev VC (d : Nat) (g : FuncId) (c : Con) : Prop := Valid Tryd.prog GC (ev Tryd.prog GC d) g c
theorem vc0 (d : Nat) : ∀ g c, cc0 g = some c → VC d g c := fun _ _ h => by cases h
theorem valid_extP {P : Program} {G : Msk} {run : Run} {g : FuncId} {c : Con} (h : Valid P G run g c) : Valid P G run g (extP c) := by
 intro us p r hc hp σ H vs hst hl
 refine h (us.map normV0) p r hc hp σ H vs hst ⟨by simpa using hl.1, fun j v v' hj hj' => ?_⟩
 rw [List.getElem?_map] at hj
 cases ha : us[j]? with
 | none => rw [ha] at hj; cases hj
 | some u =>
  rw [ha] at hj
  simp only [Option.map_some, Option.some.injEq] at hj
  subst hj
  exact normV0_rel (hl.2 j u v' ha hj')
theorem val_of_int {P : Program} {σ : Sig} {ν : Nu} {k : IntKind} {n : Int} {us : List V} {vs : List Value} (h : LRel P σ ν (.int k n :: us) vs) : LRel P σ ν (.val (.int k n) :: us) vs := by
 refine ⟨h.1, fun j v v' hj hj' => ?_⟩
 cases j with
 | zero =>
  simp only [List.getElem?_cons_zero, Option.some.injEq] at hj
  subst hj
  have := h.2 0 (.int k n) v' rfl hj'
  cases this
  exact .val rfl
 | succ j => exact h.2 (j + 1) v v' (by simpa using hj) hj'
structure FQ (q p r : Int) : Prop where
 s36 : ∀ a d b, eltP q a → eltP p d → eltP q b → symFun (ctx cc0 noAnn) 3 36 [fieldV q p r, .int .i64 a, .int .i64 d, .int .i64 b] (.int .i64 (plusZ q p a d b))
 s58 : ∀ a, eltP q a → symFun (ctx (cq1 q p r) noAnn) 3 58 [fieldV q p r, .int .i64 a] (.int .i64 (raisedZ q p r a))
 s11 : ∀ a b, eltP q a → eltP q b → symFun (ctx (cq1 q p r) noAnn) 3 11 [.val (.int .i64 q), .int .i64 a, .int .i64 b] (.tup [.int .i64 (addZ q a b), .prop True])
 s13 : ∀ a b, eltP q a → eltP q b → symFun (ctx (cq2 q p r) noAnn) 4 13 [.val (.int .i64 q), .int .i64 a, .int .i64 b] (.tup [.int .i64 (mulZ q a b), .prop True])
section
variable {q p r : Int}
theorem v36 (h : FQ q p r) : ∀ d, 5 ≤ d → VC d 36 (extP (con36 q p r)) := fun d hd => valid_extP (
 valid_of_sym (C := ctx cc0 noAnn) (G := GC) (B := 2) (m := 3) rfl rfl rfl (fun d _ => vc0 d) (fun us p r hc hp ht => by
  unfold con36 at hc; split at hc
  ·cases hc; obtain ⟨⟨rfl, rfl, rfl⟩, h1, h2, h3⟩ := hp; exact h.s36 _ _ _ h1 h2 h3
  ·cases hc) (fun _ _ => rfl) rfl rfl d hd)
theorem vq1 (h : FQ q p r) : ∀ d, 5 ≤ d → ∀ g c, cq1 q p r g = some c → VC d g c := fun d hd g c e => by
 unfold cq1 at e
 split at e
 ·cases e; exact v36 h d hd
 ·cases e
theorem v58 (h : FQ q p r) : ∀ d, 8 ≤ d → VC d 58 (extP (con58 q p r)) := fun d hd => valid_extP (
 valid_of_sym (C := ctx (cq1 q p r) noAnn) (G := GC) (B := 5) (m := 3) rfl rfl rfl (vq1 h) (fun us p r hc hp ht => by
  unfold con58 at hc; split at hc
  ·cases hc; obtain ⟨⟨rfl, rfl, rfl⟩, h1⟩ := hp; exact h.s58 _ h1
  ·cases hc) (fun _ _ => rfl) rfl rfl d hd)
theorem vq2 (h : FQ q p r) : ∀ d, 8 ≤ d → ∀ g c, cq2 q p r g = some c → VC d g c := fun d hd g c e => by
 unfold cq2 at e
 split at e
 ·cases e; exact v58 h d hd
 ·cases e; exact v36 h d (by omega)
 ·cases e
theorem v11c (h : FQ q p r) : ∀ d, 8 ≤ d → VC d 11 (con11c q) := fun d hd =>
 valid_of_sym (C := ctx (cq1 q p r) noAnn) (G := GC) (B := 5) (m := 3) rfl rfl rfl (vq1 h) (fun us p r hc hp ht => by
  unfold con11c at hc; split at hc
  ·cases hc; obtain ⟨rfl, h1, h2⟩ := hp; exact h.s11 _ _ h1 h2
  ·cases hc) (fun _ _ => rfl) rfl rfl d hd
theorem v13c (h : FQ q p r) : ∀ d, 12 ≤ d → VC d 13 (con13c q) := fun d hd =>
 valid_of_sym (C := ctx (cq2 q p r) noAnn) (G := GC) (B := 8) (m := 4) rfl rfl rfl (vq2 h) (fun us p r hc hp ht => by
  unfold con13c at hc; split at hc
  ·cases hc; obtain ⟨rfl, h1, h2⟩ := hp; exact h.s13 _ _ h1 h2
  ·cases hc) (fun _ _ => rfl) rfl rfl d hd
end
theorem fq_of {q : Int} (h : fldP q) : ∃ p r, FQ q p r := by
 rcases h.out with rfl | rfl | rfl | rfl | rfl | rfl | rfl | rfl | rfl | rfl
 ·exact ⟨_, _, s36q2, s58q2, s11q2, s13q2⟩
 ·exact ⟨_, _, s36q3, s58q3, s11q3, s13q3⟩
 ·exact ⟨_, _, s36q4, s58q4, s11q4, s13q4⟩
 ·exact ⟨_, _, s36q5, s58q5, s11q5, s13q5⟩
 ·exact ⟨_, _, s36q7, s58q7, s11q7, s13q7⟩
 ·exact ⟨_, _, s36q8, s58q8, s11q8, s13q8⟩
 ·exact ⟨_, _, s36q9, s58q9, s11q9, s13q9⟩
 ·exact ⟨_, _, s36q11, s58q11, s11q11, s13q11⟩
 ·exact ⟨_, _, s36q13, s58q13, s11q13, s13q13⟩
 ·exact ⟨_, _, s36q16, s58q16, s11q16, s13q16⟩
theorem v34 : ∀ d, 5 ≤ d → VC d 34 con34 := fun d hd =>
 valid_of_sym (C := ctx cc0 noAnn) (G := GC) (B := 2) (m := 3) rfl rfl rfl (fun d _ => vc0 d) (fun us p r hc hp ht => by
  unfold con34 at hc; split at hc
  ·cases hc; exact s34 _
  ·cases hc) (fun _ _ => rfl) rfl rfl d hd
theorem v28 : ∀ d, 5 ≤ d → VC d 28 con28 := fun d hd =>
 valid_of_sym (C := ctx cc0 noAnn) (G := GC) (B := 2) (m := 3) rfl rfl rfl (fun d _ => vc0 d) (fun us p r hc hp ht => by
  unfold con28 at hc; split at hc
  ·cases hc; exact s28 _
  ·cases hc) (fun _ _ => rfl) rfl rfl d hd
theorem v54 : ∀ d, 5 ≤ d → VC d 54 con54 := fun d hd =>
 valid_of_sym (C := ctx cc0 rfAnn) (G := GC) (B := 2) (m := 3) rfl rfl rfl (fun d _ => vc0 d) (fun us p r hc hp ht => by
  unfold con54 at hc; split at hc
  ·cases hc; exact s54 _ _ _ hp.1 hp.2.1 hp.2.2
  ·cases hc) (fun _ _ => rfl) rfl rfl d hd
theorem vN4 (d : Nat) (g : FuncId) : VC d g conN4 := fun us p r hc hp => by
 unfold conN4 at hc; split at hc
 ·cases hc; exact hp.elim
 ·cases hc
theorem vN3 (d : Nat) (g : FuncId) : VC d g conN3 := fun us p r hc hp => by
 unfold conN3 at hc; split at hc
 ·cases hc; exact hp.elim
 ·cases hc
theorem vcn1 : ∀ d, 5 ≤ d → ∀ g c, cn1 g = some c → VC d g c := fun d hd g c e => by
 unfold cn1 at e
 split at e
 ·cases e; exact v34 d hd
 ·cases e; exact vN4 d _
 ·cases e; exact vN3 d _
 ·cases e
theorem vcr1 : ∀ d, 5 ≤ d → ∀ g c, cr1 g = some c → VC d g c := fun d hd g c e => by
 unfold cr1 at e
 split at e
 ·cases e; exact v28 d hd
 ·cases e; exact v54 d hd
 ·cases e
theorem v29 : ∀ d, 9 ≤ d → VC d 29 con29 := fun d hd =>
 valid_of_sym (C := ctxj cr1 rfAnn rfJoin) (G := GC) (B := 5) (m := 4) rfl rfl rfl vcr1 (fun us p r hc hp ht => by
  unfold con29 at hc; split at hc
  ·cases hc; exact s29 _ _ _ hp
  ·cases hc) (fun _ _ => rfl) rfl rfl d hd
theorem v30 : ∀ d, 9 ≤ d → VC d 30 con30 := fun d hd =>
 valid_of_sym (C := ctxj cr1 rfAnn rfJoin) (G := GC) (B := 5) (m := 4) rfl rfl rfl vcr1 (fun us p r hc hp ht => by
  unfold con30 at hc; split at hc
  ·cases hc; exact s30 _ _ _ hp
  ·cases hc) (fun _ _ => rfl) rfl rfl d hd
theorem v11n : ∀ d, 8 ≤ d → VC d 11 con11n := fun d hd =>
 valid_of_sym (C := ctx cn1 noAnn) (G := GC) (B := 5) (m := 3) rfl rfl rfl vcn1 (fun us p r hc hp ht => by
  unfold con11n at hc; split at hc
  ·cases hc; exact s11n _ _ _ hp
  ·cases hc) (fun _ _ => rfl) rfl rfl d hd
theorem v13n : ∀ d, 8 ≤ d → VC d 13 con11n := fun d hd =>
 valid_of_sym (C := ctx cn1 noAnn) (G := GC) (B := 5) (m := 3) rfl rfl rfl vcn1 (fun us p r hc hp ht => by
  unfold con11n at hc; split at hc
  ·cases hc; exact s13n _ _ _ hp
  ·cases hc) (fun _ _ => rfl) rfl rfl d hd
theorem v11 : ∀ d, 8 ≤ d → VC d 11 con11 := fun d hd us p r hc hp => by
 unfold con11 at hc; split at hc
 ·rename_i q a b
  cases hc
  by_cases h : okF q a b
  ·obtain ⟨p', r', hF⟩ := fq_of h.f
   have e1 : addA q a b = addZ q a b := by unfold addA; rw [if_pos h]
   rw [e1, eq_true h]
   exact fun σ H vs hst hl => v11c hF d hd [.val (.int .i64 q), .int .i64 a, .int .i64 b] _ _ rfl ⟨rfl, h.a, h.b⟩ σ H vs hst (val_of_int hl)
  ·have e1 : addA q a b = 0 := by unfold addA; rw [if_neg h]
   rw [e1, eq_false h]
   exact v11n d hd [.int .i64 q, .int .i64 a, .int .i64 b] _ _ rfl h
 ·cases hc
theorem v13 : ∀ d, 12 ≤ d → VC d 13 con13 := fun d hd us p r hc hp => by
 unfold con13 at hc; split at hc
 ·rename_i q a b
  cases hc
  by_cases h : okF q a b
  ·obtain ⟨p', r', hF⟩ := fq_of h.f
   have e1 : mulA q a b = mulZ q a b := by unfold mulA; rw [if_pos h]
   rw [e1, eq_true h]
   exact fun σ H vs hst hl => v13c hF d hd [.val (.int .i64 q), .int .i64 a, .int .i64 b] _ _ rfl ⟨rfl, h.a, h.b⟩ σ H vs hst (val_of_int hl)
  ·have e1 : mulA q a b = 0 := by unfold mulA; rw [if_neg h]
   rw [e1, eq_false h]
   exact v13n d (by omega) [.int .i64 q, .int .i64 a, .int .i64 b] _ _ rfl h
 ·cases hc
theorem vcf1 : ∀ d, 12 ≤ d → ∀ g c, cf1 g = some c → VC d g c := fun d hd g c e => by
 unfold cf1 at e
 split at e
 ·cases e; exact v28 d (by omega)
 ·cases e; exact v29 d (by omega)
 ·cases e; exact v30 d (by omega)
 ·cases e; exact valid_extP (v11 d (by omega))
 ·cases e; exact valid_extP (v13 d (by omega))
 ·cases e
theorem v8 : ∀ d, 15 ≤ d → VC d 8 con8 := fun d hd =>
 valid_of_sym (C := ctx cf1 noAnn) (G := GC) (B := 12) (m := 3) rfl rfl rfl vcf1 (fun us p r hc hp ht => by
  unfold con8 at hc; split at hc
  ·cases hc; exact s8 _ _ _
  ·cases hc) (fun _ _ => rfl) rfl rfl d hd
theorem vcf2 : ∀ d, 15 ≤ d → ∀ g c, cf2 g = some c → VC d g c := fun d hd g c e => by
 unfold cf2 at e
 split at e
 ·cases e; exact v8 d (by omega)
 ·cases e
end Go.Ev

end

section
open Go.Proofs
namespace Go.Ev
set_option maxRecDepth 100000
set_option maxHeartbeats 4000000
theorem vc3 : ∀ (q a b : Int), symFun (ctx cf2 noAnn) (3 : Nat) (3 : FuncId) [V.int IntKind.i64 q, V.int IntKind.i64 a, V.int IntKind.i64 b] (V.prop True) = (True ∧ (True → (true = true ↔ True)) ∧
 ((True → False) → (false = true ↔ True))) := by intros; kernel_rfl
theorem sl3 (q a b : Int) : symFun (ctx cf2 noAnn) 3 3 [.int .i64 q, .int .i64 a, .int .i64 b] (.prop True) := by
 rw [vc3]; exact ⟨trivial, fun _ => iff_of_true rfl trivial, fun h => absurd trivial h⟩
section
variable {q u v : Int}
end
end Go.Ev

end

section
open Go.Proofs
namespace Go.Ev
set_option maxRecDepth 100000
noncomputable def con3 : Con := fun | [.int .i64 _, .int .i64 _, .int .i64 _] => some (True, .prop True) | _ => none
theorem v3 : ∀ d, 18 ≤ d → VC d 3 con3 := fun d hd =>
 valid_of_sym (C := ctx cf2 noAnn) (G := GC) (B := 15) (m := 3) rfl rfl rfl vcf2 (fun us p r hc hp ht => by
  unfold con3 at hc; split at hc
  ·cases hc; exact sl3 _ _ _
  ·cases hc) (fun _ _ => rfl) rfl rfl d hd
end Go.Ev

end

section
open Go.Proofs Go.Proofs.YtlihfnfigclbmaaDoor
namespace Go.Ev
open Go.ChangeShapes Go.WideShapes Go.ChangeAt Go.RowKit
theorem arr_ints {P : Program} {w : World} {n e : Nat} {k : IntKind} {t : TypeId} {fuel : Nat} {cs : List Value} {zs : List Int} {p : List MemPlace} {enc : TypeId × Value → Unit} {base : Nat} {sp : Nat → Bool} {held : Bool}
  (ht : P.underlying t = some (.array n e)) (he : P.underlying e = some (.int k)) (hc1 : P.cellsOf e = 1) (hct : P.cellsOf t = n)
  (h : DataW.trod enc P w base sp held fuel t cs = some (.agg (zs.map fun z => .lit (.int k z)), p)) : cs = zs.map (Value.int k) := by
 obtain ⟨xs, m, _, ex, hlen, hxl, hel⟩ := DataW.trod_array ht h
 have e3 : (zs.map fun z => (DataW.lit (.int k z) : DataW Unit)) = xs.map (·.1) := DataW.agg.inj (Prod.mk.inj ex).1
 have hzl : zs.length = n := by have := congrArg List.length e3; simp at this; omega
 rw [hct] at hlen
 refine List.ext_getElem? fun i => ?_
 by_cases hi : i < n
 ·have k0 := hel i hi
  rw [hc1, Nat.mul_one, List.getElem?_eq_getElem (by omega : i < xs.length)] at k0
  obtain ⟨z, e1, e2, _⟩ := DataW.trod_int he k0
  have h0 : ((cs.drop i).take 1)[0]? = some (.int k z) := by rw [e1]; rfl
  have h1 : cs[i]? = some (.int k z) := by simpa using h0
  have h2 : (zs.map fun z => (DataW.lit (.int k z) : DataW Unit))[i]? = (xs.map (·.1))[i]? := by rw [e3]
  rw [List.getElem?_map, List.getElem?_map, List.getElem?_eq_getElem (by omega : i < zs.length), List.getElem?_eq_getElem (by omega : i < xs.length), e2] at h2
  simp only [Option.map_some, Option.some.injEq, DataW.lit.injEq, Lit.int.injEq, true_and] at h2
  rw [h1, List.getElem?_map, List.getElem?_eq_getElem (by omega : i < zs.length), Option.map_some, h2]
 ·rw [List.getElem?_eq_none (by omega), List.getElem?_eq_none (by simp; omega)]
def pow10z : List Int := [1, 10, 100, 1000, 10000, 100000, 1000000, 10000000, 100000000, 1000000000, 10000000000, 100000000000, 1000000000000, 10000000000000, 100000000000000, 1000000000000000, 10000000000000000, 100000000000000000, 1000000000000000000, 10000000000000000000]
theorem pow_laid {W : World} (h : laidMetH Tryd.prog Rows.eveningFieldsRow.laid W) : ∃ cs, W.var? Tryd.prog "internal/strconv.uint64pow10" = some cs ∧ cs.toList = pow10s := by
 rw [MakeChecks.laidMetH_plain _ _ _ (by kernel_rfl)] at h
 obtain ⟨ps, hl, _, _⟩ := h
 obtain ⟨_, _, _, _, _, _, _, _, _, _, hl, _⟩ := hl
 obtain ⟨_, _, _, _, _, _, _, _, _, _, hl, _⟩ := hl
 obtain ⟨g, t, cs, fuel, p, q, hg, ht, hv, hd, _, _⟩ := hl
 obtain rfl := Option.some.inj ((show Tryd.prog.globalNamed "internal/strconv.uint64pow10" = some 0 by kernel_rfl).symm.trans hg)
 obtain rfl := Option.some.inj ((show (Tryd.prog.globals[0]?).map (·.type) = some 123 by kernel_rfl).symm.trans ht)
 refine ⟨cs, hv, ?_⟩
 have e : (Rows.laid_internal_strconv_uint64pow10 : DataW Unit) = .agg (pow10z.map fun z => .lit (.int .u64 z)) := by kernel_rfl
 rw [e] at hd
 exact arr_ints (zs := pow10z) (n := 20) (e := 116) Tryd.underlying123 Tryd.underlying116 (by kernel_rfl) (by kernel_rfl) hd
theorem laidG_of {W : World} (hsh : W.ShapedOpen Tryd.prog) (h : laidMetH Tryd.prog Rows.eveningFieldsRow.laid W) : LaidG W := fun x hx => by
 have hx : x = { g := 0, e := 123, cs := pow10s } := List.mem_singleton.1 hx
 subst hx
 refine ⟨by show 0 < 4; omega, by kernel_rfl, ?_⟩
 obtain ⟨cs, hv, hc⟩ := pow_laid h
 have ht : (((begin Tryd.prog (fun _ _ => 0) default).world.heap[0]?).bind Obj.row?).map (·.2) = some 123 := by kernel_rfl
 cases hr : ((begin Tryd.prog (fun _ _ => 0) default).world.heap[0]?).bind Obj.row? with
 | none => rw [hr] at ht; cases ht
 | some y =>
  obtain ⟨zero, t⟩ := y
  rw [hr] at ht
  simp only [Option.map_some, Option.some.injEq] at ht
  subst ht
  obtain ⟨cs', h1, _, _⟩ := hsh.1 0 zero 123 (show 0 < Tryd.prog.globals.size from Nat.le_of_ble_eq_true (by kernel_rfl)) hr
  refine ⟨cs', _, h1, ?_⟩
  have : W.var? Tryd.prog "internal/strconv.uint64pow10" = some cs' := by
   unfold World.var?
   rw [show Tryd.prog.globalNamed "internal/strconv.uint64pow10" = some 0 by kernel_rfl]
   simp only [Option.bind_some, h1]
  rw [hv] at this
  rw [← Option.some.inj this]; exact hc
end Go.Ev

end
