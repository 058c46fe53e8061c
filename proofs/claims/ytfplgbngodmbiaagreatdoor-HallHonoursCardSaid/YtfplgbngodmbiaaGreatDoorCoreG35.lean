/-
  Part of the engine that the claim is proved with: it states nothing of the document by itself.
-/
import Derived.Test.YtfplgbngodmbiaaGreatDoorCoreG34
import Derived.Test.YtfplgbngodmbiaaGreatDoorCoreG29
import Derived.Test.YtfplgbngodmbiaaGreatDoorCoreKit

section
open Go.Proofs
namespace Go.Ev
set_option maxRecDepth 100000
set_option maxHeartbeats 4000000
theorem v101 : ∀ d, 56 ≤ d → VC d 101 con101 := fun d hd =>
 valid_of_sym (C := ctxF seat5 onAnn (fun _ _ => []) (fun _ _ => none)) (G := GC) (B := 52) (m := 4) rfl rfl rfl vs5 (fun us p r hc hp ht => by
  unfold con101 at hc; split at hc
  ·cases hc; exact s101 _ _
  ·cases hc) (fun _ _ => rfl) rfl rfl d hd
theorem v112 : ∀ d, 56 ≤ d → VC d 112 con112 := fun d hd =>
 valid_of_sym (C := ctxF seat5 onAnn (fun _ _ => []) (fun _ _ => none)) (G := GC) (B := 52) (m := 4) rfl rfl rfl vs5 (fun us p r hc hp ht => by
  unfold con112 at hc; split at hc
  ·cases hc; exact s112 _ hp
  ·cases hc) (fun _ _ => rfl) rfl rfl d hd
theorem von1 : ∀ d, 56 ≤ d → ∀ g c, on1 g = some c → VC d g c := fun d hd g c h => by
 unfold on1 at h
 split at h
 ·cases h; exact v101 d hd
 ·cases h; exact v112 d hd
 ·exact vs5 d (by omega) _ c h
theorem v51 : ∀ d, 61 ≤ d → VC d 51 con51 := fun d hd =>
 valid_of_sym (C := ctxF on1 onAnn (fun _ _ => []) (fun _ _ => none)) (G := GC) (B := 56) (m := 5) rfl rfl rfl von1 (fun us p r hc hp ht => by
  unfold con51 at hc; split at hc
  ·cases hc; exact s51 _ _ hp
  ·cases hc) (fun _ _ => rfl) rfl rfl d hd
theorem vrh1 : ∀ d, 58 ≤ d → ∀ g c, rh1 g = some c → VC d g c := fun d hd g c h => by
 unfold rh1 at h
 split at h
 ·cases h; exact valid_nil (fun t ht => by simp at ht; subst ht; rfl) (vf2 d (by omega) 43 con43 rfl)
 ·cases h; exact v134 d (by omega)
 ·cases h; exact v132 d (by omega)
 ·exact vf2 d (by omega) _ c h
theorem v48 : ∀ d, 62 ≤ d → VC d 48 con48 := fun d hd =>
 valid_of_sym (C := ctx rh1 honAnn) (G := GC) (B := 58) (m := 4) rfl rfl rfl vrh1 (fun us p r hc hp ht => by
  unfold con48 at hc; split at hc
  ·cases hc; exact s48 _ _ hp
  ·cases hc) (fun _ _ => rfl) rfl rfl d hd
theorem v73 : ∀ d, 62 ≤ d → VC d 73 con73 := fun d hd =>
 valid_of_sym (C := ctx rh1 honAnn) (G := GC) (B := 58) (m := 4) rfl rfl rfl vrh1 (fun us p r hc hp ht => by
  unfold con73 at hc; split at hc
  ·cases hc; exact s73 _ _ hp
  ·cases hc) (fun _ _ => rfl) rfl rfl d hd
theorem v74 : ∀ d, 62 ≤ d → VC d 74 con74 := fun d hd =>
 valid_of_sym (C := ctx rh1 honAnn) (G := GC) (B := 58) (m := 4) rfl rfl rfl vrh1 (fun us p r hc hp ht => by
  unfold con74 at hc; split at hc
  ·cases hc; exact s74 _ _ hp
  ·cases hc) (fun _ _ => rfl) rfl rfl d hd
theorem vh1 : ∀ d, 62 ≤ d → ∀ g c, hon1 g = some c → VC d g c := fun d hd g c h => by
 unfold hon1 at h
 split at h
 ·cases h; exact v51 d (by omega)
 ·cases h; exact v36 d (by omega)
 ·cases h; exact v73 d hd
 ·cases h; exact v74 d hd
 ·cases h; exact v48 d hd
 ·exact vrh1 d (by omega) _ c h
theorem v23 : ∀ d, 66 ≤ d → VC d 23 con23 := fun d hd =>
 valid_of_sym (C := ctx hon1 honAnn) (G := GC) (B := 62) (m := 4) rfl rfl rfl vh1 (fun us p r hc hp ht => by
  unfold con23 at hc; split at hc
  ·cases hc; exact s23 _ _ hp.1 hp.2
  ·cases hc) (fun _ _ => rfl) rfl rfl d hd
theorem vh2 : ∀ d, 66 ≤ d → ∀ g c, hon2 g = some c → VC d g c := fun d hd g c h => by
 unfold hon2 at h
 split at h
 ·cases h; exact v23 d hd
 ·exact vh1 d (by omega) _ c h
theorem v5 : ∀ d, 70 ≤ d → VC d 5 con5 := fun d hd =>
 valid_of_sym (C := ctx hon2 honAnn) (G := GC) (B := 66) (m := 4) rfl rfl rfl vh2 (fun us p r hc hp ht => by
  unfold con5 at hc; split at hc
  ·cases hc; exact s5 _ _ hp
  ·cases hc) (fun _ _ => rfl) rfl rfl d hd
end Go.Ev

end

section
open Go.Proofs
namespace Go.Ev
section
variable {P : Program}
theorem ok_int {f : Nat} {t : TypeId} {d : D} {k : IntKind} (hu : P.underlying t = some (.int k)) (h : okD P (f + 1) t d) : inR k d.asInt := by
 unfold okD at h; rw [hu] at h
 obtain ⟨n, rfl, hr⟩ := h
 exact hr
theorem ok_i64 {f : Nat} {t : TypeId} {d : D} (hu : P.underlying t = some (.int .i64)) (h : okD P (f + 1) t d) : i64P d.asInt := ⟨ok_int hu h⟩
theorem ok_u8 {f : Nat} {t : TypeId} {d : D} (hu : P.underlying t = some (.int .u8)) (h : okD P (f + 1) t d) : byteP d.asInt := ⟨ok_int hu h⟩
theorem ok_slice {f : Nat} {t e : TypeId} {d : D} (hu : P.underlying t = some (.slice e)) (h : okD P (f + 1) t d) : d.len ≤ maxLen ∧ ∀ i, i < d.len → okD P f e (el d i) := by
 unfold okD at h; rw [hu] at h
 rcases h with rfl | ⟨l, rfl, hl, h⟩
 ·exact ⟨Nat.zero_le _, fun i hi => by simp [D.len, D.asList] at hi⟩
 ·refine ⟨hl, fun i hi => h i _ ?_⟩
  have hi : i < l.length := hi
  show l[i]? = some (nthD l i)
  unfold nthD
  rw [List.getElem?_eq_getElem hi]; rfl
theorem ok_bytes {f : Nat} {t e : TypeId} {d : D} (hu : P.underlying t = some (.slice e)) (he : P.underlying e = some (.int .u8)) (h : okD P (f + 2) t d) : bytesP d := ⟨fun i hi => (ok_u8 he ((ok_slice hu h).2 i hi)).out⟩
theorem ok_code {f : Nat} {t u s : TypeId} {d : D} {f0 f1 f2 f3 : Field} (hu : P.underlying t = some (.struct #[f0, f1, f2, f3])) (h0 : f0.type = u) (h1 : f1.type = u) (h2 : f2.type = u) (h3 : f3.type = s)
  (hb : P.underlying u = some (.int .u8)) (hs : P.underlying s = some (.slice u)) (h : okD P (f + 3) t d) : codeP d := by
 unfold okD at h; rw [hu] at h
 obtain ⟨ds, rfl, hl, hf⟩ := h
 match ds, hl with
 | [a, b, c, o], _ => exact ⟨ok_u8 hb (h0 ▸ hf 0 _ a rfl rfl), ok_u8 hb (h1 ▸ hf 1 _ b rfl rfl), ok_u8 hb (h2 ▸ hf 2 _ c rfl rfl), ok_bytes hs hb (h3 ▸ hf 3 _ o rfl rfl)⟩
theorem ok_codes {f : Nat} {t0 t u s : TypeId} {d : D} {f0 f1 f2 f3 : Field} (ht : P.underlying t0 = some (.slice t)) (hu : P.underlying t = some (.struct #[f0, f1, f2, f3])) (h0 : f0.type = u) (h1 : f1.type = u) (h2 : f2.type = u) (h3 : f3.type = s)
  (hb : P.underlying u = some (.int .u8)) (hs : P.underlying s = some (.slice u)) (h : okD P (f + 4) t0 d) : codesP d := ⟨fun i hi => ok_code hu h0 h1 h2 h3 hb hs ((ok_slice ht h).2 i hi)⟩
theorem oks_cons {t : TypeId} {ts : List TypeId} {d : D} {ds : List D} (h : okDs P (t :: ts) (d :: ds)) : okD P 20 t d ∧ okDs P ts ds := h
structure Types (P : Program) : Prop where
 codes : ∀ d, okD P 20 65 d → codesP d
 code : ∀ d, okD P 20 41 d → codeP d
 int : ∀ d, okD P 20 3 d → i64P d.asInt
 byte : ∀ d, okD P 20 5 d → byteP d.asInt
 bytes : ∀ d, okD P 20 39 d → bytesP d
theorem Types.of {f0 f1 f2 f3 : Field} (ht : P.underlying 65 = some (.slice 41)) (hu : P.underlying 41 = some (.struct #[f0, f1, f2, f3])) (h0 : f0.type = 5) (h1 : f1.type = 5) (h2 : f2.type = 5) (h3 : f3.type = 39)
  (hb : P.underlying 5 = some (.int .u8)) (hs : P.underlying 39 = some (.slice 5)) (hi : P.underlying 3 = some (.int .i64)) : Types P :=
 ⟨fun _ h => ok_codes ht hu h0 h1 h2 h3 hb hs h, fun _ h => ok_code hu h0 h1 h2 h3 hb hs h, fun _ h => ok_i64 hi h, fun _ h => ok_u8 hb h, fun _ h => ok_bytes hs hb h⟩
end
end Go.Ev

end
