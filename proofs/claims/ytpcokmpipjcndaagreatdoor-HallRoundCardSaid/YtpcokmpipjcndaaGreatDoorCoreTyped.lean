/-
  Part of the engine that the claim is proved with: it states nothing of the document by itself.
-/
import Derived.Test.YtpcokmpipjcndaaGreatDoorCoreG28
import Derived.Test.YtpcokmpipjcndaaGreatDoorCoreKit
open Go.Proofs
namespace Go.Ev
section
variable {P : Program}
theorem ok_int {f : Nat} {t : TypeId} {d : D} {k : IntKind} (hu : P.underlying t = some (.int k)) (h : okD P (f + 1) t d) : inR k d.asInt := by
 unfold okD at h; rw [hu] at h
 obtain ⟨n, rfl, hr⟩ := h
 exact hr
theorem ok_u8 {f : Nat} {t : TypeId} {d : D} (hu : P.underlying t = some (.int .u8)) (h : okD P (f + 1) t d) : byteP d.asInt := ⟨ok_int hu h⟩
theorem ok_slice {f : Nat} {t e : TypeId} {d : D} (hu : P.underlying t = some (.slice e)) (h : okD P (f + 1) t d) : d.len ≤ maxLen ∧ ∀ i, i < d.len → okD P f e (el d i) := by
 unfold okD at h; rw [hu] at h
 rcases h with rfl | ⟨l, rfl, hl, h⟩
 ·exact ⟨Nat.zero_le _, fun i hi => by simp [D.len, D.asList] at hi⟩
 ·refine ⟨hl, fun i hi => h i _ ?_⟩
  have hi : i < l.length := hi
  show l[i]? = some (nthD l i)
  unfold nthD
  rw [List.getElem?_eq_getElem hi]; rfl
theorem ok_bytes {f : Nat} {t e : TypeId} {d : D} (hu : P.underlying t = some (.slice e)) (he : P.underlying e = some (.int .u8)) (h : okD P (f + 2) t d) : bytesP d := ⟨fun i hi => (ok_u8 he ((ok_slice hu h).2 i hi)).out⟩
theorem ok_code {f : Nat} {t u s : TypeId} {d : D} {f0 f1 f2 f3 : Field} (hu : P.underlying t = some (.struct #[f0, f1, f2, f3])) (h0 : f0.type = u) (h1 : f1.type = u) (h2 : f2.type = u) (h3 : f3.type = s)
  (hb : P.underlying u = some (.int .u8)) (hs : P.underlying s = some (.slice u)) (h : okD P (f + 3) t d) : codeP d := by
 unfold okD at h; rw [hu] at h
 obtain ⟨ds, rfl, hl, hf⟩ := h
 match ds, hl with
 | [a, b, c, o], _ => exact ⟨ok_u8 hb (h0 ▸ hf 0 _ a rfl rfl), ok_u8 hb (h1 ▸ hf 1 _ b rfl rfl), ok_u8 hb (h2 ▸ hf 2 _ c rfl rfl), ok_bytes hs hb (h3 ▸ hf 3 _ o rfl rfl)⟩
theorem ok_codes {f : Nat} {t0 t u s : TypeId} {d : D} {f0 f1 f2 f3 : Field} (ht : P.underlying t0 = some (.slice t)) (hu : P.underlying t = some (.struct #[f0, f1, f2, f3])) (h0 : f0.type = u) (h1 : f1.type = u) (h2 : f2.type = u) (h3 : f3.type = s)
  (hb : P.underlying u = some (.int .u8)) (hs : P.underlying s = some (.slice u)) (h : okD P (f + 4) t0 d) : codesP d := ⟨fun i hi => ok_code hu h0 h1 h2 h3 hb hs ((ok_slice ht h).2 i hi)⟩
theorem oks_cons {t : TypeId} {ts : List TypeId} {d : D} {ds : List D} (h : okDs P (t :: ts) (d :: ds)) : okD P 20 t d ∧ okDs P ts ds := h
end
end Go.Ev
