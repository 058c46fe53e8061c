/-
  Part of the engine that the claim is proved with: it states nothing of the document by itself.
-/
import Derived.Test.YtpopdemanadllaaGreatDoorCoreSeC

namespace Go.Ev
section
variable {P : Program} {G : Msk}
structure Disp (P : Program) (G : Msk) (g : FuncId) : Prop where
 fast : G.fast = false
 ext : externA P g [undef] = none
 ora : G.ora g = none
 tab : ∀ us, G.tab g us = none
 srt : G.srt g = none
 srtC : G.srtC g = false
theorem Disp.call {g : FuncId} (h : Disp P G g) {run : Run} {args : List Value} {H : AHeap} {r : Value × AHeap} (hc : callF P G run g ⟨args⟩ H = some r) : callE P G run g args H = some r := by
 have hext : externA P g args = none := by
  have h := h.ext
  unfold externA at h ⊢
  split at h
  ·rename_i fn hf
   split at h
   ·rename_i b hb; first | rfl | simp only [hb]
   ·rename_i hb
    first | simp only [hb] | skip
    simp only at h
    split
    ·rename_i v
     cases hq : (fn.name == "internal/abi.NoEscape" && (fn.origin == "" || fn.origin == "internal/abi.NoEscape")) with
     | true => rw [hq] at h; cases h
     | false => rfl
    ·rfl
  ·rename_i hf; first | rfl | rw [hf]
 have h0 : callE0 P G run g args H = some r := by
  unfold callE0
  rw [hext]
  have hcp : callP P G run g args H = some r := by unfold callP; rw [h.fast]; exact hc
  simp only [h.ora, h.tab, h.srt, h.srtC, cond_false, hcp]
 unfold callE
 rw [h0]
end
end Go.Ev
