/- Part of the proof. -/
import Derived.Test.YtdojhafbgoimeaaGreatDoorCoreSeC

namespace Go.Ev
section
variable {P:Program} {G:Msk}
structure zg9 (P:Program) (G:Msk) (g:FuncId):Prop where
 fast:G.fast=false
 ext:zbV P g [undef]=none
 ora:G.ora g=none
 tab:∀us,G.tab g us=none
 srt:G.srt g=none
 srtC:G.srtC g=false
theorem zg9.call {g:FuncId} (h:zg9 P G g) {run:Run} {args:List Value} {H:zaa} {r:Value×zaa} (hc:zci P G run g ⟨args⟩ H=some r):zhQ P G run g args H=some r:=by
 have hext:zbV P g args=none:=by
  have h:=h.ext
  unfold zbV at h⊢
  split at h
  .rename_i fn hf
   split at h
   .rename_i b hb;first|rfl|simp only [hb]
   .rename_i hb
    first|simp only [hb]|skip
    simp only at h
    split
    .rename_i v
     cases hq:(fn.name== "internal/abi.NoEscape" &&(fn.origin== "" ||fn.origin== "internal/abi.NoEscape")) with
     |true=>rw [hq] at h;cases h
     |false=>rfl
    .rfl
  .rename_i hf;first|rfl|rw [hf]
 have h0:zgi P G run g args H=some r:=by
  unfold zgi
  rw [hext]
  have hcp:zjb P G run g args H=some r:=by unfold zjb;rw [h.fast];exact hc
  simp only [h.ora,h.tab,h.srt,h.srtC,cond_false,hcp]
 unfold zhQ
 rw [h0]
theorem zca {run:Run} {cf:D->Con} (h:∀(d:D) (us:List V) (p:Prop) (r:V),cf d us=some (p,r)->p->∃(g:FuncId) (ts:List TypeId) (ds:List D) (c:Con) (p':Prop),d= .fn g ts ds/\zg9 P G g/\zev P G run g c/\c (us++zgk ts ds)=some (p',r)/\p'):zi4 P G run cf:=by
 intro d us p r hc hp J H t v vs hst hv hl
 obtain ⟨g,ts,ds,c,p',rfl,hd,hV,hc',hp'⟩:=h d us p r hc hp
 rcases hv.fndInv with ⟨e,_⟩| ⟨g',ts',ds',cs,e,rfl,hlen,hcl⟩
 .cases e
 .cases e
  obtain ⟨v',H',J',hcall,rest⟩:=hV _ _ _ hc' hp' J H (vs++cs) hst (hl.append hcl)
  exact ⟨_,cs,rfl,v',H',J',hd.call hcall,rest⟩
end
end Go.Ev
