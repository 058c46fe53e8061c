/- Part of the proof. -/
import Derived.Test.YtdojhafbgoimeaaGreatDoorCoreSeC

namespace Go.Ev
section
variable {P:Program} {G:Msk}
structure zgM (P:Program) (G:Msk) (g:FuncId):Prop where
 fast:G.fast=false
 ext:zbU P g [undef]=none
 ora:G.ora g=none
 tab:∀us,G.tab g us=none
 srt:G.srt g=none
 srtC:G.srtC g=false
theorem zgM.call {g:FuncId} (h:zgM P G g) {run:Run} {args:List Value} {H:zaa} {r:Value×zaa} (hc:zcE P G run g ⟨args⟩ H=some r):zht P G run g args H=some r:=by
 have hext:zbU P g args=none:=by
  have h:=h.ext
  unfold zbU at h⊢
  split at h
  .rename_i fn hf
   split at h
   .rename_i b hb;first|rfl|simp only [hb]
   .rename_i hb
    first|simp only [hb]|skip
    simp only at h
    split
    .rename_i v
     cases hq:(fn.name== "internal/abi.NoEscape" &&(fn.origin== "" ||fn.origin== "internal/abi.NoEscape")) with
     |true=>rw [hq] at h;cases h
     |false=>rfl
    .rfl
  .rename_i hf;first|rfl|rw [hf]
 have h0:zfS P G run g args H=some r:=by
  unfold zfS
  rw [hext]
  have hcp:ziv P G run g args H=some r:=by unfold ziv;rw [h.fast];exact hc
  simp only [h.ora,h.tab,h.srt,h.srtC,cond_false,hcp]
 unfold zht
 rw [h0]
theorem zb5 {run:Run} {cf:D->Con} (h:∀(d:D) (us:List V) (p:Prop) (r:V),cf d us=some (p,r)->p->∃(g:FuncId) (ts:List TypeId) (ds:List D) (c:Con) (p':Prop),d= .fn g ts ds/\zgM P G g/\zei P G run g c/\c (us++zfT ts ds)=some (p',r)/\p'):zim P G run cf:=by
 intro d us p r hc hp σ H t v vs hst hv hl
 obtain ⟨g,ts,ds,c,p',rfl,hd,hV,hc',hp'⟩:=h d us p r hc hp
 rcases hv.fndInv with ⟨e,_⟩| ⟨g',ts',ds',cs,e,rfl,hlen,hcl⟩
 .cases e
 .cases e
  obtain ⟨v',H',σ',hcall,rest⟩:=hV _ _ _ hc' hp' σ H (vs++cs) hst (hl.append hcl)
  exact ⟨_,cs,rfl,v',H',σ',hd.call hcall,rest⟩
end
end Go.Ev
