/- Part of the proof. -/
import Derived.Test.YtdojhafbgoimeaaGreatDoorCoreLink
import Derived.ProofKit
import Derived.Carry
import Derived.JoinedOf
import Derived.LaidLaws
import Derived.LaidMore

namespace Go.Ev
noncomputable section
abbrev fits64 (z:Int):Prop:= -9223372036854775808<=z/\z<9223372036854775808
open Go.ChangeShapes Go.WideShapes Go.ChangeAt Go.RowKit
def Law (W:World) (e:Ending) (W':World):Prop:=e= .returned (.bool true)/\Below W.heap.size W W'
section
variable {P:Program} {W:World} {J:Nat->Option Loc} {H:zaa} {σ:Sig}
theorem zlk {G:Msk} (hG:GOK P G) (hm:P.follows .mixedOrders=true) {d:Nat} {g:FuncId} {vs:List Value} {args:Array Value} {con:Con} {us:List V} (L:zjS W J H σ)
  (hv:zfd P G (ev P G d) g con) {p:Prop} (hc:con us=some (p,.prop True)) (hp:p) (hl:zaT P σ (λ_=>none) us vs) (ha:AR J ⟨vs⟩ args):Calls P g args W (Law W):=by
 obtain ⟨v,H',σ',h1,_,_,_,_,_,hlow,hv'⟩:=hv us p _ hc hp σ H vs L.stab hl
 obtain ⟨_,c2⟩:=zek hG (zvy hG hm d) h1 0 L.rel ha
 refine callsIn_wide.1 (CallsIn.mono (show CallsIn Fence.wide 0 P g _ W _ from c2) λe w' he=> ?_)
 obtain ⟨J',v',rfl,hvr,hp⟩:=he
 obtain ⟨k1,_⟩:=zaP.quiet L.rel hp (hlow _ L.low (Nat.le_refl _))
 have hb:v= .bool true:=by
  cases hv' with
  |prop=>rw [zcd trivial]
 subst hb
 have:=hvr.eq1 rfl
 subst this
 exact ⟨rfl,hp.os,hp.tape,hp.output.out,hp.size,k1⟩
variable {Hh:Type} {enc:TypeId×Value->Hh}
theorem zfw (hlo:laidOutB P=true) {W':World} (hb:Below W.heap.size W W'):∀{ts:List TypeId} {vs:List Value} {ds:List (DataW Hh)} {ps:List MemPlace},(∀t∈ts,P.readableRec t=true/\t<P.types.size)->
  DataW.TrodAll enc P W 0 (λ_=>true) true ts vs ds ps->(∀x∈ps,x.block<W.heap.size)->DataW.TrodAll enc P W' 0 (λb=>decide (b<W.heap.size)) true ts vs ds ps
 | [],[],[],_,_,h,_=>h
 |t::_,_::_,_::_,_,hT,⟨p,q,h1,h2,e⟩,hs=>
  ⟨p,q,Below.trod hlo (hT t (List.mem_cons.2 (Or.inl rfl))).1 (hT t (List.mem_cons.2 (Or.inl rfl))).2 h1 hb (λx hx=>hs x (by rw [e];exact List.mem_append_left _ hx)),
   zfw hlo hb (λt ht=>hT t (List.mem_cons.2 (Or.inr ht))) h2 (λx hx=>hs x (by rw [e];exact List.mem_append_right _ hx)),e⟩
theorem post_of_law (hlo:laidOutB P=true) {f:Func} {s:ChangeSpec} {args:Array Value} {ds:List (DataW Hh)} {before:List MemPlace} {W':World} {tb:TypeId}
  (hW:DataW.Whole enc P f.params.toList s.vars false W args.toList ds [] before) (hsv:s.vars= []) (hfn:s.fn Hh (ds++ [])={results:= [.lit (.bool true)],args:=ds})
  (hT0:(f.params.toList.all λt=>P.readableRec t&&decide (t<P.types.size))=true) (hr:f.resultTypes= #[tb]) (htb:P.underlying tb=some .bool) (hb:Below W.heap.size W W'):
  s.post enc P f false true false false W args (.bool true) W':=by
 have hT:∀t∈f.params.toList,P.readableRec t=true/\t<P.types.size:=λt ht=>by
  have:=List.all_eq_true.1 hT0 t ht
  simpa using this
 have hW':=hW
 obtain ⟨p,q,hA,hV,rfl,_,_⟩:=hW
 rw [hsv] at hV
 obtain ⟨_,rfl⟩:=trodVars_none hV
 have hv:(s.fn Hh (ds++ [])).vars= []:=by rw [hfn]
 refine ⟨ds,[],_,[],p,[],hW', ?_, ?_, ?_, ?_,λh=>by cases h⟩
 .rw [hfn,hr]
  exact trodAll_mk1 (shut_bool htb true)
 .rw [hfn]
  exact zfw hlo hb hT hA (λx hx=>hW'.lt x (by simpa using hx))
 .rw [hsv,hv]
  rfl
 .exact hb.frame _
end
end
end Go.Ev
namespace Go.Ev
noncomputable section
open Go.ChangeShapes Go.WideShapes Go.ChangeAt Go.RowKit
section
variable {P:Program} {W:World} {Hh:Type} {enc:TypeId×Value->Hh} {base:Nat} {held:Bool}
def zel (P:Program):List TypeId->List D->(List V->Prop)->Prop
 | [],[],K=>K []
 |t::ts,d::ds,K=>zbb P t d λu=>zel P ts ds λus=>K (u::us)
 |_,_,_=>False
theorem znw {r:Reach} {b0:Nat} {n:Nat} {e t:TypeId} {v:Value} (ht:P.underlying t=some (.array n e)) (h:Value.okWide P W r b0 t v):∃cs,v= .agg cs:=by
 simp only [Value.okWide,ht] at h
 obtain ⟨cs,h1,_⟩:=h
 exact ⟨cs,h1⟩
theorem znk {r:Reach} {b0:Nat} {t:TypeId} {v:Value} (hl:zhu P 20 t=true) (h:Value.okWide P W r b0 t v):(∃cs,v= .agg cs/\zbu P t=some true)\/(v.cells= #[v]/\zbu P t=some false):=by
 unfold zhu at hl
 split at hl
 .rename_i k hu;obtain ⟨n,rfl⟩:=okWide_int hu h;exact .inr ⟨rfl,by unfold zbu;rw [hu]⟩
 .rename_i hu;obtain ⟨n,rfl⟩:=okWide_bool hu h;exact .inr ⟨rfl,by unfold zbu;rw [hu]⟩
 .rename_i hu;obtain ⟨n,rfl⟩:=okWide_string hu h;exact .inr ⟨rfl,by unfold zbu;rw [hu]⟩
 .rename_i e hu;obtain ⟨a,len,cap,rfl⟩:=okWide_slice hu h;exact .inr ⟨rfl,by unfold zbu;rw [hu]⟩
 .rename_i fs hu;obtain ⟨cs,rfl,_⟩:=okWide_struct hu h;exact .inl ⟨cs,rfl,by unfold zbu;rw [hu]⟩
 .rename_i n e hu;obtain ⟨cs,rfl⟩:=znw hu h;exact .inl ⟨cs,rfl,by unfold zbu;rw [hu]⟩
 .cases hl
theorem zsX {r:Reach} {b0:Nat} {t:TypeId} {v:Value} {d:DataW Hh} {ps:List MemPlace} (hl:zhu P 20 t=true) (hval:Value.okWide P W r b0 t v) (hd:DataW.Trod enc P W base (λ_=>true) held t v d ps) (hw:∀n∈d.weights P t,n<=reachBytes)
  {J:Nat->Option Loc} {H:zaa} {σ:Sig} (L:zjS W J H σ):
  ∃(J':Nat->Option Loc) (H':zaa) (σ':Sig) (v0:Value) (D:D),zjS W J' H' σ'/\Ext J J'/\XS σ σ'/\VR J' v0 v/\okD P 20 t D/\(∀Kv,zbb P t D Kv->∃u,Kv u/\zao P σ' (λ_=>none) u v0):=by
 obtain ⟨fuel,hf⟩:=hd
 obtain ⟨J',H',σ',cs0,D,L',hx,hs,hv,hr,hok⟩:=zfk 20 t hl fuel _ _ hf hw J H σ L
 rcases znk hl hval with ⟨cs,rfl,hagg⟩| ⟨hc,hagg⟩
 .refine ⟨J',H',σ',.agg ⟨cs0⟩,D,L',hx,hs,.agg (by have:=hv.1;simpa [Value.cells] using this) (λj a b h1 h2=>hv.2 j a b (by simpa using h1) (by simpa [Value.cells] using h2)),hok,λKv h=> ?_⟩
  unfold zbb at h
  split at h
  .rename_i vs h1 _
   have:=zb9 (O:=λ_=>none) 20 t D cs0 vs hr h1
   exact ⟨_,h,.agg this.1 this.2⟩
  .rename_i h2;rw [hagg] at h2;cases h2
  .exact h.elim
 .rw [hc] at hv
  obtain ⟨v0,rfl⟩:∃v0,cs0= [v0]:=by
   have h1:=hv.1
   match cs0,h1 with
   | [a],_=>exact ⟨a,rfl⟩
  refine ⟨J',H',σ',v0,D,L',hx,hs,hv.2 0 v0 v rfl rfl,hok,λKv h=> ?_⟩
  unfold zbb at h
  split at h
  .rename_i h2;rw [hagg] at h2;cases h2
  .rename_i u h1 _
   have:=zb9 (O:=λ_=>none) 20 t D _ _ hr h1
   exact ⟨u,h,this.2 0 u v0 rfl rfl⟩
  .exact h.elim
def zxa (P:Program):List TypeId->List D->Prop
 | [],[]=>True
 |t::ts,d::ds=>okD P 20 t d/\zxa P ts ds
 |_,_=>False
theorem zju {r:Reach} {b0:Nat}:∀{ts:List TypeId} {vs:List Value} {ds:List (DataW Hh)} {ps:List MemPlace},(ts.all λt=>zhu P 20 t)=true->(∀(j:Nat) (t:TypeId) (v:Value),ts[j]? =some t->vs[j]? =some v->Value.okWide P W r b0 t v)->
  DataW.TrodAll enc P W base (λ_=>true) held ts vs ds ps->(∀n∈DataW.weightsEach P ts ds,n<=reachBytes)->∀{J:Nat->Option Loc} {H:zaa} {σ:Sig},zjS W J H σ->
  ∃(J':Nat->Option Loc) (H':zaa) (σ':Sig) (vs0:List Value) (Ds:List D),zjS W J' H' σ'/\Ext J J'/\XS σ σ'/\VRs J' vs0 vs/\Ds.length=ts.length/\zxa P ts Ds/\(∀K,zel P ts Ds K->∃us,K us/\zaT P σ' (λ_=>none) us vs0)
 | [],[],[],_,_,_,_,_,J,H,σ,L=>⟨J,H,σ,[],[],L,.refl _,.refl _,.nil,rfl,trivial,λK h=>⟨[],h,.nil⟩⟩
 |t::ts,v::vs,d::ds,ps,hl,hv,⟨p,q,h1,h2,_⟩,hw,J,H,σ,L=>by
  simp only [List.all_cons,Bool.and_eq_true] at hl
  obtain ⟨J1,H1,σ1,v0,D0,L1,x1,s1,r1,o1,k1⟩:=zsX hl.1 (hv 0 t v rfl rfl) h1 (λn hn=>hw n (by simp only [DataW.weightsEach,List.mem_append];exact .inl hn)) L
  obtain ⟨J2,H2,σ2,vs0,Ds,L2,x2,s2,r2,hlen,o2,k2⟩:=zju hl.2 (λj t v a b=>hv (j+1) t v (by simpa using a) (by simpa using b)) h2 (λn hn=>hw n (by simp only [DataW.weightsEach,List.mem_append];exact .inr hn)) L1
  refine ⟨J2,H2,σ2,v0::vs0,D0::Ds,L2,x1.trans x2,s1.trans s2,(VRs.one (r1.mono x2)).append r2,by simp [hlen],⟨o1,o2⟩,λK h=> ?_⟩
  obtain ⟨u,h,hu⟩:=k1 _ (show zbb P t D0 (λu=>zel P ts Ds λus=>K (u::us)) from h)
  obtain ⟨us,h,hus⟩:=k2 _ h
  exact ⟨u::us,h,.cons (hu.mono s2 (.refl _)) hus⟩
 | [],_::_,_,_,_,_,h,_,_,_,_,_=>h.elim
 | [],[],_::_,_,_,_,h,_,_,_,_,_=>h.elim
 |_::_,[],_,_,_,_,h,_,_,_,_,_=>h.elim
 |_::_,_::_,[],_,_,_,h,_,_,_,_,_=>h.elim
theorem zqa (hW:LaidG W) {G:Msk} (hG:GOK P G) (hm:P.follows .mixedOrders=true) {d:Nat} {g:FuncId} {con:Con} {ts:List TypeId} (hv:zfd P G (ev P G d) g con)
  (hc:∀Ds:List D,Ds.length=ts.length->zxa P ts Ds->zel P ts Ds λus=>∃p,con us=some (p,.prop True)/\p) (hl:(ts.all λt=>zhu P 20 t)=true)
  {r:Reach} {b0:Nat} {vs:List Value} {ds:List (DataW Hh)} {ps:List MemPlace} (hok:∀(j:Nat) (t:TypeId) (v:Value),ts[j]? =some t->vs[j]? =some v->Value.okWide P W r b0 t v)
  (ht:DataW.TrodAll enc P W 0 (λ_=>true) true ts vs ds ps) (hw:(DataW.weightsEach P ts ds).all (· <=reachBytes)=true):Calls P g ⟨vs⟩ W (Law W):=by
 obtain ⟨J,H,σ,vs0,Ds,L,_,_,hr,hlen,hod,hk⟩:=zju hl hok ht (λn hn=>of_decide_eq_true (List.all_eq_true.1 hw n hn)) (zjS.start hW)
 obtain ⟨us,⟨p,h1,hp⟩,h2⟩:=hk _ (hc Ds hlen hod)
 exact zlk hG hm L hv h1 hp h2 ⟨by have:=hr.1;simpa using this,λj v v' a b=>hr.2 j v v' (by simpa using a) (by simpa using b)⟩
end
end
end Go.Ev
namespace Go.Ev
noncomputable section
def zqx:V->V
 | .val (.int k n)=> .int k n
 | .val (.bool b)=> .prop (zh4 b)
 | .val (.string b)=> .str b.data.toList
 |v=>v
theorem zig {P:Program} {σ:Sig} {O:Nu} {v:V} {v':Value} (h:zao P σ O v v'):zao P σ O (zqx v) v':=by
 cases h with
 |val hf=>
  cases v'<;>first|exact .int|exact .str|exact .val hf|skip
  rename_i b
  have:=zao.prop (P:=P) (σ:=σ) (O:=O) (p:=zh4 b)
  have e:dec (zh4 b)=b:=zbN (b:=b) (show zh4 b↔b=true from Iff.rfl)
  rw [e] at this
  exact this
 |undef=>exact .undef
 |int=>exact .int
 |prop=>exact .prop
 |str=>exact .str
 |agg h1 h2=>exact .agg h1 h2
 |tup h1 h2=>exact .tup h1 h2
 |ptr h=>exact .ptr h
 |ept h=>exact .ept h
 |epf h hu hf=>exact .epf h hu hf
 |slcU h=>exact .slcU h
 |osl h hc=>exact .osl h hc
 |oel h=>exact .oel h
 |yld h=>exact .yld h
 |slc h hc hn ho=>exact .slc h hc hn ho
 |dat ht h=>exact .dat ht h
 |dpt hi hs h0 hl h=>exact .dpt hi hs h0 hl h
 |fn h1 h2 h3 h4=>exact .fn h1 h2 h3 h4
 |fndN=>exact .fndN
 |fnd a b c d e f=>exact .fnd a b c d e f
def zrR:V->V
 | .agg cs=> .agg (cs.map zqx)
 |v=>zqx v
theorem zpO {P:Program} {σ:Sig} {O:Nu} {v:V} {v':Value} (h:zao P σ O v v'):zao P σ O (zrR v) v':=by
 unfold zrR
 split
 .cases h with
  |agg h1 h2=>
   refine .agg (by simpa using h1) λj u u' hj hj'=> ?_
   rw [List.getElem?_map] at hj
   rename_i cs _
   cases ha:cs[j]? with
   |none=>rw [ha] at hj;cases hj
   |some w=>
    rw [ha] at hj
    simp only [Option.map_some,Option.some.injEq] at hj
    subst hj
    exact zig (h2 j w u' ha hj')
 .exact zig h
def zy3 (c:Con):Con:=λus=>c (us.map zrR)
theorem zpp {P:Program} {G:Msk} {run:Run} {g:FuncId} {c:Con} (h:zfd P G run g c):zfd P G run g (zy3 c):=by
 intro as p r hc hp σ H vs hst hl
 refine h (as.map zrR) p r hc hp σ H vs hst ⟨by simpa using hl.1,λj v v' hj hj'=> ?_⟩
 rw [List.getElem?_map] at hj
 cases ha:as[j]? with
 |none=>rw [ha] at hj;cases hj
 |some u=>
  rw [ha] at hj
  simp only [Option.map_some,Option.some.injEq] at hj
  subst hj
  exact zpO (hl.2 j u v' ha hj')
end
end Go.Ev
