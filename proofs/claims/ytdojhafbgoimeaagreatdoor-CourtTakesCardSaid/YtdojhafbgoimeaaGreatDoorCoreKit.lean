/- Part of the proof. -/
import Derived.Test.YtdojhafbgoimeaaGreatDoorCoreLink
import Derived.ProofKit
import Derived.Carry
import Derived.JoinedOf
import Derived.LaidLaws
import Derived.LaidMore

namespace Go.Ev
noncomputable section
abbrev fits64 (z:Int):Prop:= -9223372036854775808<=z/\z<9223372036854775808
open Go.ChangeShapes Go.WideShapes Go.ChangeAt Go.RowKit
def Law (W:World) (e:Ending) (W':World):Prop:=e= .returned (.bool true)/\Below W.heap.size W W'
section
variable {P:Program} {W:World} {Z:Nat->Option Loc} {H:zaa} {J:Sig}
theorem zkK {G:Msk} (hG:GOK P G) (hm:P.follows .mixedOrders=true) {d:Nat} {g:FuncId} {vs:List Value} {args:Array Value} {con:Con} {us:List V} (L:zi2 W Z H J)
  (hv:zev P G (ev P G d) g con) {p:Prop} (hc:con us=some (p,.prop True)) (hp:p) (hl:zaN P J (λ_=>none) us vs) (ha:AR Z ⟨vs⟩ args):Calls P g args W (Law W):=by
 obtain ⟨v,H',J',h1,_,_,_,_,_,hlow,hv'⟩:=hv us p _ hc hp J H vs L.stab hl
 obtain ⟨_,c2⟩:=zdH hG (zup hG hm d) h1 0 L.rel ha
 refine callsIn_wide.1 (CallsIn.mono (show CallsIn Fence.wide 0 P g _ W _ from c2) λe w' he=> ?_)
 obtain ⟨Z',v',rfl,hvr,hp⟩:=he
 obtain ⟨k1,_⟩:=zaK.quiet L.rel hp (hlow _ L.low (Nat.le_refl _))
 have hb:v= .bool true:=by
  cases hv' with
  |prop=>rw [zb1 trivial]
 subst hb
 have:=hvr.eq1 rfl
 subst this
 exact ⟨rfl,hp.os,hp.tape,hp.output.out,hp.size,k1⟩
variable {Hh:Type} {enc:TypeId×Value->Hh}
theorem ze0 (hlo:laidOutB P=true) {W':World} (hb:Below W.heap.size W W'):∀{ts:List TypeId} {vs:List Value} {ds:List (DataW Hh)} {ps:List MemPlace},(∀t∈ts,P.readableRec t=true/\t<P.types.size)->
  DataW.TrodAll enc P W 0 (λ_=>true) true ts vs ds ps->(∀x∈ps,x.block<W.heap.size)->DataW.TrodAll enc P W' 0 (λb=>decide (b<W.heap.size)) true ts vs ds ps
 | [],[],[],_,_,h,_=>h
 |t::_,_::_,_::_,_,hT,⟨p,q,h1,h2,e⟩,hs=>
  ⟨p,q,Below.trod hlo (hT t (List.mem_cons.2 (Or.inl rfl))).1 (hT t (List.mem_cons.2 (Or.inl rfl))).2 h1 hb (λx hx=>hs x (by rw [e];exact List.mem_append_left _ hx)),
   ze0 hlo hb (λt ht=>hT t (List.mem_cons.2 (Or.inr ht))) h2 (λx hx=>hs x (by rw [e];exact List.mem_append_right _ hx)),e⟩
theorem post_of_law (hlo:laidOutB P=true) {f:Func} {s:ChangeSpec} {args:Array Value} {ds:List (DataW Hh)} {before:List MemPlace} {W':World} {tb:TypeId}
  (hW:DataW.Whole enc P f.params.toList s.vars false W args.toList ds [] before) (hsv:s.vars= []) (hfn:s.fn Hh (ds++ [])={results:= [.lit (.bool true)],args:=ds})
  (hT0:(f.params.toList.all λt=>P.readableRec t&&decide (t<P.types.size))=true) (hr:f.resultTypes= #[tb]) (htb:P.underlying tb=some .bool) (hb:Below W.heap.size W W'):
  s.post enc P f false true false false W args (.bool true) W':=by
 have hT:∀t∈f.params.toList,P.readableRec t=true/\t<P.types.size:=λt ht=>by
  have:=List.all_eq_true.1 hT0 t ht
  simpa using this
 have hW':=hW
 obtain ⟨p,q,hA,hV,rfl,_,_⟩:=hW
 rw [hsv] at hV
 obtain ⟨_,rfl⟩:=trodVars_none hV
 have hv:(s.fn Hh (ds++ [])).vars= []:=by rw [hfn]
 refine ⟨ds,[],_,[],p,[],hW', ?_, ?_, ?_, ?_,λh=>by cases h⟩
 .rw [hfn,hr]
  exact trodAll_mk1 (shut_bool htb true)
 .rw [hfn]
  exact ze0 hlo hb hT hA (λx hx=>hW'.lt x (by simpa using hx))
 .rw [hsv,hv]
  rfl
 .exact hb.frame _
end
end
end Go.Ev
namespace Go.Ev
noncomputable section
open Go.ChangeShapes Go.WideShapes Go.ChangeAt Go.RowKit
section
variable {P:Program} {W:World} {Hh:Type} {enc:TypeId×Value->Hh} {base:Nat} {held:Bool}
def zdT (P:Program):List TypeId->List D->(List V->Prop)->Prop
 | [],[],K=>K []
 |t::ts,d::ds,K=>za9 P t d λu=>zdT P ts ds λus=>K (u::us)
 |_,_,_=>False
theorem znj {r:Reach} {b0:Nat} {n:Nat} {e t:TypeId} {v:Value} (ht:P.underlying t=some (.array n e)) (h:Value.okWide P W r b0 t v):∃cs,v= .agg cs:=by
 simp only [Value.okWide,ht] at h
 obtain ⟨cs,h1,_⟩:=h
 exact ⟨cs,h1⟩
theorem znk {r:Reach} {b0:Nat} {t:TypeId} {v:Value} (hl:zgD P 20 t=true) (h:Value.okWide P W r b0 t v):(∃cs,v= .agg cs/\zbk P t=some true)\/(v.cells= #[v]/\zbk P t=some false):=by
 unfold zgD at hl
 split at hl
 .rename_i k hu;obtain ⟨n,rfl⟩:=okWide_int hu h;exact .inr ⟨rfl,by unfold zbk;rw [hu]⟩
 .rename_i hu;obtain ⟨n,rfl⟩:=okWide_bool hu h;exact .inr ⟨rfl,by unfold zbk;rw [hu]⟩
 .rename_i hu;obtain ⟨n,rfl⟩:=okWide_string hu h;exact .inr ⟨rfl,by unfold zbk;rw [hu]⟩
 .rename_i e hu;obtain ⟨a,len,cap,rfl⟩:=okWide_slice hu h;exact .inr ⟨rfl,by unfold zbk;rw [hu]⟩
 .rename_i fs hu;obtain ⟨cs,rfl,_⟩:=okWide_struct hu h;exact .inl ⟨cs,rfl,by unfold zbk;rw [hu]⟩
 .rename_i n e hu;obtain ⟨cs,rfl⟩:=znj hu h;exact .inl ⟨cs,rfl,by unfold zbk;rw [hu]⟩
 .cases hl
theorem zrn {r:Reach} {b0:Nat} {t:TypeId} {v:Value} {d:DataW Hh} {ps:List MemPlace} (hl:zgD P 20 t=true) (hval:Value.okWide P W r b0 t v) (hd:DataW.Trod enc P W base (λ_=>true) held t v d ps) (hw:∀n∈d.weights P t,n<=reachBytes)
  {Z:Nat->Option Loc} {H:zaa} {J:Sig} (L:zi2 W Z H J):
  ∃(Z':Nat->Option Loc) (H':zaa) (J':Sig) (v0:Value) (D:D),zi2 W Z' H' J'/\Ext Z Z'/\XS J J'/\VR Z' v0 v/\okD P 20 t D/\(∀Kv,za9 P t D Kv->∃u,Kv u/\zam P J' (λ_=>none) u v0):=by
 obtain ⟨fuel,hf⟩:=hd
 obtain ⟨Z',H',J',cs0,D,L',hx,hs,hv,hr,hok⟩:=ze1 20 t hl fuel _ _ hf hw Z H J L
 rcases znk hl hval with ⟨cs,rfl,hagg⟩| ⟨hc,hagg⟩
 .refine ⟨Z',H',J',.agg ⟨cs0⟩,D,L',hx,hs,.agg (by have:=hv.1;simpa [Value.cells] using this) (λj a b h1 h2=>hv.2 j a b (by simpa using h1) (by simpa [Value.cells] using h2)),hok,λKv h=> ?_⟩
  unfold za9 at h
  split at h
  .rename_i vs h1 _
   have:=zbS (O:=λ_=>none) 20 t D cs0 vs hr h1
   exact ⟨_,h,.agg this.1 this.2⟩
  .rename_i h2;rw [hagg] at h2;cases h2
  .exact h.elim
 .rw [hc] at hv
  obtain ⟨v0,rfl⟩:∃v0,cs0= [v0]:=by
   have h1:=hv.1
   match cs0,h1 with
   | [a],_=>exact ⟨a,rfl⟩
  refine ⟨Z',H',J',v0,D,L',hx,hs,hv.2 0 v0 v rfl rfl,hok,λKv h=> ?_⟩
  unfold za9 at h
  split at h
  .rename_i h2;rw [hagg] at h2;cases h2
  .rename_i u h1 _
   have:=zbS (O:=λ_=>none) 20 t D _ _ hr h1
   exact ⟨u,h,this.2 0 u v0 rfl rfl⟩
  .exact h.elim
def zxu (P:Program):List TypeId->List D->Prop
 | [],[]=>True
 |t::ts,d::ds=>okD P 20 t d/\zxu P ts ds
 |_,_=>False
theorem zi7 {r:Reach} {b0:Nat}:∀{ts:List TypeId} {vs:List Value} {ds:List (DataW Hh)} {ps:List MemPlace},(ts.all λt=>zgD P 20 t)=true->(∀(j:Nat) (t:TypeId) (v:Value),ts[j]? =some t->vs[j]? =some v->Value.okWide P W r b0 t v)->
  DataW.TrodAll enc P W base (λ_=>true) held ts vs ds ps->(∀n∈DataW.weightsEach P ts ds,n<=reachBytes)->∀{Z:Nat->Option Loc} {H:zaa} {J:Sig},zi2 W Z H J->
  ∃(Z':Nat->Option Loc) (H':zaa) (J':Sig) (vs0:List Value) (Ds:List D),zi2 W Z' H' J'/\Ext Z Z'/\XS J J'/\VRs Z' vs0 vs/\Ds.length=ts.length/\zxu P ts Ds/\(∀K,zdT P ts Ds K->∃us,K us/\zaN P J' (λ_=>none) us vs0)
 | [],[],[],_,_,_,_,_,Z,H,J,L=>⟨Z,H,J,[],[],L,.refl _,.refl _,.nil,rfl,trivial,λK h=>⟨[],h,.nil⟩⟩
 |t::ts,v::vs,d::ds,ps,hl,hv,⟨p,q,h1,h2,_⟩,hw,Z,H,J,L=>by
  simp only [List.all_cons,Bool.and_eq_true] at hl
  obtain ⟨Z1,H1,J1,v0,D0,L1,x1,s1,r1,o1,k1⟩:=zrn hl.1 (hv 0 t v rfl rfl) h1 (λn hn=>hw n (by simp only [DataW.weightsEach,List.mem_append];exact .inl hn)) L
  obtain ⟨Z2,H2,J2,vs0,Ds,L2,x2,s2,r2,hlen,o2,k2⟩:=zi7 hl.2 (λj t v a b=>hv (j+1) t v (by simpa using a) (by simpa using b)) h2 (λn hn=>hw n (by simp only [DataW.weightsEach,List.mem_append];exact .inr hn)) L1
  refine ⟨Z2,H2,J2,v0::vs0,D0::Ds,L2,x1.trans x2,s1.trans s2,(VRs.one (r1.mono x2)).append r2,by simp [hlen],⟨o1,o2⟩,λK h=> ?_⟩
  obtain ⟨u,h,hu⟩:=k1 _ (show za9 P t D0 (λu=>zdT P ts Ds λus=>K (u::us)) from h)
  obtain ⟨us,h,hus⟩:=k2 _ h
  exact ⟨u::us,h,.cons (hu.mono s2 (.refl _)) hus⟩
 | [],_::_,_,_,_,_,h,_,_,_,_,_=>h.elim
 | [],[],_::_,_,_,_,h,_,_,_,_,_=>h.elim
 |_::_,[],_,_,_,_,h,_,_,_,_,_=>h.elim
 |_::_,_::_,[],_,_,_,h,_,_,_,_,_=>h.elim
theorem zpC (hW:LaidG W) {G:Msk} (hG:GOK P G) (hm:P.follows .mixedOrders=true) {d:Nat} {g:FuncId} {con:Con} {ts:List TypeId} (hv:zev P G (ev P G d) g con)
  (hc:∀Ds:List D,Ds.length=ts.length->zxu P ts Ds->zdT P ts Ds λus=>∃p,con us=some (p,.prop True)/\p) (hl:(ts.all λt=>zgD P 20 t)=true)
  {r:Reach} {b0:Nat} {vs:List Value} {ds:List (DataW Hh)} {ps:List MemPlace} (hok:∀(j:Nat) (t:TypeId) (v:Value),ts[j]? =some t->vs[j]? =some v->Value.okWide P W r b0 t v)
  (ht:DataW.TrodAll enc P W 0 (λ_=>true) true ts vs ds ps) (hw:(DataW.weightsEach P ts ds).all (· <=reachBytes)=true):Calls P g ⟨vs⟩ W (Law W):=by
 obtain ⟨Z,H,J,vs0,Ds,L,_,_,hr,hlen,hod,hk⟩:=zi7 hl hok ht (λn hn=>of_decide_eq_true (List.all_eq_true.1 hw n hn)) (zi2.start hW)
 obtain ⟨us,⟨p,h1,hp⟩,h2⟩:=hk _ (hc Ds hlen hod)
 exact zkK hG hm L hv h1 hp h2 ⟨by have:=hr.1;simpa using this,λj v v' a b=>hr.2 j v v' (by simpa using a) (by simpa using b)⟩
end
end
end Go.Ev
namespace Go.Ev
noncomputable section
def zpR:V->V
 | .val (.int k n)=> .int k n
 | .val (.bool b)=> .prop (zhp b)
 | .val (.string b)=> .str b.data.toList
 |v=>v
theorem zhr {P:Program} {J:Sig} {O:Nu} {v:V} {v':Value} (h:zam P J O v v'):zam P J O (zpR v) v':=by
 cases h with
 |val hf=>
  cases v'<;>first|exact .int|exact .str|exact .val hf|skip
  rename_i b
  have:=zam.prop (P:=P) (J:=J) (O:=O) (p:=zhp b)
  have e:dec (zhp b)=b:=zby (b:=b) (show zhp b↔b=true from Iff.rfl)
  rw [e] at this
  exact this
 |undef=>exact .undef
 |int=>exact .int
 |prop=>exact .prop
 |str=>exact .str
 |agg h1 h2=>exact .agg h1 h2
 |tup h1 h2=>exact .tup h1 h2
 |ptr h=>exact .ptr h
 |ept h=>exact .ept h
 |epf h hu hf=>exact .epf h hu hf
 |slcU h=>exact .slcU h
 |osl h hc=>exact .osl h hc
 |oel h=>exact .oel h
 |yld h=>exact .yld h
 |slc h hc hn ho=>exact .slc h hc hn ho
 |dat ht h=>exact .dat ht h
 |dpt hi hs h0 hl h=>exact .dpt hi hs h0 hl h
 |fn h1 h2 h3 h4=>exact .fn h1 h2 h3 h4
 |fndN=>exact .fndN
 |fnd a b c d e f=>exact .fnd a b c d e f
def zsl:V->V
 | .agg cs=> .agg (cs.map zpR)
 |v=>zpR v
theorem zpS {P:Program} {J:Sig} {O:Nu} {v:V} {v':Value} (h:zam P J O v v'):zam P J O (zsl v) v':=by
 unfold zsl
 split
 .cases h with
  |agg h1 h2=>
   refine .agg (by simpa using h1) λj u u' hj hj'=> ?_
   rw [List.getElem?_map] at hj
   rename_i cs _
   cases ha:cs[j]? with
   |none=>rw [ha] at hj;cases hj
   |some w=>
    rw [ha] at hj
    simp only [Option.map_some,Option.some.injEq] at hj
    subst hj
    exact zhr (h2 j w u' ha hj')
 .exact zhr h
def zzs (c:Con):Con:=λus=>c (us.map zsl)
theorem zq4 {P:Program} {G:Msk} {run:Run} {g:FuncId} {c:Con} (h:zev P G run g c):zev P G run g (zzs c):=by
 intro as p r hc hp J H vs hst hl
 refine h (as.map zsl) p r hc hp J H vs hst ⟨by simpa using hl.1,λj v v' hj hj'=> ?_⟩
 rw [List.getElem?_map] at hj
 cases ha:as[j]? with
 |none=>rw [ha] at hj;cases hj
 |some u=>
  rw [ha] at hj
  simp only [Option.map_some,Option.some.injEq] at hj
  subst hj
  exact zpS (hl.2 j u v' ha hj')
end
end Go.Ev
