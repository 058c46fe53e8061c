/- Part of the proof. -/
import Derived.Test.YtdojhafbgoimeaaGreatDoorCoreSeV

namespace Go.Ev
noncomputable section
def zsY (J:Sig) (H:zaa):Prop:=(∀i c,J i=some c->i<H.next/\∃e m ro,H.get i=some (.cells c.1 e c.2 m ro))/\znP J
def zzm (P:Program) (J':Sig) (H H':zaa) (e:TypeId) (cp:Bool) (q:Prop) (l:List D) (v:Value):Prop:=
 (¬q/\v= .slice none 0 0)\/(q/\∃i z cs m c,v= .slice (some ⟨i,0,none⟩) l.length c/\(cond cp (c=l.length/\c<UNK) (c=UNK))/\H.next<=i/\i<H'.next/\J' i=none/\H'.get i=some (.cells cs e z m false)/\zaj P e=some z/\0<z/\zbb P J' e z l cs/\
  ∀m',m=some m'->H.next<=m'/\m'<H'.next/\J' m'=none/\m'≠i)
def zxi (P:Program) (J':Sig) (H H':zaa) (r:V) (v:Value):Prop:=
 match r with
 | .ownr e cp q l=>zzm P J' H H' e cp q l v
 |r=>zam P J' (λ_=>none) r v
theorem zxi.free {P:Program} {J':Sig} {H H':zaa} {r:V} {v:Value} (h:zxi P J' H H' r v) (hf:r.freeR=true):zam P J' (λ_=>none) r v:=by
 cases r with
 |ownr e cp q l=>simp [V.freeR,V.free1,V.free,V.plain] at hf
 |_=>exact h
theorem V.freeR_of_plainR {r:V} (h:r.plainR=true):r.freeR=true:=by
 have one:∀v:V,v.plain=true->v.free=true:=λv h=>by
  unfold V.free;split<;>first|rfl|exact h
 have two:∀v:V,v.plain1=true->v.free1=true:=λv h=>by
  unfold V.plain1 at h
  unfold V.free1
  split at h
  .simp only [List.all_eq_true] at h⊢
   exact λx hx=>one x (h x hx)
  .exact one _ h
 unfold V.plainR at h
 unfold V.freeR
 split at h
 .simp only [List.all_eq_true] at h⊢
  exact λx hx=>two x (h x hx)
 .exact two _ h
def zev (P:Program) (G:Msk) (run:Run) (g:FuncId) (c:Con):Prop:=
 ∀(as:List V) (p:Prop) (r:V),c as=some (p,r)->p->∀(J:Sig) (H:zaa) (vs:List Value),zsY J H->zaN P J (λ_=>none) as vs->
  ∃v H' J',zci P G run g ⟨vs⟩ H=some (v,H')/\XS J J'/\zsY J' H'/\(∀i c,J' i=some c->J i=some c\/H.next<=i)/\H.next<=H'.next/\(∀i,i<H.next->H'.get i=H.get i)/\(∀n,n<=H.wlow->n<=H.next->n<=H'.wlow)/\zxi P J' H H' r v
def zi4 (P:Program) (G:Msk) (run:Run) (c:D->Con):Prop:=
 ∀(d:D) (as:List V) (p:Prop) (r:V),c d as=some (p,r)->p->∀(J:Sig) (H:zaa) (t:TypeId) (v:Value) (vs:List Value),zsY J H->zam P J (λ_=>none) (.fnd t d) v->zaN P J (λ_=>none) as vs->
  ∃g cs,v= .func (.func g) ⟨[]⟩ ⟨cs⟩/\∃v' H' J',zhQ P G run g (vs++cs) H=some (v',H')/\XS J J'/\zsY J' H'/\(∀i c,J' i=some c->J i=some c\/H.next<=i)/\H.next<=H'.next/\(∀i,i<H.next->H'.get i=H.get i)/\(∀n,n<=H.wlow->n<=H.next->n<=H'.wlow)/\zxi P J' H H' r v'
def ztT (P:Program) (srun:zdW) (run:Run):Prop:= ∀(rd:Option Nat) g c S Q,(rd=none\/zbn c=true)->srun g c S Q->S.fl<=S.nx->∀base H0 O J F H,SR P base H0 O J S F H->
 ∃e F' H',run rd c F H=some (e,F',H')/\∃S' O' J',Q e S'/\SR P base H0 O' J' S' F' H'/\XNn S.fl O O'/\XS J J'/\zaz S S'
section
variable {P:Program} {base:Nat} {H0:zaa×Sig} {O:Nu} {J:Sig} {S:SS} {F:zab} {H:zaa} {K:V->SS->Prop} {Kv:V->Prop}
theorem zam.plainR {v:V} {v':Value} (h:zam P J O v v') (hp:v.plainR=true) (J':Sig) (O':Nu):zam P J' O' v v':=by
 have one:∀(v:V) (v':Value),zam P J O v v'->v.plain=true->zam P J' O' v v':=by
  intro v v' h hp
  cases h with
  |val h=>exact .val h
  |undef=>exact .undef
  |int=>exact .int
  |prop=>exact .prop
  |str=>exact .str
  |_=>simp [V.plain] at hp
 have two:∀(v:V) (v':Value),zam P J O v v'->v.plain1=true->zam P J' O' v v':=by
  intro v v' h hp
  unfold V.plain1 at hp
  split at hp
  .cases h with
   |agg h1 h2=>
    simp only [List.all_eq_true] at hp
    exact .agg h1 λj v v' a b=>one v v' (h2 j v v' a b) (hp v (List.mem_of_getElem? a))
  .exact one _ _ h hp
 unfold V.plainR at hp
 split at hp
 .cases h with
  |tup h1 h2=>
   simp only [List.all_eq_true] at hp
   exact .tup h1 λj v v' a b=>two v v' (h2 j v v' a b) (hp v (List.mem_of_getElem? a))
 .exact two _ _ h hp
theorem zam.freeR {v:V} {v':Value} (h:zam P J O v v') (hp:v.freeR=true) (O':Nu):zam P J O' v v':=by
 have one:∀(v:V) (v':Value),zam P J O v v'->v.free=true->zam P J O' v v':=by
  intro v v' h hp
  cases h with
  |val h=>exact .val h
  |undef=>exact .undef
  |int=>exact .int
  |prop=>exact .prop
  |str=>exact .str
  |dat a b=>exact .dat a b
  |dpt a b c d e=>exact .dpt a b c d e
  |fndN=>exact .fndN
  |fnd a b c d e f=>exact .fnd a b c d e f
  |_=>simp [V.free,V.plain] at hp
 have two:∀(v:V) (v':Value),zam P J O v v'->v.free1=true->zam P J O' v v':=by
  intro v v' h hp
  unfold V.free1 at hp
  split at hp
  .cases h with
   |agg h1 h2=>
    simp only [List.all_eq_true] at hp
    exact .agg h1 λj v v' a b=>one v v' (h2 j v v' a b) (hp v (List.mem_of_getElem? a))
  .exact one _ _ h hp
 unfold V.freeR at hp
 split at hp
 .cases h with
  |tup h1 h2=>
   simp only [List.all_eq_true] at hp
   exact .tup h1 λj v v' a b=>two v v' (h2 j v v' a b) (hp v (List.mem_of_getElem? a))
 .exact two _ _ h hp
def zaW (S:SS) (O:Nu) (J:Sig) (H:zaa):Sig:=λi=>
 match J i with
 |some c=>some c
 |none=>
  open Classical in
  if ∃x k z,At S x k/\O x=some (i,z) then
   (match H.get i with|some (.cells cs _ esz _ _)=>some (cs,esz)|_=>none) else none
theorem zba:XS J (zaW S O J H):=λi c h=>by unfold zaW;rw [h]
theorem zcN (hr:SR P base H0 O J S F H):zsY (zaW S O J H) H:=by
 refine ⟨?_,hr.sb.2.mono zba⟩
 intro i c h
 unfold zaW at h
 split at h
 .rename_i c' hc
  simp only [Option.some.injEq] at h
  subst h
  exact hr.sig i _ hc
 .split at h
  .rename_i hex
   obtain ⟨b,k,z,hb,hν⟩:=hex
   split at h
   .rename_i cs e' esz m ro hg
    simp only [Option.some.injEq] at h
    subst h
    exact ⟨hr.lt _ _ _ hν,e',m,ro,hg⟩
   .cases h
  .cases h
theorem zuO (hr:SR P base H0 O J S F H) {b i z:Nat} {e:TypeId} {l:List D} (hb:S.hp.get b=some (.arr e l)) (hν:O (Bid.top b)=some (i,z)):∃cs,zaW S O J H i=some (cs,z)/\zaj P e=some z/\0<z/\zbb P J e z l cs:=by
 obtain ⟨i',z',hν',hB⟩:=hr.blkT _ _ hb
 rw [hν] at hν';cases hν'
 obtain ⟨cs,m,hg,hs,h0,hlen,hrd⟩:=hB
 refine ⟨cs, ?_,hs,h0,hlen,hrd⟩
 unfold zaW
 rw [hr.apart (.top b) _ i z hb hν]
 simp only
 rw [if_pos ⟨.top b,_,z,hb,hν⟩,hg]
theorem zf2 (hr:SR P base H0 O J S F H) {x:Bid} {k:SB} {i z:Nat} (hk:At S x k) (hν:O x=some (i,z)) {cs:List Value} {e:TypeId} {esz:Nat} {m:Option Nat} {ro:Bool} (hg:H.get i=some (.cells cs e esz m ro)):zaW S O J H i=some (cs,esz):=by
 unfold zaW
 rw [hr.apart x _ i z hk hν]
 simp only
 rw [if_pos ⟨x,_,z,hk,hν⟩,hg]
theorem zse (hr:SR P base H0 O J S F H) {b v i z:Nat} {e e':TypeId} {l:List D} (hb:S.hp.get b=some (.own v e e' l)) (hν:O (Bid.top b)=some (i,z)) (hh:zfI l):∃cs,zaW S O J H i=some (cs,z)/\zaj P e=some z/\0<z/\(zai P e=true->zay P e 1=true->zbb P (zaW S O J H) e z l cs):=by
 obtain ⟨i',z',hν',hB⟩:=hr.blkT _ _ hb
 rw [hν] at hν';cases hν'
 obtain ⟨cs,m,hg,hs,h0,hlen,hone,hrd⟩:=hB
 refine ⟨cs,zf2 hr (x:= .top b) hb hν hg,hs,h0,λhsl hs1=>⟨hlen,λj d hj=> ?_⟩⟩
 obtain ⟨e1,hu⟩:∃e1,P.underlying e=some (.slice e1):=by unfold zai at hsl;split at hsl<;>simp_all
 have hst:=zaw hs1
 have hz:z=1:=by rw [hst] at hs;exact (Option.some.inj hs).symm
 subst hz
 rw [Nat.mul_one]
 have hjl:j<cs.length:=by have:=(List.getElem?_eq_some_iff.1 hj).1;omega
 have hone1:∀w,cs[j]? =some w->(cs.drop j).take 1= [w]:=λw hw=>by
  rw [List.getElem?_eq_getElem hjl] at hw
  simp only [Option.some.injEq] at hw
  rw [List.drop_eq_getElem_cons hjl]
  simp [hw]
 rcases hrd j d hj with ⟨h1,_,h2⟩| ⟨n,h1⟩| ⟨r,q,y,c,h1,_,h3,h4,h5,h6⟩
 .subst h1
  rw [hone1 _ (h2 hsl)]
  exact .nil hu hst
 .subst h1
  exact absurd (List.mem_of_getElem? hj) (hh.out n)
 .subst h1
  rw [hone1 _ h5]
  have hat:At S (.sub v j) (.arr e' r):=⟨b,e,e',l,r,hb,hj,rfl⟩
  obtain ⟨i2,z2,hν2,hB2⟩:=hr.blk _ _ hat
  rw [h4] at hν2;cases hν2
  obtain ⟨cs2,m2,hg2,hs2,h02,hlen2,hrd2⟩:=hB2
  exact .list h3 hst hs2 (zf2 hr hat h4 hg2) (by rw [Nat.zero_add,hlen2];exact Nat.le_refl _) (by rcases h6 with h6|h6;exact .inl h6;exact .inr ⟨by omega,h6.2⟩) (.inl rfl) (λj2 d2 hj2=>by rw [Nat.zero_add];exact (hrd2 j2 d2 hj2).mono zba)
theorem zsd (hr:SR P base H0 O J S F H) {b i z:Nat} {e:TypeId} {vs:List V} (hb:S.hp.get b=some (.box e vs)) (hν:O (Bid.top b)=some (i,z)):∃cs,zaW S O J H i=some (cs,0)/\zaN P J O vs cs:=by
 obtain ⟨i',z',hν',hB⟩:=hr.blkT _ _ hb
 rw [hν] at hν';cases hν'
 obtain ⟨cs,m,hg,hl⟩:=hB
 refine ⟨cs, ?_,hl⟩
 unfold zaW
 rw [hr.apart (.top b) _ i z hb hν]
 simp only
 rw [if_pos ⟨.top b,_,z,hb,hν⟩,hg]
theorem zbU {J':Sig} {O':Nu} {t e:TypeId} {z i:Nat} {l:List D} {cs:List Value} {o n off cap:Nat} (hu:P.underlying t=some (.slice e)) (hst:zaj P t=some 1) (hz:zaj P e=some z) {zz:Nat} (hσ:J' i=some (cs,zz)) (hrow:zbb P J' e z l cs) (hle:o+n<=l.length)
  (ho:off=o*z\/(n=0/\off<=o*z)) (hc:cap=UNK\/(n<=cap/\cap<UNK)) (hzz:zz=z\/(zz=0/\cap<UNK/\off+cap*z<=cs.length)):zam P J' O' (.dat t (.list ((l.drop o).take n))) (.slice (some ⟨i,off,none⟩) n cap):=by
 have hll:((l.drop o).take n).length=n:=by rw [List.length_take,List.length_drop];omega
 have hmul:(o+n)*z<=l.length*z:=Nat.mul_le_mul_right _ hle
 rw [Nat.add_mul] at hmul
 have hcl:=hrow.1
 have:=zan.list (P:=P) (J:=J') (t:=t) (l:=(l.drop o).take n) (o:=off) (c:=cap) hu hst hz hσ (by rw [hll];rcases ho with ho|ho;rw [ho];omega;rw [ho.1,Nat.zero_mul];omega) (by rw [hll];exact hc) hzz (λj d hj=>by
  have hjl:j<n:=by have:=(List.getElem?_eq_some_iff.1 hj).1;omega
  rw [List.getElem?_take,if_pos hjl,List.getElem?_drop] at hj
  rcases ho with ho|ho
  .have:=hrow.2 _ _ hj
   rw [ho,<-Nat.add_mul]
   exact this
  .omega)
 rw [hll] at this
 exact .dat hu this
theorem zmB {b i z:Nat} {o n:NL} {c:Option NL} {v':Value} (hv:zam P J O (.slc b o n c) v') (hν:O (Bid.top b)=some (i,z)):∃off cap,v'= .slice (some ⟨i,off,none⟩) n.v cap/\(off=o.v*z\/(n.v=0/\off<=o.v*z))/\(cap=UNK\/(n.v<=cap/\cap<UNK)):=by
 cases hv with
 |slcU hν'=>rw [hν] at hν';cases hν';exact ⟨_,_,rfl,.inl rfl,.inl rfl⟩
 |slc hν' hc hn ho=>rw [hν] at hν';cases hν';exact ⟨_,_,rfl,by rcases ho with ho|ho;exact .inl ho;exact .inr ⟨by omega,ho.2⟩,.inr ⟨hn,hc⟩⟩
theorem zkL (hr:SR P base H0 O J S F H) {t:TypeId} {v:V} {v':Value} {Kv:V->Prop} (h:zvM P S t v Kv) (hv:zam P J O v v'):∃u,Kv u/\zam P (zaW S O J H) (λ_=>none) u v'/\(v.freeR=true->zam P J (λ_=>none) u v'):=by
 unfold zvM at h
 split at h
 .rename_i b o n c
  split at h
  .rename_i e l hb
   cases hso:zax P t e with
   |false=>rw [hso] at h;exact h.elim
   |true=>
    rw [hso] at h
    obtain ⟨hle,h⟩:=h
    obtain ⟨hu,hst⟩:=za7 hso
    refine ⟨_,h, ?_,λhf=>by simp [V.freeR,V.free1,V.free,V.plain] at hf⟩
    obtain ⟨i,z,hν,_⟩:=hr.blkT _ _ hb
    obtain ⟨cs,hσ,hz,h0,hrow⟩:=zuO hr hb hν
    obtain ⟨off,cap,rfl,ho,hc⟩:=zmB hv hν
    exact zbU hu hst hz hσ (hrow.mono zba) hle ho hc (.inl rfl)
  .rename_i a e l hb
   split at h
   .rename_i c
    cases hso:zax P t e with
    |false=>rw [hso] at h;exact h.elim
    |true=>
     rw [hso] at h
     obtain ⟨hle,hlc,h⟩:=h
     obtain ⟨hu,hst⟩:=za7 hso
     refine ⟨_,h, ?_,λhf=>by simp [V.freeR,V.free1,V.free,V.plain] at hf⟩
     obtain ⟨i,z,hν,cs,m,hg,hz,h0,hlen,hrd⟩:=hr.blkT _ _ hb
     have hσ:=zf2 hr (x:= .top b) hb hν hg
     cases hv with
     |slc hν' hcu hnc ho=>
      rw [hν] at hν';cases hν'
      have hm:(o.v+c.v)*z<=l.length*z:=Nat.mul_le_mul_right _ hlc
      rw [Nat.add_mul] at hm
      exact zbU hu hst hz hσ (zbb.mono ⟨hlen,hrd⟩ zba) hle (by rcases ho with ho|ho;exact .inl ho;exact .inr ⟨by omega,ho.2⟩) (.inr ⟨hnc,hcu⟩) (.inr ⟨rfl,hcu,by rcases ho with ho|ho<;>omega⟩)
   .exact h.elim
  .rename_i w e e' l hb
   cases hso:zax P t e with
   |false=>rw [hso] at h;exact h.elim
   |true=>
    rw [hso] at h
    obtain ⟨hle,hh,⟨hsl,hs1⟩,h⟩:=h
    obtain ⟨hu,hst⟩:=za7 hso
    refine ⟨_,h, ?_,λhf=>by simp [V.freeR,V.free1,V.free,V.plain] at hf⟩
    obtain ⟨i,z,hν,_⟩:=hr.blkT _ _ hb
    obtain ⟨cs,hσ,hz,h0,hrow⟩:=zse hr hb hν hh
    obtain ⟨off,cap,rfl,ho,hc⟩:=zmB hv hν
    exact zbU hu hst hz hσ (hrow hsl hs1) hle ho hc (.inl rfl)
  .exact h.elim
 .rename_i b v i n
  split at h
  .rename_i w e e' l hb
   cases hso:(Nat.beq v w&&zax P t e') with
   |false=>rw [hso] at h;exact h.elim
   |true=>
    rw [hso] at h
    simp only [Bool.and_eq_true] at hso
    have e1:=Nat.eq_of_beq_eq_true hso.1
    subst e1
    obtain ⟨hi,hn,⟨r,hl⟩,h⟩:=h
    obtain ⟨hu,hst⟩:=za7 hso.2
    refine ⟨_,h, ?_,λhf=>by simp [V.freeR,V.free1,V.free,V.plain] at hf⟩
    cases hv with
    |osl hν hcap=>
    have hl1:l[i.v]? =some (.list r):=by rw [<-hl];simp [zad,hi]
    have hat:At S (.sub v i.v) (.arr e' r):=⟨b,e,e',l,r,hb,hl1,rfl⟩
    obtain ⟨q,z,hν',hB⟩:=hr.blk _ _ hat
    rw [hν] at hν';cases hν'
    obtain ⟨cs,m,hg,hz,h0,hlen,hrd⟩:=hB
    have hnr:n.v=r.length:=by rw [hn,hl];rfl
    have:=zbU (P:=P) (J':=zaW S O J H) (O':=λ_=>none) (o:=0) (n:=n.v) (off:=0) hu hst hz (zf2 hr hat hν hg) (zbb.mono ⟨hlen,hrd⟩ zba) (by omega) (.inl (by omega)) (by rcases hcap with h|h;exact .inl h;exact .inr ⟨by omega,h.2⟩) (.inl rfl)
    rw [List.drop_zero,hnr,List.take_length] at this
    rw [hl,hnr]
    exact this
  .exact h.elim
 .cases hc:(zai P t&&zay P t 1) with
  |false=>rw [hc] at h;exact h.elim
  |true=>
   rw [hc] at h
   simp only [Bool.and_eq_true] at hc
   obtain ⟨e,hu⟩:∃e,P.underlying t=some (.slice e):=by have:=hc.1;unfold zai at this;split at this<;>simp_all
   cases hv with
   |val _=>exact ⟨_,h,.dat hu (.nil hu (zaw hc.2)),λ_=> .dat hu (.nil hu (zaw hc.2))⟩
 .cases hf:v.freeR with
  |false=>rw [hf] at h;exact h.elim
  |true=>rw [hf] at h;exact ⟨v,h,(hv.freeR hf _).mono (zba (S:=S) (O:=O) (H:=H)) (.refl _),λ_=>hv.freeR hf _⟩
theorem zdK (hr:SR P base H0 O J S F H):∀{ts:List TypeId} {vs:List V} {vs':List Value} {Kv:List V->Prop} (_:zei P S ts vs Kv) (_:zaN P J O vs vs'),∃us,Kv us/\zaN P (zaW S O J H) (λ_=>none) us vs'/\(vs.all V.freeR=true->zaN P J (λ_=>none) us vs')
 |_,[],vs',Kv,h,hv=>by rw [hv.nil_inv];exact ⟨[],by cases ‹List TypeId›<;>exact h,.nil,λ_=> .nil⟩
 |t::ts,v::vs,vs',Kv,h,hv=>by
  obtain ⟨v',r,rfl,h1,h2⟩:=hv.cons_inv
  obtain ⟨u,h,hu,hf⟩:=zkL hr (show zvM P S t v (λv=>zei P S ts vs λvs=>Kv (v::vs)) from h) h1
  obtain ⟨us,h,hus,hfs⟩:=zdK hr h h2
  exact ⟨u::us,h,.cons hu hus,λha=>by simp only [List.all_cons,Bool.and_eq_true] at ha;exact .cons (hf ha.1) (hfs ha.2)⟩
 | [],v::vs,vs',Kv,h,hv=>by
  obtain ⟨v',r,rfl,h1,h2⟩:=hv.cons_inv
  simp only [zei] at h
  cases hf:v.freeR with
  |false=>rw [hf] at h;exact h.elim
  |true=>
   rw [hf] at h
   obtain ⟨us,h,hus,hfs⟩:=zdK hr h h2
   exact ⟨v::us,h,.cons ((h1.freeR hf _).mono (zba (S:=S) (O:=O) (H:=H)) (.refl _)) hus,λha=>by simp only [List.all_cons,Bool.and_eq_true] at ha;exact .cons (h1.freeR hf _) (hfs ha.2)⟩
theorem SR.grow (hr:SR P base H0 O J S F H) {H':zaa} {J':Sig} (hx:XS J J') (hs:zsY J' H') (hnew:∀i c,J' i=some c->J i=some c\/H.next<=i) (hn:H.next<=H'.next) (hg:∀i,i<H.next->H'.get i=H.get i) (hw:base<=H'.wlow):SR P base H0 O J' S F H':=by
 have hσn:∀i,i<H.next->J i=none->J' i=none:=λi hi hn'=>by
  cases hc:J' i with
  |none=>rfl
  |some c=>rcases hnew i c hc with h|h;rw [hn'] at h;cases h;omega
 refine ⟨λt v h=>(hr.fr t v h).mono hx (.refl _),hr.fsz,hr.top,hr.mks, ?_,λb i z h=>Nat.lt_of_lt_of_le (hr.lt b i z h) hn,hr.dom,hr.inj,hr.own,hs.1, ?_, ?_,hw, ?_,Nat.le_trans hr.nxt hn,hr.role,⟨λi c h hi=>by
  rcases hnew i c h with h|h
  .exact hr.sb.1 i c h hi
  .have:=hr.nxt;omega,hr.sb.2.mono hx⟩,hr.vers⟩
 .intro b k h
  obtain ⟨i,z,h1,h2⟩:=hr.blk b k h
  exact ⟨i,z,h1,by rw [hg i (hr.lt _ _ _ h1)];exact h2.mono hx (.refl _)⟩
 .intro b k i z h h'
  exact hσn i (hr.lt _ _ _ h') (hr.apart b k i z h h')
 .intro b k i z m h h' hm
  rw [zaa.mate_congr (hg i (hr.lt _ _ _ h'))] at hm
  obtain ⟨q1,q2,q3,q4⟩:=hr.mates b k i z m h h' hm
  exact ⟨q1,Nat.lt_of_lt_of_le q2 hn,hσn m q2 q3,q4⟩
 .intro i hi
  rw [hg i (Nat.lt_of_lt_of_le hi hr.nxt)]
  exact hr.old i hi
theorem SR.adopt (hr:SR P base H0 O J S F H) {k:SB} {i z n:Nat} (hn:base<=n) (hi:n<=i) (hlt:i<H.next) (hσ:J i=none) (hold:∀x k' j z',At S x k'->O x=some (j,z')->j<n/\∀m,H.mate j=some m->m<n)
  (hm:∀m,H.mate i=some m->n<=m/\m<H.next/\J m=none/\m≠i) (hB:zdf P J O z k (H.get i)) (hk:k.isOwn=false):
  ∃O1,O1 (Bid.top S.nx)=some (i,z)/\XN O O1/\XNn S.nx O O1/\SR P base H0 O1 J (S.alloc k) F H:=by
 let O1:Nu:=λx=>if x=Bid.top S.nx then some (i,z) else O x
 have hx:XN O O1:=λx c hx=>by
  by_cases e1:x= .top S.nx
  .subst e1;rw [hr.dom _ (Nat.le_refl _)] at hx;cases hx
  .show (if x=Bid.top S.nx then _ else _)=_
   rw [if_neg e1];exact hx
 have hxn:XNn S.nx O O1:=λx hx=>if_neg (λe1=>by subst e1;exact Nat.lt_irrefl _ hx)
 have hg:∀c,(S.alloc k).hp.get c=if c=S.nx then some k else S.hp.get c:=λc=>by
  show T.get (T.put S.hp S.nx _) c=_
  rw [T.get_put]
 have hno:∀v e e' l,k≠ .own v e e' l:=λv e e' l h=>by subst h;cases hk
 have hat:∀x k2,At (S.alloc k) x k2->(x= .top S.nx/\k2=k)\/(x≠ .top S.nx/\At S x k2/\(Wr (S.alloc k) x->Wr S x)):=λx k2 h=>by
  cases x with
  |top c=>
   have h1:(S.alloc k).hp.get c=some k2:=h
   rw [hg] at h1
   by_cases ec:c=S.nx
   .rw [if_pos ec] at h1;exact .inl ⟨by rw [ec],by cases h1;rfl⟩
   .rw [if_neg ec] at h1;exact .inr ⟨Bid.top_ne ec,h1,λh=>h⟩
  |sub w j=>
   obtain ⟨c,q1,q2,l1,r1,h1,h2,h3⟩:=h
   rw [hg] at h1
   by_cases ec:c=S.nx
   .rw [if_pos ec] at h1;exact absurd (Option.some.inj h1) (hno _ _ _ _)
   .rw [if_neg ec] at h1
    refine .inr ⟨λh=>(by cases h),⟨c,q1,q2,l1,r1,h1,h2,h3⟩,λ⟨c2,a1,a2,a3,w1,w2⟩=> ?_⟩
    rw [hg] at w1
    by_cases ec:c2=S.nx
    .rw [if_pos ec] at w1;exact absurd (Option.some.inj w1) (hno _ _ _ _)
    .rw [if_neg ec] at w1;exact ⟨c2,a1,a2,a3,w1,w2⟩
 have hνx:∀x,x≠ .top S.nx->O1 x=O x:=λx h=>if_neg h
 have hν0:∀{j z':Nat},O1 (.top S.nx)=some (j,z')->j=i/\z'=z:=λh=>by
  have h:some (i,z)=some (_,_):=(if_pos rfl).symm.trans h
  cases h;exact ⟨rfl,rfl⟩
 refine ⟨O1,if_pos rfl,hx,hxn,⟨λt u h=>(hr.fr t u h).mono (.refl _) hx,hr.fsz,hr.top,hr.mks.mono hx,λx k2 h=> ?_,λx j z' h=> ?_,λx h=> ?_,λx x' k1 k2 j z1 z2 a1 a2 h1 h2=> ?_,λx k2 j z' a hw h=> ?_,hr.sig,λx k2 j z' a h=> ?_,λx k2 j z' m a h h'=> ?_,hr.wl,hr.old,hr.nxt,Nat.le_succ_of_le hr.role,hr.sb,⟨λc c' w e1 e2 l1 e3 e4 l2 q1 q2=> ?_,λc w e1 e2 l1 q=> ?_⟩⟩⟩
 .rcases hat x k2 h with ⟨rfl,rfl⟩| ⟨h1,h2,_⟩
  .exact ⟨i,z,if_pos rfl,hB.mono (.refl _) hx⟩
  .obtain ⟨j,z',q1,q2⟩:=hr.blk _ _ h2
   exact ⟨j,z',(hνx x h1).trans q1,q2.mono (.refl _) hx⟩
 .by_cases e1:x= .top S.nx
  .subst e1;rw [(hν0 h).1];exact hlt
  .exact hr.lt x j z' (by rw [<-hνx x e1];exact h)
 .have h:S.nx+1<=x.id:=h
  rw [hνx x (λe1=>by subst e1;exact absurd h (Nat.not_succ_le_self _))]
  exact hr.dom x (Nat.le_of_succ_le h)
 .rcases hat x k1 a1 with ⟨rfl,rfl⟩| ⟨g1,g2,_⟩
  .rcases hat x' k2 a2 with ⟨rfl,rfl⟩| ⟨g3,g4,_⟩
   .rfl
   .have:=(hold x' k2 j z2 g4 (by rw [<-hνx x' g3];exact h2)).1
    have:=(hν0 h1).1;omega
  .rcases hat x' k2 a2 with ⟨rfl,rfl⟩| ⟨g3,g4,_⟩
   .have:=(hold x k1 j z1 g2 (by rw [<-hνx x g1];exact h1)).1
    have:=(hν0 h2).1;omega
   .exact hr.inj _ _ _ _ _ _ _ g2 g4 (by rw [<-hνx x g1];exact h1) (by rw [<-hνx x' g3];exact h2)
 .rcases hat x k2 a with ⟨rfl,rfl⟩| ⟨g1,g2,g3⟩
  .have:=(hν0 h).1;omega
  .exact hr.own _ _ _ _ g2 (g3 hw) (by rw [<-hνx x g1];exact h)
 .rcases hat x k2 a with ⟨rfl,rfl⟩| ⟨g1,g2,g3⟩
  .rw [(hν0 h).1];exact hσ
  .exact hr.apart _ _ _ _ g2 (by rw [<-hνx x g1];exact h)
 .rcases hat x k2 a with ⟨rfl,rfl⟩| ⟨g1,g2,g3⟩
  .rw [(hν0 h).1] at h'
   obtain ⟨q1,q2,q3,q4⟩:=hm m h'
   refine ⟨λ_=>by omega,q2,q3,λx2 k3 z3 a2 h2=> ?_⟩
   rcases hat x2 k3 a2 with ⟨rfl,rfl⟩| ⟨g4,g5,_⟩
   .exact q4 (hν0 h2).1
   .have:=(hold x2 k3 m z3 g5 (by rw [<-hνx x2 g4];exact h2)).1;omega
  .have hν:=h;rw [hνx x g1] at hν
   obtain ⟨q1,q2,q3,q4⟩:=hr.mates _ _ _ _ m g2 hν h'
   refine ⟨λhw=>q1 (g3 hw),q2,q3,λx2 k3 z3 a2 h2=> ?_⟩
   rcases hat x2 k3 a2 with ⟨rfl,rfl⟩| ⟨g4,g5,_⟩
   .have:=(hold x k2 j z' g2 hν).2 m h'
    have:=(hν0 h2).1;omega
   .exact q4 x2 k3 z3 g5 (by rw [<-hνx x2 g4];exact h2)
 .have key:∀c w e1 e2 l1,(S.alloc k).hp.get c=some (.own w e1 e2 l1)->S.hp.get c=some (.own w e1 e2 l1):=λc w e1 e2 l1 q=>by
   rw [hg] at q
   by_cases ec:c=S.nx
   .rw [if_pos ec] at q;exact absurd (Option.some.inj q) (hno _ _ _ _)
   .rw [if_neg ec] at q;exact q
  exact hr.vers.1 _ _ _ _ _ _ _ _ _ (key _ _ _ _ _ q1) (key _ _ _ _ _ q2)
 .rw [hg] at q
  by_cases ec:c=S.nx
  .rw [if_pos ec] at q;exact absurd (Option.some.inj q) (hno _ _ _ _)
  .rw [if_neg ec] at q;exact Nat.lt_succ_of_lt (hr.vers.2 _ _ _ _ _ q)
theorem zkY (hr:SR P base H0 O J S F H):∀{rs:List ResultVar} {Kv:List V->Prop} (_:zvb P S rs Kv),∃vs vs',zcJ P H F rs=some vs'/\Kv vs/\zaN P J O vs vs'
 | [],Kv,h=>⟨[],[],rfl,h,.nil⟩
 | .tmp t::rs,Kv,h=>by
  simp only [zvb] at h
  split at h
  .rename_i v hv
   obtain ⟨vs,vs',h1,h2,h3⟩:=zkY hr h
   exact ⟨v::vs,F.get t::vs',by simp only [zcJ,h1],h2,.cons (hr.fr t v hv) h3⟩
  .exact h.elim
 | .cell a t::rs,Kv,h=>by
  simp only [zvb] at h
  split at h
  .rename_i v hv
   obtain ⟨u,u',hl,h,hu⟩:=zhG hr h (hr.fr a v hv)
   obtain ⟨vs,vs',h1,h2,h3⟩:=zkY hr h
   exact ⟨u::vs,u'::vs',by simp only [zcJ,hl,h1],h2,.cons hu h3⟩
  .exact h.elim
theorem zoY {args:List V} {args':List Value} (hl:zaN P J O args args'):∀t v,(zjx args 0 .leaf).get t=some v->∃v',args'[t]? =some v'/\zam P J O v v':=by
 have gen:∀(l:List V) (n:Nat) (tr:T V) (t:Nat),(zjx l n tr).get t=if n<=t/\t<n+l.length then l[t-n]? else tr.get t:=by
  intro l
  induction l with
  |nil=>intro n tr t;rw [if_neg (λhh=>by have:=hh.1;have:=hh.2;simp only [List.length_nil] at this;omega)];rfl
  |cons v l ih=>
   intro n tr t
   show (zjx l (n+1) (tr.put n (some v))).get t=_
   rw [ih,T.get_put]
   by_cases h1:t=n
   .subst h1;rw [if_neg (by omega),if_pos rfl,if_pos (by simp)];simp
   .by_cases h2:n+1<=t/\t<n+1+l.length
    .rw [if_pos h2,if_pos (by simp only [List.length_cons];omega),show t-n=(t-(n+1))+1 by omega,List.getElem?_cons_succ]
    .rw [if_neg h2,if_neg h1,if_neg (by simp only [List.length_cons];omega)]
 intro t v h
 rw [gen] at h
 split at h
 .exact hl.get (by simpa using h)
 .cases h
theorem At.gone {S:SS} {b:Nat} {x:Bid} {k:SB} (h:At (S.write b none) x k):x≠ .top b/\At S x k/\(Wr (S.write b none) x->Wr S x):=by
 rcases At.put (S:=S) (S':=S.write b none) (λb'=>T.get_put _ _ _ _) zcw.none rfl h with ⟨_,h⟩|h
 .cases h
 .exact h
theorem zki.gone {S:SS} (h:zki S) (b:Nat):zki (S.write b none):=h.put (S':=S.write b none) (λb'=>T.get_put _ _ _ _) zcw.none (Nat.le_refl _)
theorem SR.lose (hr:SR P base H0 O J S F H) {b i z:Nat} {k:SB} (hk:S.hp.get b=some k) (hν:O (Bid.top b)=some (i,z)) (hro:S.ro<=b) {bk:Option ABk} (hbk:∀cs e esz m ro,bk=some (.cells cs e esz m ro)->m=none):
  SR P base H0 O J (S.write b none) F ((H.kill (H.mate i)).write i bk):=by
 have hget:∀j,((H.kill (H.mate i)).write i bk).get j=if j=i then bk else if H.mate i=some j then none else H.get j:=λj=>by
  rw [zaa.get_write,zaa.get_kill]
 have hnx:((H.kill (H.mate i)).write i bk).next=H.next:=zaa.next_kill _ _
 have hbi:=hr.ownT hk hro hν
 have hmate:∀m,H.mate i=some m->base<=m/\m<H.next/\J m=none/\∀b' k' z',At S b' k'->O b'≠some (m,z'):=λm hm=>let q:=hr.mates (.top b) k i z m hk hν hm;⟨q.1 hro,q.2⟩
 have hkeep:∀(b':Bid) i' z' k2,At S b' k2->O b'=some (i',z')->b'≠b->((H.kill (H.mate i)).write i bk).get i'=H.get i':=λb' i' z' k2 h2 h3 hne=>by
  rw [hget,if_neg (λe1=>hne (hr.inj _ _ _ _ _ _ _ h2 (show At S (.top b) k from hk) (e1▸h3) hν)),if_neg (λhm=>(hmate _ hm).2.2.2 b' k2 z' h2 h3)]
 refine ⟨λt v h=>hr.fr t v h,hr.fsz,hr.top,hr.mks, ?_, ?_,hr.dom, ?_, ?_, ?_, ?_, ?_, ?_, ?_,by rw [hnx];exact hr.nxt,hr.role,hr.sb,hr.vers.gone b⟩
 .intro b' k2 h
  obtain ⟨e1,h,_⟩:=At.gone h
  obtain ⟨i',z',h1,h2⟩:=hr.blk b' k2 h
  exact ⟨i',z',h1,by rw [hkeep b' i' z' k2 h h1 e1];exact h2⟩
 .intro b' i' z' h;rw [hnx];exact hr.lt b' i' z' h
 .intro x x' k1 k2 i1 z1 z2 a1 a2 h1 h2
  exact hr.inj _ _ _ _ _ _ _ (At.gone a1).2.1 (At.gone a2).2.1 h1 h2
 .intro x k1 i1 z1 a hw h
  exact hr.own _ _ _ _ (At.gone a).2.1 ((At.gone a).2.2 hw) h
 .intro i' c h
  obtain ⟨h1,h2⟩:=hr.sig i' c h
  rw [hnx,hget,if_neg (λe1=>by have:=hr.apart b k i z hk hν;rw [<-e1,h] at this;cases this),if_neg (λhm=>by rw [(hmate _ hm).2.2.1] at h;cases h)]
  exact ⟨h1,h2⟩
 .intro b' k2 i' z' h h'
  exact hr.apart b' k2 i' z' (At.gone h).2.1 h'
 .intro b' k2 i' z' m h h' hm
  obtain ⟨e1,h,aw⟩:=At.gone h
  rw [hnx]
  rw [zaa.mate_congr (hkeep b' i' z' k2 h h' e1)] at hm
  obtain ⟨q1,q2,q3,q4⟩:=hr.mates b' k2 i' z' m h h' hm
  exact ⟨λhw=>q1 (aw hw),q2,q3,λb2 k4 z2 h4=>q4 b2 k4 z2 (At.gone h4).2.1⟩
 .have h3:base<=(H.kill (H.mate i)).wlow:=by
   cases hm:H.mate i with
   |none=>exact hr.wl
   |some m=>
    have:=(hmate m hm).1
    simp only [zaa.kill,zaa.write]
    cases hbl:Nat.ble H.wlow m with
    |true=>exact hr.wl
    |false=>simpa using this
  simp only [zaa.write]
  cases hbl:Nat.ble (H.kill (H.mate i)).wlow i with
  |true=>exact h3
  |false=>exact hbi
 .intro j hj
  rw [hget,if_neg (by omega),if_neg (λhm=>by have:=(hmate _ hm).1;omega)]
  exact hr.old j hj
theorem zj5 {dc:FuncId->List Value->zaa->Option zaa}:∀{l:List Nat} {ms:List zfO} {S:SS} {H:zaa} {K:SS->Prop},SR P base H0 O J S F H->MkN O l ms->zj4 l S K->
  ∃H' S',zbd dc H ms=some H'/\K S'/\SR P base H0 O J S' F H'/\zaz S S'
 | [],[],S,H,K,hr,_,h=>⟨H,S,rfl,h,hr,.refl _⟩
 | [],_::_,_,_,_,_,hm,_=>hm.elim
 |_::_,[],_,_,_,_,hm,_=>hm.elim
 |_::_,.fn _ _::_,_,_,_,_,hm,_=>hm.elim
 |b::l,.col i::ms,S,H,K,hr,hm,h=>by
  obtain ⟨⟨z,hν⟩,hm⟩:=hm
  simp only [zj4] at h
  cases hc:(zpw S b&&Nat.ble S.ro b) with
  |false=>rw [hc] at h;exact h.elim
  |true=>
   rw [hc] at h
   simp only [Bool.and_eq_true] at hc
   have hro:=Nat.le_of_ble_eq_true hc.2
   have hb:S.hp.get b=some .dfr:=by
    have:=hc.1
    unfold zpw at this
    split at this
    .assumption
    .cases this
   obtain ⟨i',z',h1,h2⟩:=hr.blkT _ _ hb
   rw [hν] at h1;cases h1
   have h2':H.get i=some .deferred:=h2
   have hmt:H.mate i=none:=zcO h2' (λ_ _ _ _ _ e=>by cases e)
   have hr2:=hr.lose hb hν hro (bk:=none) (λ_ _ _ _ _ h=>by cases h)
   rw [hmt] at hr2
   obtain ⟨H',S',q1,q2,q3,q4⟩:=zj5 (dc:=dc) hr2 hm h
   refine ⟨H',S', ?_,q2,q3,(zaz.write _ _ _ hro).trans q4⟩
   simp only [zbd,h2']
   exact q1
theorem zgj {C:Ctx} {G:Msk} {srun:zdW} {run:Run} (hfast:G.fast=false) (hbits:G.bits=C.bits) (hrun:ztT C.P srun run) {g:FuncId} {args:List V} {args':List Value} (hr:SR C.P base H0 O J S F H) (h:zdC C srun g args S K) (hl:zaN C.P J O args args'):
  OpR C.P base H0 O J S F (zci C.P G run g ⟨args'⟩ H) K:=by
 unfold zdC at h
 unfold zci
 rw [hbits]
 split at h
 .rename_i fn hf
  rw [hf]
  simp only
  split at h
  .rename_i body hb
   simp only [hb]
   have hsz:(⟨args'⟩:Array Value).size=args.length:=by show args'.length=_;exact hl.1.symm
   rw [hsz]
   cases hc:(Nat.blt fn.ntmps args.length||Nat.blt 1000000 fn.ntmps) with
   |true=>rw [hc] at h;exact h.elim
   |false=>
    rw [hc] at h
    simp only [cond_false] at h⊢
    simp only [Bool.or_eq_false_iff] at hc
    have hn2:fn.ntmps<=1000000:=Nat.le_of_not_lt λhlt=>by have:=Nat.ble_eq_true_of_le hlt;rw [show Nat.blt 1000000 fn.ntmps=Nat.ble (1000000+1) fn.ntmps from rfl,this] at hc;cases hc.2
    have hn1:args.length<=fn.ntmps:=Nat.le_of_not_lt λhlt=>by have:=Nat.ble_eq_true_of_le hlt;rw [show Nat.blt fn.ntmps args.length=Nat.ble (fn.ntmps+1) args.length from rfl,this] at hc;cases hc.1
    have hSR:SR C.P base H0 O J {S with fr:=zjx args 0 .leaf,sz:=fn.ntmps,fl:=S.nx,mks:= []} (frameOf fn.ntmps ⟨args'⟩) {H with wlow:=H.next}:=by
     refine ⟨λt v ht=> ?_,rfl,Nat.le_trans hn2 (by decide),trivial,hr.blk,hr.lt,hr.dom,hr.inj,hr.own,hr.sig,hr.apart,hr.mates,hr.nxt,hr.old,hr.nxt,hr.role,hr.sb,hr.vers⟩
     obtain ⟨v',hv',hv⟩:=zoY hl t v ht
     rw [zgy fn.ntmps ⟨args'⟩ (by rw [hsz];exact Nat.le_trans hn1 (Nat.le_trans hn2 (by decide))) t]
     have:(⟨args'⟩:Array Value)[t]? =some v':=by simpa using hv'
     rw [this];exact hv
    obtain ⟨e,F1,h1,hev,S1,O1,J1,hq,hr1,hxn,hxs,hk⟩:=hrun none _ _ _ _ (.inl rfl) h (Nat.le_refl _) _ _ _ _ _ _ hSR
    rw [hev]
    have hxn':XN O O1:=XNn.xn hr hxn
    have key:(∀id,e≠ .exit id)->(zj4 S1.mks S1 λS1=>zvb C.P S1 fn.results.toList λvs=>match vs with| [v]=>K v {S1 with fr:=S.fr,sz:=S.sz,fl:=S.fl,mks:=S.mks}|vs=>K (.tup vs) {S1 with fr:=S.fr,sz:=S.sz,fl:=S.fl,mks:=S.mks})->
      OpR C.P base H0 O J S F (match zbd (zhc C.P G run) h1 F1.marks with|some h2=>(match zaU C.P h2 F1 fn with|some v=>some (v,zdq G.fast H h2 v)|none=>none)|none=>none) K:=by
     intro _ hres
     obtain ⟨h2,S2,hem,hres,hr2,hk2⟩:=zj5 (dc:=zhc C.P G run) hr1 hr1.mks hres
     rw [hem]
     replace hk:=hk.trans hk2
     clear hem hq hk2 hev hr1
     revert h2 S2
     intro h1 S1 hres hr1 hk
     show OpR C.P base H0 O J S F (match zaU C.P h1 F1 fn with|some v=>some (v,zdq G.fast H h1 v)|none=>none) K
     obtain ⟨vs,vs',hra,hkv,hlr⟩:=zkY hr1 hres
     have hlow:base<=cond (Nat.ble H.wlow h1.wlow) H.wlow h1.wlow:=by cases Nat.ble H.wlow h1.wlow;exact hr1.wl;exact hr.wl
     have hfin:∀v,SR C.P base H0 O1 J1 {S1 with fr:=S.fr,sz:=S.sz,fl:=S.fl,mks:=S.mks} F (zdq G.fast H h1 v):=λv=>by
      have hlv:zdq G.fast H h1 v={h1 with wlow:=cond (Nat.ble H.wlow h1.wlow) H.wlow h1.wlow}:=by unfold zdq;rw [hfast];rfl
      rw [hlv]
      exact ⟨λt v ht=>(hr.fr t v ht).mono hxs hxn',hr.fsz,hr.top,hr.mks.mono hxn',hr1.blk,hr1.lt,hr1.dom,hr1.inj,hr1.own,hr1.sig,hr1.apart,hr1.mates,hlow,hr1.old,hr1.nxt,hr1.role,hr1.sb,hr1.vers⟩
     have hkeep:zaz S {S1 with fr:=S.fr,sz:=S.sz,fl:=S.fl,mks:=S.mks}:=⟨hk.nx,rfl,hk.ro,rfl,hk.wr,hk.hp,hk.rb⟩
     have fin:∀(v:V) (v':Value),zaU C.P h1 F1 fn=some v'->zam C.P J1 O1 v v'->K v {S1 with fr:=S.fr,sz:=S.sz,fl:=S.fl,mks:=S.mks}->
       OpR C.P base H0 O J S F (match zaU C.P h1 F1 fn with|some v=>some (v,zdq G.fast H h1 v)|none=>none) K:=λv v' h1 h2 h3=>by
      rw [h1]
      exact ⟨v',_,rfl,v,_,O1,J1,h3,hfin v',h2,hxn,hxs,rfl,hkeep⟩
     split at hkv
     .rename_i v
      obtain ⟨v',r,rfl,hv,hn⟩:=hlr.cons_inv
      cases hn.nil_inv
      exact fin v v' (by unfold zaU;rw [hra]) hv hkv
     .rename_i vs0 hne
      refine fin (.tup vs) (.tuple vs'.toArray) ?_ (.tup hlr.1 hlr.2) hkv
      unfold zaU
      rw [hra]
      split
      .rename_i v0 he
       simp only [Option.some.injEq] at he
       subst he
       have hlen:=hlr.1
       match vs,hlen,hne with
       | [v],_,hne=>exact absurd rfl (hne v)
      .rename_i vs1 _ he
       simp only [Option.some.injEq] at he
       subst he;rfl
      .rename_i he;cases he
    cases e with
    |exit id=>exact hq.elim
    |normal=>exact key (by simp) hq
    |ret=>exact key (by simp) hq
  .exact h.elim
 .exact h.elim
theorem zhz {P:Program} {t:TypeId} (h:zce P t=true):zaj P t=some 1:=by
 unfold zce at h
 cases hs:zaj P t with
 |none=>rw [hs] at h;cases h
 |some s=>rw [hs] at h;rw [Nat.eq_of_beq_eq_true h]
theorem zsy {e:TypeId} (hu:P.underlying e=some (.int .i64)) (hs:zaj P e=some 1) (zs:List Int):zbb P J e 1 (zs.map D.int) (zs.map (Value.int .i64)):=by
 refine ⟨by simp,λj d hj=> ?_⟩
 rw [List.getElem?_map] at hj
 cases hb:zs[j]? with
 |none=>rw [hb] at hj;cases hj
 |some z=>
  rw [hb] at hj
  cases hj
  have hl:j<zs.length:=(List.getElem?_eq_some_iff.1 hb).1
  have hd:(List.drop (j*1) (zs.map (Value.int .i64))).take 1= [Value.int .i64 z]:=by
   rw [Nat.mul_one,List.drop_eq_getElem_cons (by simpa using hl)]
   have:zs[j]=z:=(List.getElem?_eq_some_iff.1 hb).2
   simp [this]
  rw [hd]
  exact .int hu hs
theorem znE {args:List V} {args':List Value} {f:ztS} (hr:SR P base H0 O J S F H) (h:zqT P f S args K) (hl:zaN P J O args args'):OpR P base H0 O J S F (zsF f args' H) K:=h.out.elim
def zkn (P:Program) (f:List Value->Option Value) (c:Option Con):Prop:=
 match c with
 |none=>∀as,f as=none
 |some c=>∀us p r,c us=some (p,r)->p->∀J O as,zaN P J O us as->as.all Ev.flat=true/\∃v,f as=some v/\zam P J O r v
end
end
end Go.Ev
