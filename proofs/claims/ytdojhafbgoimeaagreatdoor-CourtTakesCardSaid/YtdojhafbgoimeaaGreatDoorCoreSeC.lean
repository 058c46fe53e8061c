/- Part of the proof. -/
import Derived.Test.YtdojhafbgoimeaaGreatDoorCoreSeZ

namespace Go.Ev
section
variable {P:Program} {base:Nat} {H0:zaa×Sig} {O:Nu} {J:Sig} {F:zab} {H:zaa}
theorem zj0 {S1:SS} {ren:Nat->Nat}:∀{slots:List (Tmp×V)},zdQ S1 ren slots->∀t v0,(t,v0)∈slots->∃v,S1.fr.get t=some v/\((∃b o n c b0 o0 n0 c0,v= .slc b o n c/\v0= .slc b0 o0 n0 c0/\ren b0=b/\zcf v v0)\/((∀b o n c,v0≠ .slc b o n c)/\zcf v v0))
 | [],_,t,v0,h=>by simp at h
 | (t1,u0)::l,hm,t,v0,h=>by
  simp only [zdQ] at hm
  rcases List.mem_cons.1 h with e|h
  .cases e
   obtain ⟨hm,_⟩:=hm
   split at hm
   .rename_i v hv
    refine ⟨v,hv, ?_⟩
    split at hm
    .rename_i b o n c b0 o0 n0 c0
     cases hb:Nat.beq (ren b0) b with
     |false=>rw [hb] at hm;exact hm.elim
     |true=>rw [hb] at hm;exact .inl ⟨b,o,n,c,b0,o0,n0,c0,rfl,rfl,Nat.eq_of_beq_eq_true hb,hm⟩
    .rename_i hns
     refine .inr ⟨λb o n c e=> ?_,hm⟩
     subst e
     -- a slice against something else
     cases v with
     |slc b1 o1 n1 c1=>exact hns _ _ _ _ _ _ _ _ rfl rfl
     |_=>exact hm.elim
   .exact hm.elim
  .exact zj0 hm.2 t v0 h
theorem zlK {S1:SS} {ren:Nat->Nat}:∀{blks:List (Nat×SB)},zey S1 ren blks->∀b k0,(b,k0)∈blks->∃k,S1.hp.get (ren b)=some k/\zfA ren k k0
 | [],_,b,k0,h=>by simp at h
 | (b1,u0)::l,hm,b,k0,h=>by
  simp only [zey] at hm
  rcases List.mem_cons.1 h with e|h
  .cases e
   obtain ⟨hm,_⟩:=hm
   split at hm
   .rename_i k hk;exact ⟨k,hk,hm⟩
   .exact hm.elim
  .exact zlK hm.2 b k0 h
theorem zp8 {ren:List (Nat×Nat)} {b:Nat}:zaQ ren b=b\/∃x∈ren,x.1=b/\zaQ ren b=x.2:=by
 induction ren with
 |nil=>exact .inl rfl
 |cons x l ih=>
  obtain ⟨x1,x2⟩:=x
  simp only [zaQ]
  cases h:Nat.beq x1 b with
  |true=>exact .inr ⟨_,List.mem_cons_self,Nat.eq_of_beq_eq_true h,rfl⟩
  |false=>
   rcases ih with h1| ⟨x,hx,h1,h2⟩
   .exact .inl h1
   .exact .inr ⟨x,List.mem_cons_of_mem _ hx,h1,h2⟩
theorem zml {S1:SS}:∀{slots:List (Tmp×V)} {t:Tmp} {b o n c b0 o0 n0 c0},(t,V.slc b0 o0 n0 c0)∈slots->S1.fr.get t=some (.slc b o n c)->(b0,b)∈zxy S1 slots
 | [],t,_,_,_,_,_,_,_,_,h,_=>by simp at h
 | (t1,u)::l,t,b,o,n,c,b0,o0,n0,c0,h,hv=>by
  simp only [zxy,List.mem_append]
  rcases List.mem_cons.1 h with e|h
  .cases e;left;rw [hv];simp [zyA]
  .exact .inr (zml h hv)
theorem zn0:∀{a b:List Nat},zxj a b=true->a=b
 | [],[],_=>rfl
 | [],_::_,h=>by cases h
 |_::_,[],h=>by cases h
 |x::a,y::b,h=>by
  simp only [zxj,Bool.and_eq_true] at h
  rw [Nat.eq_of_beq_eq_true h.1,zn0 h.2]
theorem zh9 {S0 S1:SS} {b:Code} {slots:List (Tmp×V)} {blks:List (Nat×SB)} (hr:SR P base H0 O J S1 F H) (hsz:S1.sz=S0.sz) (hro:S1.ro=S0.ro) (hnx:S0.nx<=S1.nx) (hfl:S0.fl<=S0.nx)
  (hsame:zdg (zal b) S0 S1) (hhp:∀c k,c<S0.nx->c∉S1.wr->S0.hp.get c=some k->S1.hp.get c=some k) (hdom0:∀c k,S0.hp.get c=some k->c<S0.nx/\∀v e e' l,k= .own v e e' l->v<S0.nx) (hrn:S0.ro<=S0.nx) (hm:zfH S0 S1 b slots blks):
  ∃O2,SR P base H0 O2 J (zc0 S0 b slots blks) F H/\XNn S0.fl O O2:=by
 unfold zfH at hm
 generalize hren:zkX S1 slots blks=ren at hm
 cases hc:(zgc S0 blks S1.wr&&blks.all (λy=>Nat.ble S0.ro y.1)&&slots.all (λx=>(zal b).any λt=>Nat.beq t x.1)&&zsr S0 ren blks slots (zbF (zal b) S0.fr)&&zu6 S0 blks&&mkM S0 S1 ren blks) with
 |false=>rw [hc] at hm;exact hm.elim
 |true=>
  rw [hc] at hm
  obtain ⟨hs,hb⟩:=hm
  simp only [Bool.and_eq_true] at hc
  obtain ⟨⟨⟨⟨⟨c1,c2⟩,c3⟩,c4⟩,c5⟩,c6⟩:=hc
  unfold zsr at c4
  simp only [Bool.and_eq_true] at c4
  obtain ⟨d1,d2,d3,d4,d5,d6,d7⟩:=c4
  -- what is listed
  have listed:∀c k0,c<S0.nx->c∈S1.wr->S0.hp.get c=some k0->∃k,(c,k)∈blks:=λc k0 hc hw hk0=>by
   have:=List.all_eq_true.1 c1 c hw
   rw [hk0] at this
   simp only [Bool.or_eq_true,Bool.false_eq_true,or_false] at this
   rcases this with h|h
   .have:=Nat.le_of_ble_eq_true h;omega
   .obtain ⟨y,hy,he⟩:=List.any_eq_true.1 h
    rw [<-Nat.eq_of_beq_eq_true he]
    exact ⟨y.2,hy⟩
  have renfl:∀c,zaQ ren c≠c->S0.fl<=c/\(S0.nx<=zaQ ren c\/(S0.ro<=zaQ ren c/\S0.hp.get (zaQ ren c)=none))/\(∃k,(c,k)∈blks)/\∀y∈blks,y.1≠c->zaQ ren y.1≠zaQ ren c:=λc hne=>by
   rcases zp8 (ren:=ren) (b:=c) with h| ⟨x,hx,h1,h2⟩
   .exact absurd h hne
   .have e1:=List.all_eq_true.1 d2 x hx
    obtain ⟨y,hy,he⟩:=List.any_eq_true.1 (List.all_eq_true.1 d1 x hx)
    have hyc:y.1=c:=by rw [Nat.eq_of_beq_eq_true he,h1]
    simp only [Bool.or_eq_true,Bool.and_eq_true] at e1
    rcases e1 with e1| ⟨⟨e1,e2⟩,e3⟩
    .exact absurd (by rw [h2,<-Nat.eq_of_beq_eq_true e1,h1]) hne
    .rw [h2]
     have e2':S0.nx<=x.2\/(S0.ro<=x.2/\S0.hp.get x.2=none):=by
      rcases e2 with e2| ⟨e2,e4⟩
      .exact .inl (Nat.le_of_ble_eq_true e2)
      .refine .inr ⟨Nat.le_of_ble_eq_true e2, ?_⟩
       unfold ztl at e4
       split at e4
       .assumption
       .cases e4
     refine ⟨by rw [<-h1];exact Nat.le_of_ble_eq_true e1,e2',⟨y.2,by rw [<-hyc];exact hy⟩,λy hy hyne he=> ?_⟩
     have:=List.all_eq_true.1 e3 y hy
     simp only [Bool.or_eq_true,Bool.not_eq_true'] at this
     rcases this with h|h
     .exact hyne (by rw [Nat.eq_of_beq_eq_true h,h1])
     .rw [he,Nat.beq_refl] at h;cases h
  let ok:Nat->Prop:=λc=>c<S0.nx\/∃k,(c,k)∈blks
  let live:Nat->Prop:=λc=>(∃k,S0.hp.get c=some k)\/∃k,(c,k)∈blks
  have liveok:∀c,live c->ok c:=λc h=>by
   rcases h with ⟨k,h⟩|h
   .exact .inl (hdom0 c k h).1
   .exact .inr h
  have renInj:∀c c',live c->live c'->zaQ ren c=zaQ ren c'->c=c':=λc c' hc hc' he=>by
   by_cases h1:zaQ ren c=c<;>by_cases h2:zaQ ren c'=c'
   .rw [<-h1,he,h2]
   .obtain ⟨q1,q2,⟨k,q3⟩,q4⟩:=renfl c' h2
    rcases hc with ⟨k',hc⟩| ⟨k',hc⟩
    .have h3:c=zaQ ren c':=by rw [<-he,h1]
     rcases q2 with q2| ⟨_,q2⟩
     .have:=(hdom0 c k' hc).1;omega
     .rw [<-h3,hc] at q2;cases q2
    .by_cases e:c=c'
     .exact e
     .exact absurd he (q4 _ hc e)
   .obtain ⟨q1,q2,⟨k,q3⟩,q4⟩:=renfl c h1
    rcases hc' with ⟨k',hc'⟩| ⟨k',hc'⟩
    .have h3:c'=zaQ ren c:=by rw [he,h2]
     rcases q2 with q2| ⟨_,q2⟩
     .have:=(hdom0 c' k' hc').1;omega
     .rw [<-h3,hc'] at q2;cases q2
    .by_cases e:c'=c
     .exact e.symm
     .exact absurd he.symm (q4 _ hc' e)
   .obtain ⟨q1,q2,⟨k,q3⟩,q4⟩:=renfl c h1
    obtain ⟨_,_,⟨k',q3'⟩,_⟩:=renfl c' h2
    by_cases e:c'=c
    .exact e.symm
    .exact absurd he.symm (q4 _ q3' e)
  -- the rows that listed blocks' elements own
  have ownge:∀c v e e' l,(c,SB.own v e e' l)∈blks->S0.nx<=v/\∀c2 e2 e2' l2,(c2,SB.own v e2 e2' l2)∈blks->c2=c:=λc v e e' l hm=>by
   have h1:=List.all_eq_true.1 c5 _ hm
   simp only [Bool.and_eq_true] at h1
   refine ⟨Nat.le_of_ble_eq_true h1.1,λc2 e2 e2' l2 hm2=> ?_⟩
   have h2:=List.all_eq_true.1 h1.2 _ hm2
   simp only [Bool.or_eq_true,Bool.not_eq_true',Nat.beq_refl] at h2
   rcases h2 with h|h
   .exact Nat.eq_of_beq_eq_true h
   .cases h
  let li:Nat->Prop:=λv=>∃c e e' l,(c,SB.own v e e' l)∈blks
  let isOld:Nat->Nat->Prop:=λv w=>∃c e e' l a1 a2 l2,(c,SB.own v e e' l)∈blks/\S1.hp.get (zaQ ren c)=some (.own w a1 a2 l2)
  have isOld_uniq:∀v w w',isOld v w->isOld v w'->w=w':=λv w w' ⟨c,e,e',l,a1,a2,l2,h1,h2⟩ ⟨c',f,f',l',b1,b2,l2',h1',h2'⟩=>by
   have:=(ownge _ _ _ _ _ h1).2 _ _ _ _ h1'
   subst this
   rw [h2] at h2';cases h2';rfl
  open Classical in
  let old:Nat->Nat:=λv=>if h:∃w,isOld v w then Classical.choose h else 0
  have old_eq:∀v w,isOld v w->old v=w:=λv w h=>by
   have hex:∃w,isOld v w:=⟨w,h⟩
   show (if h:∃w,isOld v w then Classical.choose h else 0)=w
   rw [dif_pos hex]
   exact isOld_uniq v _ _ (Classical.choose_spec hex) h
  open Classical in
  let f:Bid->Bid:=λx=>match x with| .top c=> .top (zaQ ren c)| .sub v j=>if li v then .sub (old v) j else .sub v j
  open Classical in
  let O2:Nu:=λx=>match x with| .top c=>if ok c then O (.top (zaQ ren c)) else none| .sub v j=>if li v then O (.sub (old v) j) else if v<S0.nx then O (.sub v j) else none
  have ν2ok:∀c,ok c->O2 (.top c)=O (.top (zaQ ren c)):=λc hc=>if_pos hc
  have ν2no:∀c,¬ok c->O2 (.top c)=none:=λc hc=>if_neg hc
  have ν2some:∀c x,O2 (.top c)=some x->ok c/\O (.top (zaQ ren c))=some x:=λc x h=>by
   by_cases hc:ok c
   .exact ⟨hc,by rw [<-ν2ok c hc];exact h⟩
   .rw [ν2no c hc] at h;cases h
  have notli:∀v,v<S0.nx->¬li v:=λv hv ⟨c,e,e',l,h⟩=>by have:=(ownge _ _ _ _ _ h).1;omega
  have ν2sub:∀v j,v<S0.nx->O2 (.sub v j)=O (.sub v j):=λv j hv=>by
   show (if li v then _ else if v<S0.nx then O (.sub v j) else none)=_
   rw [if_neg (notli v hv),if_pos hv]
  have refok:∀{rs:List Nat},(rs.all λr=>Nat.blt r S0.nx&&Nat.beq (zaQ ren r) r)=true->∀x:Bid,x.id∈rs->O2 x=O x:=λh x hrm=>by
   have:=List.all_eq_true.1 h x.id hrm
   simp only [Bool.and_eq_true] at this
   cases x with
   |top r=>exact (ν2ok r (.inl (zbg this.1))).trans (congrArg (λq=>O (.top q)) (Nat.eq_of_beq_eq_true this.2))
   |sub v j=>exact ν2sub v j (zbg this.1)
  have refokB:∀{c:Nat} {v:SB},(c,v)∈blks->∀e cs,v= .box e cs->∀w,w∈cs->zvI O O2 (zaQ ren) w:=λ{c v} hm e cs he w hw=>by
   subst he
   have h1:cs.all (refOK S0 ren blks)=true:=List.all_eq_true.1 d7 _ hm
   have h2:=List.all_eq_true.1 h1 w hw
   unfold refOK at h2
   unfold zvI
   split at h2
   .obtain ⟨y,hy,he⟩:=List.any_eq_true.1 h2
    exact ν2ok _ (.inr ⟨y.2,by rw [<-Nat.eq_of_beq_eq_true he];exact hy⟩)
   .rename_i hns
    split
    .rename_i b o n c;exact absurd rfl (hns b o n c)
    .exact refok h2
  have hidk:∀c k0,(c,k0)∈blks->(zc0 S0 b slots blks).nx>c:=λc k0 hc=>(zdN blks S0.nx).2.1 _ hc
  have hidv:∀c v e e' l,(c,SB.own v e e' l)∈blks->(zc0 S0 b slots blks).nx>v:=λc v e e' l hc=>(zdN blks S0.nx).2.2 _ hc _ _ _ _ rfl
  have hnx2:S0.nx<=(zc0 S0 b slots blks).nx:=(zdN blks S0.nx).1
  have hownS:∀c k0 k,(c,k0)∈blks->S1.hp.get (zaQ ren c)=some k->∀v e e' l v0 e0 e0' l0,k= .own v e e' l->k0= .own v0 e0 e0' l0->∀j,O2 (.sub v0 j)=O (.sub v j):=λc k0 k hm hk v e e' l v0 e0 e0' l0 h1 h2 j=>by
   subst h1 h2
   show (if li v0 then O (.sub (old v0) j) else _)=_
   rw [if_pos (show li v0 from ⟨c,e0,e0',l0,hm⟩),old_eq v0 v ⟨c,e0,e0',l0,e,e',l,hm,hk⟩]
  -- the blocks of the head
  have hblk:∀c k0,(zc0 S0 b slots blks).hp.get c=some k0->live c/\∃k,S1.hp.get (zaQ ren c)=some k/\(∀i z,O (.top (zaQ ren c))=some (i,z)->zdf P J O z k (H.get i)->zdf P J O2 z k0 (H.get i))/\
    (((c,k0)∈blks/\zfA (zaQ ren) k k0)\/((∀k,(c,k)∉blks)/\zaQ ren c=c/\k=k0/\S0.hp.get c=some k0)):=λc k0 hc=>by
   rcases zcS blks S0.hp c with ⟨v,h1,h2⟩| ⟨h1,h2⟩
   .have:v=k0:=by have:=h2.symm.trans hc;exact Option.some.inj this
    subst this
    obtain ⟨k,hk,hmk⟩:=zlK hb c v h1
    exact ⟨.inr ⟨v,h1⟩,k,hk,λi z _ hB=>znZ hmk hB (refokB h1) (hownS c v k h1 hk),.inl ⟨h1,hmk⟩⟩
   .have hc0:S0.hp.get c=some k0:=h2.symm.trans hc
    have hlt:=(hdom0 c k0 hc0).1
    have hnl:∀k,(c,k)∉blks:=h1
    have hnw:c∉S1.wr:=λhw=>by obtain ⟨k,hk⟩:=listed c k0 hlt hw hc0;exact hnl k hk
    have hrc:zaQ ren c=c:=by
     by_cases h:zaQ ren c=c
     .exact h
     .obtain ⟨_,_,⟨k,q⟩,_⟩:=renfl c h;exact absurd q (hnl k)
    have hrefs:=T.all_get _ _ d5 c k0 hc0
    simp only [Bool.or_eq_true] at hrefs
    refine ⟨.inl ⟨k0,hc0⟩,k0,by rw [hrc];exact hhp c k0 hlt hnw hc0,λi z _ hB=>hB.renu ?_,.inr ⟨hnl,hrc,rfl,hc0⟩⟩
    rcases hrefs with h|h
    .obtain ⟨y,hy,he⟩:=List.any_eq_true.1 h
     exact absurd (by rw [<-Nat.eq_of_beq_eq_true he];exact hy) (hnl y.2)
    .exact refok h
  have hwrT:∀c,S0.ro<=c->S1.ro<=zaQ ren c:=λc hc=>by
   rw [hro]
   by_cases e:zaQ ren c=c
   .rw [e];exact hc
   .rcases (renfl c e).2.1 with h|h
    .omega
    .exact h.1
  -- the rows that elements own
  have hsub:∀c v e e' l,(zc0 S0 b slots blks).hp.get c=some (.own v e e' l)->(∃r:List D,D.list r∈l)->live c/\∃w e1 e1',S1.hp.get (zaQ ren c)=some (.own w e1 e1' l)/\e1'=e'/\(∀j,f (.sub v j)= .sub w j)/\∀j,O2 (.sub v j)=O (.sub w j):=λc v e e' l hc hlr=>by
   obtain ⟨hok,k,hk,_,hcase⟩:=hblk c _ hc
   refine ⟨hok, ?_⟩
   rcases hcase with ⟨hm,hmk⟩| ⟨hnl,hrc,rfl,hc0⟩
   .cases k with
    |own w e1 e1' l1=>
     have hmk:cond (Nat.beq e1 e&&Nat.beq e1' e') (l1=l) False:=hmk
     cases hee:(Nat.beq e1 e&&Nat.beq e1' e') with
     |false=>rw [hee] at hmk;exact hmk.elim
     |true=>
      rw [hee] at hmk
      have hll:l1=l:=hmk
      subst hll
      simp only [Bool.and_eq_true] at hee
      have hold:=old_eq v w ⟨c,e,e',l1,e1,e1',l1,hm,hk⟩
      refine ⟨w,e1,e1',hk,Nat.eq_of_beq_eq_true hee.2,λj=> ?_,λj=> ?_⟩
      .show (if li v then Bid.sub (old v) j else _)=_
       rw [if_pos (show li v from ⟨c,e,e',l1,hm⟩),hold]
      .exact hownS c _ _ hm hk _ _ _ _ _ _ _ _ rfl rfl j
    |lp _ _ _ _ _ _ _=>exact (show False from hmk).elim
    |dfr=>exact (show False from hmk).elim
    |arr e1 l1=>
     have hmk:cond (Nat.beq e1 e) (l1=l/\zdl l1) False:=hmk
     cases hee:Nat.beq e1 e with
     |false=>rw [hee] at hmk;exact hmk.elim
     |true=>
      rw [hee] at hmk
      obtain ⟨hll,hnil⟩:=hmk
      subst hll
      obtain ⟨r,hr1⟩:=hlr
      have:=hnil.out _ hr1;cases this
    |box _ _=>exact hmk.elim
    |grd _ _ _=>exact hmk.elim
   .have hv:=(hdom0 _ _ hc0).2 _ _ _ _ rfl
    refine ⟨v,e,e',hk,rfl,λj=> ?_,λj=>ν2sub v j hv⟩
    show (if li v then Bid.sub (old v) j else _)=_
    rw [if_neg (notli v hv)]
  have hversH:zki (zc0 S0 b slots blks):=by
   refine ⟨λc c' v e1 e2 l e3 e4 l' q1 q2=> ?_,λc v e e' l q=> ?_⟩
   .obtain ⟨_,k,hk,_,h1⟩:=hblk c _ q1
    obtain ⟨_,k',hk',_,h2⟩:=hblk c' _ q2
    rcases h1 with ⟨m1,_⟩| ⟨_,r1,rfl,s1⟩<;>rcases h2 with ⟨m2,_⟩| ⟨_,r2,rfl,s2⟩
    .exact (ownge _ _ _ _ _ m2).2 _ _ _ _ m1
    .have:=(ownge _ _ _ _ _ m1).1;have:=(hdom0 _ _ s2).2 _ _ _ _ rfl;omega
    .have:=(ownge _ _ _ _ _ m2).1;have:=(hdom0 _ _ s1).2 _ _ _ _ rfl;omega
    .rw [r1] at hk;rw [r2] at hk'
     exact hr.vers.1 _ _ _ _ _ _ _ _ _ hk hk'
   .obtain ⟨_,k,hk,_,h1⟩:=hblk c _ q
    rcases h1 with ⟨m1,_⟩| ⟨_,r1,rfl,s1⟩
    .exact hidv _ _ _ _ _ m1
    .have:=(hdom0 _ _ s1).2 _ _ _ _ rfl;omega
  have hmkN:MkN O2 (zc0 S0 b slots blks).mks F.marks:=by
   show MkN O2 S0.mks F.marks
   unfold mkM at c6
   simp only [Bool.and_eq_true] at c6
   have:=hr.mks
   rw [zn0 c6.1] at this
   refine this.imp λc i z hc hν=> ?_
   have h1:=List.all_eq_true.1 c6.2 c hc
   simp only [Bool.and_eq_true] at h1
   have h2:c<S0.nx:=by
    have h3:=h1.1.1
    unfold zpw at h3
    split at h3
    .exact (hdom0 c _ (by assumption)).1
    .cases h3
   rw [ν2ok c (.inl h2),Nat.eq_of_beq_eq_true h1.1.2]
   exact hν
  refine ⟨O2,hr.remap ?_ hsz.symm f ?_ ?_ ?_ ?_ ?_ hversH hmkN, ?_⟩
  .intro t v hv
   rcases zcS slots (zbF (zal b) S0.fr) t with ⟨v0,h1,h2⟩| ⟨h1,h2⟩
   .have:v0=v:=by have:=h2.symm.trans hv;exact Option.some.inj this
    subst this
    obtain ⟨u,hu,hcase⟩:=zj0 hs t v0 h1
    have huv:=hr.fr t u hu
    rcases hcase with ⟨b1,o,n,c,b0,o0,n0,c0,rfl,rfl,hrb,hmv⟩| ⟨hns,hmv⟩
    .refine zgO hmv huv ?_
     -- the block is listed
     have:(b0,b1)∈ren:=by
      rw [<-hren];exact List.mem_append_left _ (zml h1 hu)
     obtain ⟨y,hy,he⟩:=List.any_eq_true.1 (List.all_eq_true.1 d1 _ this)
     have hy1:y.1=b0:=Nat.eq_of_beq_eq_true he
     rw [ν2ok b0 (.inr ⟨y.2,by rw [<-hy1];exact hy⟩),hrb]
    .refine zfv hmv huv hns (refok ?_)
     have:=List.all_eq_true.1 d6 _ h1
     split at this
     .rename_i b0 o0 n0 c0 heq;exact absurd heq (hns _ _ _ _)
     .exact this
   .have hcl:(zbF (zal b) S0.fr).get t=some v:=h2.symm.trans hv
    have hcl2:=hcl
    rw [zdm] at hcl
    split at hcl
    .cases hcl
    .rename_i hnw
     have h1t:S1.fr.get t=some v:=by rw [hsame t hnw];exact hcl
     exact (hr.fr t v h1t).renu (refok (T.all_get _ _ d4 t v hcl2))
  .intro x k' hx
   cases x with
   |top c=>
    obtain ⟨hok,k,hk,hB,_⟩:=hblk c k' hx
    exact ⟨k,hk,ν2ok c (liveok c hok),λhw=>hwrT c hw,hB⟩
   |sub v j=>
    obtain ⟨c,e,e',l,r,h1,h2,h3⟩:=hx
    obtain ⟨hok,w,e1,e1',hk,rfl,hf,hn⟩:=hsub c v e e' l h1 ⟨r,List.mem_of_getElem? h2⟩
    refine ⟨k', ?_, ?_,λhw=> ?_,λi z _ hB=> ?_⟩
    .rw [hf];exact ⟨zaQ ren c,e1,e1',l,r,hk,h2,h3⟩
    .rw [hf];exact hn j
    .rw [hf]
     obtain ⟨c2,a1,a2,a3,w1,w2⟩:=hw
     have:c2=c:=hversH.1 _ _ _ _ _ _ _ _ _ w1 h1
     subst this
     exact ⟨zaQ ren c2,e1,e1',l,hk,hwrT c2 w2⟩
    .subst h3;exact hB.renu (λx hx=>by simp [SB.refs] at hx)
  .intro x x' k k' h h' he
   cases x with
   |top c=>
    cases x' with
    |top c'=>
     obtain ⟨o1,_⟩:=hblk c k h
     obtain ⟨o2,_⟩:=hblk c' k' h'
     rw [renInj c c' o1 o2 (Bid.top_inj he)]
    |sub v j=>
     have he':Bid.top (zaQ ren c)=(if li v then Bid.sub (old v) j else Bid.sub v j):=he
     split at he'<;>cases he'
   |sub v j=>
    cases x' with
    |top c=>
     have he':(if li v then Bid.sub (old v) j else Bid.sub v j)=Bid.top (zaQ ren c):=he
     split at he'<;>cases he'
    |sub v' j'=>
     obtain ⟨c,e,e',l,r,h1,h2,h3⟩:=h
     obtain ⟨c',e2,e2',l',r',h1',h2',h3'⟩:=h'
     obtain ⟨hok,w,e1,e1',hk,_,hf,_⟩:=hsub c v e e' l h1 ⟨r,List.mem_of_getElem? h2⟩
     obtain ⟨hok',w',f1,f1',hk',_,hf',_⟩:=hsub c' v' e2 e2' l' h1' ⟨r',List.mem_of_getElem? h2'⟩
     rw [hf,hf'] at he
     cases he
     have:=renInj c c' hok hok' (hr.vers.1 _ _ _ _ _ _ _ _ _ hk hk')
     subst this
     rw [h1] at h1';cases h1'
     rfl
  .intro x i z h
   cases x with
   |top c=>exact hr.lt _ i z (ν2some c _ h).2
   |sub v j=>
    have h':(if li v then O (.sub (old v) j) else if v<S0.nx then O (.sub v j) else none)=some (i,z):=h
    split at h'
    .exact hr.lt _ _ _ h'
    .split at h'
     .exact hr.lt _ _ _ h'
     .cases h'
  .intro x hx
   cases x with
   |top c=>
    have hx':(zc0 S0 b slots blks).nx<=c:=hx
    refine ν2no c λhok=> ?_
    rcases hok with h| ⟨k,h⟩
    .omega
    .have:=hidk c k h;omega
   |sub v j=>
    have hx':(zc0 S0 b slots blks).nx<=v:=hx
    show (if li v then O (.sub (old v) j) else if v<S0.nx then O (.sub v j) else none)=none
    rw [if_neg (λ⟨c,e,e',l,hm⟩=>by have:=hidv _ _ _ _ _ hm;omega),if_neg (by omega)]
  .show S0.ro<=(zc0 S0 b slots blks).nx
   omega
  .intro x hx
   cases x with
   |top c=>
    have hc:c<S0.fl:=hx
    have hcn:c<S0.nx:=by omega
    rw [ν2ok c (.inl hcn)]
    by_cases e:zaQ ren c=c
    .rw [e]
    .have:=(renfl c e).1;omega
   |sub v j=>
    have hc:v<S0.fl:=hx
    exact ν2sub v j (by omega)
def zvT (P:Program) (srun:Code->SS->SQ->Prop) (run:Run):Prop:= ∀(rd:Option Nat) c S Q,(rd=none\/zbn c=true)->srun c S Q->S.fl<=S.nx->∀base H0 O J F H,SR P base H0 O J S F H->
 ∃e F' H',run rd c F H=some (e,F',H')/\∃S' O' J',Q e S'/\SR P base H0 O' J' S' F' H'/\XNn S.fl O O'/\XS J J'/\zaz S S'/\zdg (zal c) S S'
theorem zmh {p:Nat->Prop}:∀{n:Nat},orN n p->∃i,i<n/\p i
 |0,h=>h.elim
 |1,h=>⟨0,Nat.zero_lt_one,h⟩
 |n+2,h=>by
  rcases h with h|h
  .obtain ⟨i,h1,h2⟩:=zmh h;exact ⟨i,by omega,h2⟩
  .exact ⟨n+1,by omega,h⟩
theorem zhN {p:Nat->Prop}:∀{n:Nat},zvW n p->∀i,i<n->p i
 |0,_,i,h=>by omega
 |1,h,i,hi=>by have:i=0:=by omega
               subst this;exact h
 |n+2,h,i,hi=>by
  rcases Nat.lt_or_ge i (n+1) with h1|h1
  .exact zhN h.1 i h1
  .have:i=n+1:=by omega
   subst this;exact h.2
theorem SR.wr {S:SS} (hr:SR P base H0 O J S F H) (w:List Nat):SR P base H0 O J {S with wr:=w} F H:=by
 have hat:∀x k,At {S with wr:=w} x k->At S x k:=λx k h=>by cases x<;>exact h
 have hwr:∀x,Wr {S with wr:=w} x->Wr S x:=λx h=>by cases x<;>exact h
 exact hr.remap hr.fr rfl (λx=>x) (λx k h=>⟨k,hat x k h,rfl,hwr x,λ_ _ _ h=>h⟩) (λ_ _ _ _ _ _ he=>he) hr.lt hr.dom hr.role hr.vers hr.mks
theorem SR.hpdom {S:SS} (hr:SR P base H0 O J S F H):∀c k,S.hp.get c=some k->c<S.nx/\∀v e e' l,k= .own v e e' l->v<S.nx:=λc k h=>by
 obtain ⟨i,z,h1,_⟩:=hr.blkT c k h
 refine ⟨?_,λv e e' l he=>hr.vers.2 c v e e' l (by rw [<-he];exact h)⟩
 rcases Nat.lt_or_ge c S.nx with hl|hl
 .exact hl
 .rw [hr.dom (.top c) hl] at h1;cases h1
theorem zek {S0 S1:SS} {b:Code} {slots:List (Tmp×V)} {blks:List (Nat×SB)} (hm:zfH S0 S1 b slots blks):(∀y,y∈blks->S0.ro<=y.1)/\∀x,x∈slots->x.1∈zal b:=by
 unfold zfH at hm
 cases hc:(zgc S0 blks S1.wr&&blks.all (λy=>Nat.ble S0.ro y.1)&&slots.all (λx=>(zal b).any λt=>Nat.beq t x.1)&&zsr S0 (zkX S1 slots blks) blks slots (zbF (zal b) S0.fr)&&zu6 S0 blks&&mkM S0 S1 (zkX S1 slots blks) blks) with
 |false=>rw [hc] at hm;exact hm.elim
 |true=>
  simp only [Bool.and_eq_true] at hc
  refine ⟨λy hy=>Nat.le_of_ble_eq_true (List.all_eq_true.1 hc.1.1.1.1.2 y hy),λx hx=> ?_⟩
  obtain ⟨t,h1,h2⟩:=List.any_eq_true.1 (List.all_eq_true.1 hc.1.1.1.2 x hx)
  rw [<-Nat.eq_of_beq_eq_true h2];exact h1
theorem zpn {S:SS} {b:Code} {slots:List (Tmp×V)} {blks:List (Nat×SB)} (hsl:∀x,x∈slots->x.1∈zal b):zdg (zal b) S (zc0 S b slots blks):=λt ht=>by
 rcases zcS slots (zbF (zal b) S.fr) t with ⟨v,h1,_⟩| ⟨_,h2⟩
 .exact absurd (hsl _ h1) ht
 .show (zd7 slots (zbF (zal b) S.fr)).get t=_
  rw [h2,zdm,if_neg ht]
theorem zh2 {S:SS} {b:Code} {slots:List (Tmp×V)} {blks:List (Nat×SB)} {c:Nat} (hc:c∉blks.map (·.1)):(zc0 S b slots blks).hp.get c=S.hp.get c:=by
 rcases zcS blks S.hp c with ⟨v,h1,_⟩| ⟨_,h2⟩
 .exact absurd (List.mem_map.2 ⟨_,h1,rfl⟩) hc
 .exact h2
theorem zeK:∀(l:List Nat) (t:T SB) (c:Nat),(zjG l t).get c=if c∈l then none else t.get c
 | [],t,c=>by simp [zjG]
 |b::l,t,c=>by
  unfold zjG
  rw [zeK l,T.get_put]
  by_cases h1:c∈l<;>by_cases h2:c=b<;>simp [h1,h2]
theorem zl9 {l:List Nat} {S:SS} {c:Nat} {k:SB} (h:(zjF l S).hp.get c=some k):S.hp.get c=some k:=by
 have h':(zjG l S.hp).get c=some k:=h
 rw [zeK] at h'
 split at h'
 .cases h'
 .exact h'
theorem zkJ {l:List Nat} {S:SS} (h:(l.all λb=>Nat.ble S.ro b)=true):zaz S (zjF l S):=by
 refine ⟨Nat.le_refl _,rfl,rfl,rfl,λb hb=>List.mem_append_right _ hb,λb _ hn=> ?_,λb hb _=> ?_⟩
 .show (zjG l S.hp).get b=_
  rw [zeK,if_neg λhm=>hn (List.mem_append_left _ hm)]
 .show (zjG l S.hp).get b=_
  rw [zeK,if_neg λhm=> ?_]
  have:=Nat.le_of_ble_eq_true (List.all_eq_true.1 h b hm);omega
theorem znA {rd:Option Nat} {A:Ann} {ih:Code->SS->SQ->Prop} {run:Nat->Run} {P':Program} {G:Msk} {out:Run} {N:Nat} (hstep:∀k,run (k+1)=zb7 P' G out (run k)) (hih:∀k,N<=k->zvT P ih (run k)) {b:Code} {S:SS} {Q:SQ} (hnr:rd=none\/zbn b=true) (hfl:S.fl<=S.nx) (hro:S.ro<=S.nx) (hpd:∀c k,S.hp.get c=some k->c<S.nx/\∀v e e' l,k= .own v e e' l->v<S.nx)
  (hbody:zvW A.hs λi=>∀x,A.inv S i x->A.meas S i x<LIM/\ih b (zc0 S b (A.slots S i x) (A.blks S i x)) λe S1=>
   match e with
   | .normal=>orN A.hs λi'=>∃y,A.inv S i' y/\A.meas S i' y<A.meas S i x/\zfH S {S1 with wr:=S1.wr++(A.blks S i x).map (·.1)} b (A.slots S i' y) (A.blks S i' y)
   |e=>Q e {S1 with wr:=S1.wr++((A.blks S i x).map (·.1)++S.wr)}):
  ∀(n i:Nat) (x:A.τ),i<A.hs->A.inv S i x->A.meas S i x<=n->(∀y,y∈A.blks S i x->S.ro<=y.1)->(∀y,y∈A.slots S i x->y.1∈zal b)->∀k,N+n+1<=k->∀base H0 O J F H,SR P base H0 O J (zc0 S b (A.slots S i x) (A.blks S i x)) F H->
   ∃e F' H',run k rd (.loop b) F H=some (e,F',H')/\∃S' O' J',Q e S'/\SR P base H0 O' J' S' F' H'/\XNn S.fl O O'/\XS J J'/\zaz S S'/\zdg (zal b) S S':=by
 intro n
 induction n using Nat.strongRecOn with
 |ind n ihn=>
  intro i x hi hinv hm hbro hsl k hk base H0 O J F H hr
  obtain ⟨k0,rfl⟩:∃k0,k=k0+1:=⟨k-1,by omega⟩
  obtain ⟨hlim,hb⟩:=zhN hbody i hi x hinv
  have hnx:S.nx<=(zc0 S b (A.slots S i x) (A.blks S i x)).nx:=(zdN _ _).1
  obtain ⟨e1,F1,H1,hrun,S1,O1,J1,hq,hr1,hxn1,hxs1,hk1,hs1⟩:=hih k0 (by omega) rd _ _ _ hnr hb (Nat.le_trans hfl hnx) _ _ _ _ _ _ hr
  have hsame:zdg (zal b) S S1:=(zpn hsl).trans hs1
  have hhp:∀c,c<S.nx->c∉S1.wr->c∉(A.blks S i x).map (·.1)->S1.hp.get c=S.hp.get c:=λc hc h1 h2=>(hk1.hp c (Nat.lt_of_lt_of_le hc hnx) h1).trans (zh2 h2)
  have hstp:run (k0+1) rd (.loop b) F H=(match (generalizing:=false) e1 with| .normal=>run k0 rd (.loop b) F1 H1|e=>some (e,F1,H1)):=by
   rw [hstep]
   show zdY (run k0) rd b (.loop b) F H=_
   unfold zdY
   rw [hrun]
   cases e1<;>rfl
  rw [hstp]
  have fin:(∀(h:e1≠ .normal),Q e1 {S1 with wr:=S1.wr++((A.blks S i x).map (·.1)++S.wr)}->∃e F' H',some (e1,F1,H1)=some (e,F',H')/\∃S' O' J',Q e S'/\SR P base H0 O' J' S' F' H'/\XNn S.fl O O'/\XS J J'/\zaz S S'/\zdg (zal b) S S'):=by
   intro _ hq
   refine ⟨e1,F1,H1,rfl,_,O1,J1,hq,hr1.wr _,hxn1,hxs1,⟨Nat.le_trans hnx hk1.nx,hk1.sz,hk1.ro,hk1.fl,λc hc=>by simp [hc],λc hc hn=> ?_,λc hc hcn=> ?_⟩,hsame⟩
   .simp only [List.mem_append,not_or] at hn
    exact hhp c hc hn.1 hn.2.1
   .have h1:=hk1.rb c hc (Nat.lt_of_lt_of_le hcn hnx)
    refine h1.trans (zh2 λhmem=> ?_)
    obtain ⟨y,hy,rfl⟩:=List.mem_map.1 hmem
    have:=hbro y hy;omega
  cases e1 with
  |normal=>
   simp only at hq⊢
   obtain ⟨i',hi',y,hinv',hmeas,hmt⟩:=zmh hq
   obtain ⟨cb,cs⟩:=zek hmt
   obtain ⟨O2,hr2,hxn2⟩:=zh9 (S0:=S) (hr1.wr (S1.wr++(A.blks S i x).map (·.1))) (hk1.sz) (hk1.ro) (Nat.le_trans hnx hk1.nx) hfl hsame
    (λc k hc hn hk=>by simp only [List.mem_append,not_or] at hn;exact (hhp c hc hn.1 hn.2).trans hk) hpd hro hmt
   obtain ⟨e,F',H',h1,S',O',J',h2,h3,h4,h5,h6,h7⟩:=ihn (A.meas S i' y) (by omega) i' y hi' hinv' (Nat.le_refl _) cb cs k0 (by omega) base H0 O2 J1 F1 H1 hr2
   exact ⟨e,F',H',h1,S',O',J',h2,h3,(hxn1.trans hxn2 (Nat.le_refl _)).trans h4 (Nat.le_refl _),hxs1.trans h5,h6,h7⟩
  |exit id=>exact fin (by simp) hq
  |ret=>exact fin (by simp) hq
theorem zns {C:Ctx} {S:SS} {c:Operand} {yes no:SS->Prop} (hr:SR C.P base H0 O J S F H) (h:zld S c yes no):
  ∃S' t,zah F c= .bool t/\SR C.P base H0 O J S' F H/\zaz S S'/\zdg (zuh c) S S'/\(cond t (yes S') (no S')):=by
 unfold zld at h
 split at h
 .rename_i t
  split at h
  .rename_i b hv
   have hvr:=hr.fr t _ hv
   have hb:F.get t= .bool b:=by generalize F.get t=x at hvr;cases hvr;rfl
   exact ⟨S,b,hb,hr,.refl _,.refl _ _,h⟩
  .rename_i p hv
   have hvr:=hr.fr t _ hv
   have hb:F.get t= .bool (dec p):=by generalize F.get t=x at hvr;cases hvr;rfl
   have same:∀(u:V),zdg [t] S {S with fr:=S.fr.put t (some u)}:=λu t' ht=>by
    show (S.fr.put t (some u)).get t'=_
    rw [T.get_put,if_neg (λe=>ht (by simp [e]))]
   by_cases hp:p
   .have hd1:=zb1 hp
    exact ⟨_,true,by show F.get t=_;rw [hb,hd1],hr.setFr (v:= .val (.bool true)) (by rw [hb,hd1];exact .val rfl),.fr _ _,same _,h.1 hp⟩
   .have hd1:=zbp hp
    exact ⟨_,false,by show F.get t=_;rw [hb,hd1],hr.setFr (v:= .val (.bool false)) (by rw [hb,hd1];exact .val rfl),.fr _ _,same _,h.2 hp⟩
  .exact h.elim
 .rename_i b;exact ⟨S,b,rfl,hr,.refl _,.refl _ _,h⟩
 .exact h.elim
theorem zaz.fle {S S':SS} (h:zaz S S') (hf:S.fl<=S.nx):S'.fl<=S'.nx:=by rw [h.fl];exact Nat.le_trans hf h.nx
theorem znz {rd:Option Nat} {A:Ann} {ih:Code->SS->SQ->Prop} {run:Nat->Run} {P':Program} {G:Msk} {out:Run} {N:Nat} (hstep:∀k,run (k+1)=zb7 P' G out (run k)) (hih:∀k,N<=k->zvT P ih (run k)) (k0:Nat) (hN:N<=k0) {z:List (Tmp×TypeId)×List (Tmp×Nat×TypeId)} {a b:Code} {S:SS} {Q:SQ} {F:zab} (hnr:rd=none\/zbn (.seq a b)=true) (hfl:S.fl<=S.nx)
  (hr:SR P base H0 O J S F H) (h:zqM P z A ih a b S Q):
  ∃e F' H',zb7 P' G out (run k0) rd (.seq a b) F H=some (e,F',H')/\∃S' O' J',Q e S'/\SR P base H0 O' J' S' F' H'/\XNn S.fl O O'/\XS J J'/\zaz S S'/\zdg (zal (.seq a b)) S S':=by
 obtain ⟨hA,hB⟩:=h
 obtain ⟨e1,F1,H1,h1,S1,O1,J1,hq,hr1,hx1,hs1,hk1,hf1⟩:=hih k0 hN rd _ _ _ (hnr.imp id λh=>(Bool.and_eq_true_iff.1 h).1) hA hfl _ _ _ _ _ _ (hr.wr [])
 have hfa:zdg (zal a) S S1:=hf1
 show ∃e F' H',zdY (run k0) rd a b F H=some (e,F',H')/\_
 unfold zdY
 rw [h1]
 have fin:Q e1 {S1 with wr:=S1.wr++S.wr}->∃e F' H',some (e1,F1,H1)=some (e,F',H')/\∃S' O' J',Q e S'/\SR P base H0 O' J' S' F' H'/\XNn S.fl O O'/\XS J J'/\zaz S S'/\zdg (zal (.seq a b)) S S':=λhq=>
  ⟨e1,F1,H1,rfl,_,O1,J1,hq,hr1.wr _,hx1,hs1,⟨hk1.nx,hk1.sz,hk1.ro,hk1.fl,λc hc=>by simp [hc],λc hc hn=>by
   simp only [List.mem_append,not_or] at hn
   exact hk1.hp c hc hn.1,λc hc hcn=>hk1.rb c hc hcn⟩,hfa.mono λt ht=>by simp only [zal,List.mem_append];exact .inl ht⟩
 cases e1 with
 |normal=>
  simp only at hq⊢
  obtain ⟨S1a,σ1a,hq,hr1,hxa,hka,_,hsa⟩:=zdS _ hr1 hq
  obtain ⟨S1,J1,hq,fz⟩:=zhF _ hr1 hq
  have hr1:=fz.1
  have hs1:=(hs1.trans hxa).trans fz.2.1
  have hk1:=(hk1.trans hka).trans fz.2.2.2.2
  have hfa:zdg (zal a) S S1:=(hfa.trans hsa).trans (λt _=>by rw [fz.2.2.1])
  obtain ⟨i,hi,x,hinv,hmt⟩:=zmh hq
  obtain ⟨cb,cs⟩:=zek hmt
  obtain ⟨O2,hr2,hxn2⟩:=zh9 (S0:=S) hr1 hk1.sz hk1.ro hk1.nx hfl hfa (λc _ hc hn hk=>(hk1.hp c hc hn).trans hk) hr.hpdom hr.role hmt
  have hnx:S.nx<=(zc0 S a (A.slots S i x) (A.blks S i x)).nx:=(zdN _ _).1
  obtain ⟨e2,F2,H2,h2,S2,O3,J2,hq2,hr3,hx3,hs2,hk2,hf2⟩:=hih k0 hN rd _ _ _ (hnr.imp id λh=>(Bool.and_eq_true_iff.1 h).2) (zhN hB i hi x hinv) (Nat.le_trans hfl hnx) _ _ _ _ _ _ hr2
  refine ⟨e2,F2,H2,h2,_,O3,J2,hq2,hr3.wr _,(hx1.trans hxn2 (Nat.le_refl _)).trans hx3 (Nat.le_refl _),hs1.trans hs2,⟨Nat.le_trans hnx hk2.nx,hk2.sz,hk2.ro,hk2.fl,λc hc=>by simp [hc],λc hc hn=> ?_,λc hc hcn=> ?_⟩, ?_⟩
  .simp only [List.mem_append,not_or] at hn
   exact (hk2.hp c (Nat.lt_of_lt_of_le hc hnx) hn.1).trans (zh2 hn.2.1)
  .refine (hk2.rb c hc (Nat.lt_of_lt_of_le hcn hnx)).trans (zh2 λhmem=> ?_)
   obtain ⟨y,hy,rfl⟩:=List.mem_map.1 hmem
   have:=cb y hy;omega
  .refine zdg.trans ((zpn cs).mono λt ht=> ?_) (hf2.mono λt ht=> ?_)
   .simp only [zal,List.mem_append];exact .inl ht
   .simp only [zal,List.mem_append];exact .inr ht
 |exit id=>exact fin hq
 |ret=>exact fin hq
theorem zlo {C:Ctx} {G:Msk} {sout:zdW} {out:Run} (E:Env C G sout out) {g:FuncId} {f:Operand} {ps:Array Tmp} {as bd:Code} {S:SS} {Q:SQ} {run:Run} (hfl:S.fl<=S.nx) (hr:SR C.P base H0 O J S F H) (h:ziN C sout g f ps as bd S Q):
  ∃e F' H',zb7 C.P G out run none (.rangeFunc f ps as bd) F H=some (e,F',H')/\∃S' O' J',Q e S'/\SR C.P base H0 O' J' S' F' H'/\XNn S.fl O O'/\XS J J'/\zaz S S'/\zdg (zal (.rangeFunc f ps as bd)) S S':=by
 unfold ziN at h
 obtain ⟨fv,h,hfv⟩:=zau hr h
 show ∃e F' H',zfe C.P G out none (zah F f) ps as bd F H=some (e,F',H')/\_
 split at h
 .rename_i gf first cap
  generalize hq:zah F f=fq at hfv
  cases hfv with
  |fn h1 h2 h3 h4=>
   rename_i fs' cs'
   have hA:=hr.allocB (k:= .dfr) (z:=0) (bk:= .deferred) (λ_ _=>rfl) (λ_ _ _ _ _ e=>by cases e)
   have hxA:=zxF hr 0
   have hB:=hA.allocB (k:= .lp .ready g S.fr S.sz ps as bd) (z:=0) (bk:= .loop .ready none F ps as bd) (λO' hx'=>⟨F,rfl,hr.fsz.symm,by rw [hr.fsz];exact hr.top,λt v ht=>(hr.fr t v ht).mono (.refl _) (hxA.trans hx')⟩) (λ_ _ _ _ _ e=>by cases e)
   have hxB:=zxF hA 0
   have hL:zaN C.P J _ (first++ .yld (Nat.succ S.nx)::cap) (fs'++ .func (.yield (H.next+1)) #[] #[]::cs'):=
    zaN.append (zaN.mono (⟨h1,h2⟩:zaN C.P J O first fs') (.refl _) (hxA.trans hxB)) (.cons (.yld (b:=Nat.succ S.nx) (z:=0) (if_pos rfl)) (zaN.mono (⟨h3,h4⟩:zaN C.P J O cap cs') (.refl _) (hxA.trans hxB)))
   obtain ⟨v',h2',hcall,v,S3,O3,J3,hq3,hr3,_,hxn3,hxs3,hfr3,hk3⟩:=zgj E.fast E.bits E.hrun hB h hL
   have harr:(⟨fs'⟩++ #[Value.func (.yield (H.next+1)) #[] #[]]++⟨cs'⟩:Array Value)=⟨fs'++ .func (.yield (H.next+1)) #[] #[]::cs'⟩:=Array.toList_inj.1 (by simp)
   have hnL:(H.alloc .deferred).next=H.next+1:=rfl
   have hevr:zfe C.P G out none (.func (.func gf) ⟨fs'⟩ ⟨cs'⟩) ps as bd F H=(match h2'.get (H.next+1) with
     |some (.loop .ready none _ _ _ _)=>some (.normal,{F with marks:= .col H.next::F.marks},h2'.write (H.next+1) none)
     |some (.loop .done (some .ret) _ _ _ _)=>some (.ret,{F with marks:= .col H.next::F.marks},h2'.write (H.next+1) none)
     |some (.loop .done (some (.exit id)) _ _ _ _)=>some (.exit id,{F with marks:= .col H.next::F.marks},h2'.write (H.next+1) none)
     |_=>none):=by
    simp only [zfe,zeD,zaO,hnL]
    rw [harr]
    have:zci C.P G out gf ⟨fs'++ .func (.yield (H.next+1)) #[] #[]::cs'⟩ (({H.alloc .deferred with next:=H.next+1}:zaa).alloc (.loop .ready none F ps as bd))=some (v',h2'):=hcall
    rw [this]
    rfl
   rw [hevr]
   cases hro3:Nat.ble S3.ro (Nat.succ S.nx) with
   |false=>rw [hro3] at hq3;exact hq3.elim
   |true=>
    rw [hro3] at hq3
    have hro:=Nat.le_of_ble_eq_true hro3
    have hlt0:(Bid.top S.nx).id<((S.alloc .dfr).alloc (.lp .ready g S.fr S.sz ps as bd)).nx:=Nat.lt_succ_of_lt (Nat.lt_succ_self S.nx)
    have hlt1:(Bid.top (Nat.succ S.nx)).id<((S.alloc .dfr).alloc (.lp .ready g S.fr S.sz ps as bd)).nx:=Nat.lt_succ_self _
    have hνA:O3 (Bid.top S.nx)=some (H.next,0):=by
     rw [hxn3 _ hlt0]
     exact (if_neg (Bid.top_ne (Nat.ne_of_lt (Nat.lt_succ_self S.nx)))).trans (if_pos rfl)
    have hνB:O3 (Bid.top (Nat.succ S.nx))=some (H.next+1,0):=by
     rw [hxn3 _ hlt1]
     exact if_pos rfl
    have fin:∀(st:ztR) (g':FuncId) (fr':T V) (sz':Nat) (ps':Array Tmp) (as' bd':Code) (e:AEx),S3.hp.get (Nat.succ S.nx)=some (.lp st g' fr' sz' ps' as' bd')->Q e {S3.write (Nat.succ S.nx) none with mks:=S.nx::S3.mks}->
      (∃F0,h2'.get (H.next+1)=some (.loop st.st st.pend F0 ps' as' bd'))/\∃S' O' J',Q e S'/\SR C.P base H0 O' J' S' {F with marks:= .col H.next::F.marks} (h2'.write (H.next+1) none)/\XNn S.fl O O'/\XS J J'/\zaz S S'/\zdg (zal (.rangeFunc f ps as bd)) S S':=by
     intro st g' fr' sz' ps' as' bd' e hb3 hQ
     obtain ⟨i,z,hν,F0,hg,_⟩:=hr3.blkT _ _ hb3
     rw [hνB] at hν;cases hν
     have hr4:=hr3.lose hb3 hνB hro (bk:=none) (λ_ _ _ _ _ h=>by cases h)
     rw [zcO hg (λ_ _ _ _ _ e=>by cases e)] at hr4
     have hk4:=(((zaz.alloc S .dfr).trans (zaz.alloc _ (.lp .ready g S.fr S.sz ps as bd))).trans hk3).trans (zaz.write S3 (Nat.succ S.nx) none hro)
     refine ⟨⟨F0,hg⟩,_,O3,J3,hQ,⟨hr4.fr,hr4.fsz,hr4.top,⟨⟨0,hνA⟩,hr4.mks⟩,hr4.blk,hr4.lt,hr4.dom,hr4.inj,hr4.own,hr4.sig,hr4.apart,hr4.mates,hr4.wl,hr4.old,hr4.nxt,hr4.role,hr4.sb,hr4.vers⟩, ?_,hxs3,⟨hk4.nx,hk4.sz,hk4.ro,hk4.fl,hk4.wr,hk4.hp,hk4.rb⟩,λt _=> ?_⟩
     .intro b hb
      have hb':b.id<S.nx:=Nat.lt_of_lt_of_le hb hfl
      rw [hxn3 b (Nat.lt_of_lt_of_le hb' (Nat.le_trans (Nat.le_succ _) (Nat.le_succ _)))]
      exact (if_neg (λe=>by subst e;exact absurd hb' (by simp [Bid.id,SS.alloc]))).trans (if_neg (λe=>by subst e;exact absurd hb' (by simp [Bid.id])))
     .show S3.fr.get t=_
      rw [hfr3];rfl
    simp only [cond_true] at hq3
    split at hq3
    .rename_i hb3
     obtain ⟨⟨F0,hg⟩,hfin⟩:=fin _ _ _ _ _ _ _ _ hb3 hq3
     have hg:h2'.get (H.next+1)=some (.loop .ready none F0 _ _ _):=hg
     rw [hg]
     exact ⟨_,_,_,rfl,hfin⟩
    .rename_i hb3
     obtain ⟨⟨F0,hg⟩,hfin⟩:=fin _ _ _ _ _ _ _ _ hb3 hq3
     have hg:h2'.get (H.next+1)=some (.loop .done (some .ret) F0 _ _ _):=hg
     rw [hg]
     exact ⟨_,_,_,rfl,hfin⟩
    .rename_i hb3
     obtain ⟨⟨F0,hg⟩,hfin⟩:=fin _ _ _ _ _ _ _ _ hb3 hq3
     have hg:h2'.get (H.next+1)=some (.loop .done (some (.exit _)) F0 _ _ _):=hg
     rw [hg]
     exact ⟨_,_,_,rfl,hfin⟩
    .exact hq3.elim
 .exact h.elim
theorem znF {C:Ctx} {G:Msk} {sout:zdW} {out:Run} (E:Env C G sout out) {g:FuncId} {ih:Code->SS->SQ->Prop} {run:Nat->Run} {N:Nat} (hstep:∀k,run (k+1)=zb7 C.P G out (run k)) (hih:∀k,N<=k->zvT C.P ih (run k)):
  ∀k,N+LIM+2<=k->zvT C.P (zlr C sout g ih) (run k):=by
 intro k hk rd c S Q hnr h hfl base H0 O J F H hr
 obtain ⟨k0,rfl⟩:∃k0,k=k0+1:=⟨k-1,by omega⟩
 have hN:N<=k0:=by omega
 unfold zlr at h
 rw [hstep]
 split at h
 .exact ⟨_,F,H,rfl,S,O,J,h,hr,.refl _,.refl _,.refl _,.refl _ _⟩
 .exact ⟨_,F,H,rfl,S,O,J,h,hr,.refl _,.refl _,.refl _,.refl _ _⟩
 .rename_i a b
  split at h
  .skip
   obtain ⟨e1,F1,H1,h1,S1,O1,J1,hq,hr1,hx1,hs1,hk1,hf1⟩:=hih k0 hN rd _ _ _ (hnr.imp id λh=>(Bool.and_eq_true_iff.1 h).1) h hfl _ _ _ _ _ _ hr
   have hfa:zdg (zal (.seq a b)) S S1:=hf1.mono λt ht=>by simp only [zal,List.mem_append];exact .inl ht
   show ∃e F' H',zdY (run k0) rd a b F H=some (e,F',H')/\_
   unfold zdY
   rw [h1]
   cases e1 with
   |normal=>
    simp only at hq⊢
    obtain ⟨e2,F2,H2,h2,S2,O2,J2,hq2,hr2,hx2,hs2,hk2,hf2⟩:=hih k0 hN rd _ _ _ (hnr.imp id λh=>(Bool.and_eq_true_iff.1 h).2) hq (hk1.fle hfl) _ _ _ _ _ _ hr1
    rw [hk1.fl] at hx2
    exact ⟨e2,F2,H2,h2,S2,O2,J2,hq2,hr2,hx1.trans hx2 (Nat.le_refl _),hs1.trans hs2,hk1.trans hk2,hfa.trans (hf2.mono λt ht=>by simp only [zal,List.mem_append];exact .inr ht)⟩
   |exit id=>exact ⟨_,F1,H1,rfl,S1,O1,J1,hq,hr1,hx1,hs1,hk1,hfa⟩
   |ret=>exact ⟨_,F1,H1,rfl,S1,O1,J1,hq,hr1,hx1,hs1,hk1,hfa⟩
  .rename_i A _
   exact znz hstep hih k0 hN hnr hfl hr h
 .rename_i c a b
  obtain ⟨S1,t,hc,hr1,hk1,hf1,h⟩:=zns hr h
  show ∃e F' H',zlU (run k0) rd (zah F c) a b F H=some (e,F',H')/\_
  rw [hc]
  have hcw:∀t,t∈zuh c->t∈zal (.cond c a b):=λt ht=>by simp only [zal,List.mem_append];exact .inl ht
  cases t with
  |true=>
   obtain ⟨e2,F2,H2,h2,S2,O2,J2,hq2,hr2,hx2,hs2,hk2,hf2⟩:=hih k0 hN rd _ _ _ (hnr.imp id λh=>(Bool.and_eq_true_iff.1 h).1) h (hk1.fle hfl) _ _ _ _ _ _ hr1
   rw [hk1.fl] at hx2
   exact ⟨e2,F2,H2,h2,S2,O2,J2,hq2,hr2,hx2,hs2,hk1.trans hk2,(hf1.mono hcw).trans (hf2.mono λt ht=>by simp only [zal,List.mem_append];exact .inr (.inl ht))⟩
  |false=>
   obtain ⟨e2,F2,H2,h2,S2,O2,J2,hq2,hr2,hx2,hs2,hk2,hf2⟩:=hih k0 hN rd _ _ _ (hnr.imp id λh=>(Bool.and_eq_true_iff.1 h).2) h (hk1.fle hfl) _ _ _ _ _ _ hr1
   rw [hk1.fl] at hx2
   exact ⟨e2,F2,H2,h2,S2,O2,J2,hq2,hr2,hx2,hs2,hk1.trans hk2,(hf1.mono hcw).trans (hf2.mono λt ht=>by simp only [zal,List.mem_append];exact .inr (.inr ht))⟩
 .rename_i id b
  obtain ⟨e1,F1,H1,h1,S1,O1,J1,hq,hr1,hx1,hs1,hk1,hf1⟩:=hih k0 hN rd _ _ _ (by exact hnr) h hfl _ _ _ _ _ _ hr
  show ∃e F' H',zgq (run k0) rd id b F H=some (e,F',H')/\_
  unfold zgq
  rw [h1]
  cases e1 with
  |normal=>exact ⟨_,F1,H1,rfl,S1,O1,J1,hq,hr1,hx1,hs1,hk1,hf1⟩
  |ret=>exact ⟨_,F1,H1,rfl,S1,O1,J1,hq,hr1,hx1,hs1,hk1,hf1⟩
  |exit id'=>
   simp only at hq⊢
   cases hb:Nat.beq id' id with
   |true=>rw [hb] at hq;exact ⟨_,F1,H1,rfl,S1,O1,J1,hq,hr1,hx1,hs1,hk1,hf1⟩
   |false=>rw [hb] at hq;exact ⟨_,F1,H1,rfl,S1,O1,J1,hq,hr1,hx1,hs1,hk1,hf1⟩
 .rename_i b
  split at h
  .rename_i A _
   unfold zqP at h
   cases hdd:(A.dead S).all λb=>Nat.ble S.ro b with
   |false=>rw [hdd] at h;exact h.elim
   |true=>
   rw [hdd] at h
   obtain ⟨hentry,hbody⟩:=h
   obtain ⟨i,hi,x,hinv,hmt⟩:=zmh hentry
   obtain ⟨cb,cs⟩:=zek hmt
   have hpd:∀c k,(zjF (A.dead S) S).hp.get c=some k->c<(zjF (A.dead S) S).nx/\∀v e e' l,k= .own v e e' l->v<(zjF (A.dead S) S).nx:=λc k hk=>hr.hpdom c k (zl9 hk)
   obtain ⟨O2,hr2,hxn2⟩:=zh9 (S0:=zjF (A.dead S) S) (hr.wr []) rfl rfl (Nat.le_refl _) hfl (λt _=>rfl) (λc k _ _ hk=>zl9 hk) hpd hr.role hmt
   obtain ⟨hlim,_⟩:=zhN hbody i hi x hinv
   obtain ⟨e,F',H',h1,S',O',J',h2,h3,h4,h5,h6,h7⟩:=znA (A:={hs:=A.hs,τ:=A.τ,slots:=λ_=>A.slots S,blks:=λ_=>A.blks S,inv:=λ_=>A.inv S,meas:=λ_=>A.meas S}) (S:=zjF (A.dead S) S) hstep hih (by exact hnr) hfl hr.role hpd hbody (A.meas S i x) i x hi hinv (Nat.le_refl _) cb cs (k0+1) (by omega) base H0 O2 J F H hr2
   rw [hstep] at h1
   exact ⟨e,F',H',h1,S',O',J',h2,h3,hxn2.trans h4 (Nat.le_refl _),h5,(zkJ hdd).trans h6,λt ht=>h7 t ht⟩
  .obtain ⟨e1,F1,H1,h1,S1,O1,J1,hq,hr1,hx1,hs1,hk1,hf1⟩:=hih k0 hN rd _ _ _ (by exact hnr) h hfl _ _ _ _ _ _ hr
   show ∃e F' H',zdY (run k0) rd b (.loop b) F H=some (e,F',H')/\_
   unfold zdY
   rw [h1]
   cases e1 with
   |normal=>
    simp only at hq⊢
    obtain ⟨e2,F2,H2,h2,S2,O2,J2,hq2,hr2,hx2,hs2,hk2,hf2⟩:=hih k0 hN rd _ _ _ (by exact hnr) hq (hk1.fle hfl) _ _ _ _ _ _ hr1
    rw [hk1.fl] at hx2
    exact ⟨e2,F2,H2,h2,S2,O2,J2,hq2,hr2,hx1.trans hx2 (Nat.le_refl _),hs1.trans hs2,hk1.trans hk2,hf1.trans hf2⟩
   |exit id=>exact ⟨_,F1,H1,rfl,S1,O1,J1,hq,hr1,hx1,hs1,hk1,hf1⟩
   |ret=>exact ⟨_,F1,H1,rfl,S1,O1,J1,hq,hr1,hx1,hs1,hk1,hf1⟩
 .exact ⟨_,F,H,rfl,S,O,J,h,hr,.refl _,.refl _,.refl _,.refl _ _⟩
 .exact ⟨_,F,H,rfl,S,O,J,h,hr,.refl _,.refl _,.refl _,.refl _ _⟩
 .exact hih k0 hN rd _ _ _ (by exact hnr) h hfl _ _ _ _ _ _ hr
 .rename_i id ops draw
  cases hdd:zcZ ops with
  |true=>rw [hdd] at h;exact h.elim
  |false=>
  rw [hdd] at h
  simp only [cond_false] at h
  obtain ⟨F',H',h1,S',O',J',h2,h3,h4,h5,h6,h7⟩:=zj8 E hr h
  obtain ⟨S2,J2,h2,f2⟩:=zj3 _ h3 h2
  obtain ⟨S3,J3,h2,hr3,hx3,hk3,_,hs3⟩:=zdR _ f2.1 h2
  exact ⟨_,F',H',by simp only [zb7,hdd,cond_false];exact h1,S3,O',J3,h2,hr3,h4.mono hfl,(h5.trans f2.2.1).trans hx3,(h6.trans f2.2.2.2.2).trans hk3,(h7.trans (λt _=>by rw [f2.2.2.1])).trans hs3⟩
 .rename_i f ps as bd
  have hrd:rd=none:=hnr.resolve_right (by simp [zbn])
  subst hrd
  exact zlo E hfl hr h
 .exact h.elim
theorem zsJ {C:Ctx} {G:Msk} {sout:zdW} {out:Run} (E:Env C G sout out) (g:FuncId) (j:Nat):∀k,j*(LIM+2)<=k->zvT C.P (zvr C sout j g) (ze5 C.P G out k):=by
 generalize hL:LIM+2=L
 induction j with
 |zero=>intro k _ rd c S Q _ h;exact h.elim
 |succ j ihj=>
  intro k hk
  rw [Nat.succ_mul] at hk
  refine znF (g:=g) (ih:=zvr C sout j g) (run:=ze5 C.P G out) (N:=j*L) E (λk=>rfl) ihj k (by omega)
theorem zj9 {C:Ctx} {G:Msk} {B:Nat} (hfast:G.fast=false) (hbits:G.bits=C.bits) (hora:G.ora=C.ora) (htab:∀g,zkn C.P (G.tab g) (C.tab g)) (hsrt:G.srt=C.srt) (hsrtC:G.srtC=C.srtC) (hcon:∀d,B<=d->∀g c,C.con g=some c->zev C.P G (ev C.P G d) g c) (hconF:∀d,B<=d->∀ts c,C.conF ts=some c->zi4 C.P G (ev C.P G d) c):∀m d,B+m<=d->ztT C.P (zmK C m) (ev C.P G d)
 |0,_,_=>λ_ _ _ _ _ _ h=>h.elim
 |m+1,d,hd=>by
  obtain ⟨d0,rfl⟩:∃d0,d=d0+1:=⟨d-1,by omega⟩
  intro rd g c S Q hnr h hfl base H0 O J F H hr
  have E:Env C G (zmK C m) (ev C.P G d0):=⟨hfast,hbits,hora,htab,hsrt,hsrtC,zj9 hfast hbits hora htab hsrt hsrtC hcon hconF m d0 (by omega),hcon d0 (by omega),hconF d0 (by omega)⟩
  obtain ⟨e,F',H',h1,S',O',J',h2,h3,h4,h5,h6,_⟩:=zsJ E g 100000 100000000000000000000 (by decide) rd c S Q hnr h hfl base H0 O J F H hr
  exact ⟨e,F',H',h1,S',O',J',h2,h3,h4,h5,h6⟩
theorem zrz {G:Msk} (hfast:G.fast=false) {run:Run} {g:FuncId} {args:Array Value} {n:Nat} {v:Value} {H':zaa} (h:zci P G run g args {H with wlow:=n}=some (v,H')):
  ∃h2:zaa,H'={h2 with wlow:=cond (Nat.ble n h2.wlow) n h2.wlow}/\zci P G run g args H=some (v,{h2 with wlow:=cond (Nat.ble H.wlow h2.wlow) H.wlow h2.wlow}):=by
 unfold zci at h⊢
 split at h
 .rename_i fn hf
  split at h
  .rename_i body hb
   try simp only [hb]
   cases hc:(Nat.blt fn.ntmps args.size||Nat.blt 1000000 fn.ntmps) with
   |true=>rw [hc] at h;cases h
   |false=>
    rw [hc] at h
    simp only [cond_false] at h⊢
    cases hr:run none body (frameOf fn.ntmps args) {t:=H.t,next:=H.next,wlow:=H.next} with
    |none=>rw [hr] at h;cases h
    |some x=>
     obtain ⟨e,F1,h1⟩:=x
     rw [hr] at h
     have key:(match zbd (zhc P G run) h1 F1.marks with|some h2=>(match zaU P h2 F1 fn with|some v=>some (v,zdq G.fast {H with wlow:=n} h2 v)|none=>none)|none=>none)=some (v,H')->
       ∃h2:zaa,H'={h2 with wlow:=cond (Nat.ble n h2.wlow) n h2.wlow}/\(match zbd (zhc P G run) h1 F1.marks with|some h2=>(match zaU P h2 F1 fn with|some v=>some (v,zdq G.fast H h2 v)|none=>none)|none=>none)=some (v,{h2 with wlow:=cond (Nat.ble H.wlow h2.wlow) H.wlow h2.wlow}):=by
      intro h
      split at h
      .rename_i h2 he
       split at h
       .rename_i u hu
        simp only [Option.some.injEq,Prod.mk.injEq] at h
        obtain ⟨rfl,rfl⟩:=h
        refine ⟨h2,by unfold zdq;rw [hfast];rfl, ?_⟩
        unfold zdq;rw [hfast];rfl
       .cases h
      .cases h
     cases e with
     |exit id=>cases h
     |normal=>exact key h
     |ret=>exact key h
  .cases h
 .cases h
theorem zoZ {r:V} (h:r.free=true):r.refs= []:=by
 cases r<;>simp [V.free,V.plain] at h<;>rfl
theorem zlY {f:V->Option (TypeId×D)}:∀(vs:List V) (ts:List TypeId) (ds:List D),zoV f vs=some (ts,ds)->ds.length=ts.length/\vs.length=ts.length/\∀(j:Nat) (v:V) (t:TypeId) (d:D),vs[j]? =some v->ts[j]? =some t->ds[j]? =some d->f v=some (t,d)
 | [],ts,ds,h=>by
  simp only [zoV,Option.some.injEq,Prod.mk.injEq] at h
  obtain ⟨rfl,rfl⟩:=h
  exact ⟨rfl,rfl,λj v t d a _ _=>by simp at a⟩
 |v::vs,ts,ds,h=>by
  simp only [zoV] at h
  split at h
  .rename_i t d ts' ds' h1 h2
   simp only [Option.some.injEq,Prod.mk.injEq] at h
   obtain ⟨rfl,rfl⟩:=h
   obtain ⟨q1,q2,q3⟩:=zlY vs ts' ds' h2
   refine ⟨by simp [q1],by simp [q2],λj u t' d' a b c=> ?_⟩
   cases j with
   |zero=>
    simp only [List.getElem?_cons_zero,Option.some.injEq] at a b c
    subst a;subst b;subst c;exact h1
   |succ j=>exact q3 j u t' d' (by simpa using a) (by simpa using b) (by simpa using c)
  .cases h
theorem zrY {J:Sig} {O:Nu} {t:TypeId} {a b c} {d:D} {v:Value} (hu:P.underlying t=some (.func a b c)) (hs:zaj P t=some 1) {t0:TypeId} (h:zam P J O (.fnd t0 d) v):zan P J t d [v]:=zoW hu hs (v:= .fnd t0 d) rfl h
theorem zam.relab {J:Sig} {O:Nu} {t t0:TypeId} {d:D} {v:Value} (h:zam P J O (.fnd t d) v):zam P J O (.fnd t0 d) v:=by
 cases h with
 |fndN=>exact .fndN
 |fnd a b c d e f=>exact .fnd a b c d e f
theorem zwj {S:SS} (hr:SR P base H0 O J S F H):∀(n:Nat) (v:V) (v':Value) (d:D),fnD P S n v=some d->zam P J O v v'->∀t0:TypeId,zam P (zaW S O J H) (λ_=>none) (.fnd t0 d) v':=by
 intro n
 induction n with
 |zero=>
  intro v v' d h hv t0
  unfold fnD at h
  split at h
  .cases h;exact (zam.relab ((hv.freeR rfl _).mono zba (.refl _)))
  .rename_i he;cases he
  .cases h
 |succ n ih=>
  intro v v' d h hv t0
  unfold fnD at h
  split at h
  .cases h;exact (zam.relab ((hv.freeR rfl _).mono zba (.refl _)))
  .rename_i n0 g caps he
   cases he
   split at h
   .rename_i ts ds hall
    simp only [Option.some.injEq] at h
    subst h
    obtain ⟨q1,q2,q3⟩:=zlY _ _ _ hall
    cases hv with
    |fn h1 h2 h3 h4=>
    rename_i fs' cs'
    have e1:=List.eq_nil_of_length_eq_zero h1.symm
    subst e1
    have hex:∀j:Nat,∃q:Nat×Nat×Nat×Nat×List Value,j<ts.length->(∀v,cs'[j]? =some v->v= .pointer (some ⟨q.1,q.2.1,none⟩))/\zaW S O J H q.1=some (q.2.2.2.2,q.2.2.2.1)/\0<q.2.2.1/\q.2.1+q.2.2.1<=q.2.2.2.2.length/\
      (∀t,ts[j]? =some t->zaj P t=some q.2.2.1)/\∀t d,ts[j]? =some t->ds[j]? =some d->zan P (zaW S O J H) t d ((q.2.2.2.2.drop q.2.1).take q.2.2.1):=by
     intro j
     rcases Nat.lt_or_ge j ts.length with hj|hj
     .have hjc:j<caps.length:=by omega
      have hjd:j<ds.length:=by omega
      have hjv:j<cs'.length:=by omega
      have hq:=q3 j _ _ _ (List.getElem?_eq_getElem hjc) (List.getElem?_eq_getElem hj) (List.getElem?_eq_getElem hjd)
      have hvr:=h4 j _ _ (List.getElem?_eq_getElem hjc) (List.getElem?_eq_getElem hjv)
      have fin:∀(i o s z:Nat) (bs:List Value),cs'[j]= .pointer (some ⟨i,o,none⟩)->zaW S O J H i=some (bs,z)->0<s->o+s<=bs.length->zaj P ts[j]=some s->zan P (zaW S O J H) ts[j] ds[j] ((bs.drop o).take s)->_:=λi o s z bs p1 p2 p3 p4 p5 p6=>
       (⟨(i,o,s,z,bs),λ_=>⟨λv hv=>by rw [List.getElem?_eq_getElem hjv] at hv;cases hv;exact p1,p2,p3,p4,λt ht=>by rw [List.getElem?_eq_getElem hj] at ht;cases ht;exact p5,
        λt d ht hd=>by rw [List.getElem?_eq_getElem hj] at ht;rw [List.getElem?_eq_getElem hjd] at hd;cases ht;cases hd;exact p6⟩⟩:∃q:Nat×Nat×Nat×Nat×List Value,j<ts.length->(∀v,cs'[j]? =some v->v= .pointer (some ⟨q.1,q.2.1,none⟩))/\zaW S O J H q.1=some (q.2.2.2.2,q.2.2.2.1)/\0<q.2.2.1/\q.2.1+q.2.2.1<=q.2.2.2.2.length/\
      (∀t,ts[j]? =some t->zaj P t=some q.2.2.1)/\∀t d,ts[j]? =some t->ds[j]? =some d->zan P (zaW S O J H) t d ((q.2.2.2.2.drop q.2.1).take q.2.2.1))
      generalize caps[j]=cv at hq hvr
      generalize cs'[j]=cv' at hvr fin
      split at hq
      .rename_i b
       split at hq
       .rename_i e vs hb
        cases hpos:zkl P e with
        |false=>rw [hpos] at hq;cases hq
        |true=>
         rw [hpos] at hq
         simp only [cond_true] at hq
         split at hq
         .rename_i d0 hd0
          simp only [Option.some.injEq,Prod.mk.injEq] at hq
          obtain ⟨t1,t2⟩:=hq
          cases hvr with
          |ptr hν=>
          rename_i i z
          obtain ⟨bs,l1,l2⟩:=zsd hr hb hν
          have hR:zan P (zaW S O J H) e d0 bs:=by
           unfold zzr at hd0
           split at hd0
           .rename_i g1 fs1 caps1
            cases hc:zpx P e with
            |false=>rw [hc] at hd0;cases hd0
            |true=>
             rw [hc] at hd0
             simp only [cond_true] at hd0
             unfold zpx at hc
             split at hc
             .rename_i a1 b1 c1 hu
              obtain ⟨w,r,rfl,w1,w2⟩:=l2.cons_inv
              rw [w2.nil_inv]
              exact zrY hu (zaw hc) (ih _ _ _ hd0 w1 0)
             .cases hc
           .exact (zb0 _ _ _ _ _ hd0 l2).mono zba
          have hsz:=hR.size
          have hp0:0<bs.length:=by
           unfold zkl at hpos
           rw [hsz] at hpos
           exact zbg hpos
          refine fin i 0 bs.length 0 bs rfl l1 hp0 (by omega) (by rw [<-t1];exact hsz) ?_
          rw [<-t1,<-t2,List.drop_zero,List.take_length]
          exact hR
         .cases hq
       .cases hq
      .rename_i t0 d0
       simp only [Option.some.injEq,Prod.mk.injEq] at hq
       obtain ⟨t1,t2⟩:=hq
       cases hvr with
       |dpt hi hs h0 hl h=>
        exact fin _ _ _ _ _ rfl (zba _ _ hi) h0 hl (by rw [<-t1];exact hs) (by rw [<-t1,<-t2];exact h.mono zba)
      .cases hq
     .exact ⟨(0,0,0,0,[]),λh=>by omega⟩
    obtain ⟨q,hq⟩:=Classical.axiomOfChoice hex
    refine .fnd (ii:=λj=>(q j).1) (oo:=λj=>(q j).2.1) (ss:=λj=>(q j).2.2.1) (zz:=λj=>(q j).2.2.2.1) (bb:=λj=>(q j).2.2.2.2) q1 (by omega) (λj v hv=> ?_) (λj hj=> ?_) (λj t ht=> ?_) (λj t d ht hd=> ?_)
    .have hj:j<cs'.length:=(List.getElem?_eq_some_iff.1 hv).1
     exact (hq j (by omega)).1 v hv
    .exact ⟨(hq j hj).2.1,(hq j hj).2.2.1,(hq j hj).2.2.2.1⟩
    .exact (hq j (List.getElem?_eq_some_iff.1 ht).1).2.2.2.2.1 t ht
    .exact (hq j (List.getElem?_eq_some_iff.1 ht).1).2.2.2.2.2 t d ht hd
   .cases h
  .cases h
theorem zp9 {S:SS} (hr:SR P base H0 O J S F H) {v r:V} {v':Value} (h:zxz P S v r) (hv:zam P J O v v'):zam P (zaW S O J H) (λ_=>none) r v':=by
 have gen:∀r:V,r.free=true->zcf v r->zam P (zaW S O J H) (λ_=>none) r v':=λr hf hm=>by
  refine (zfv (O2:=λ_=>none) hm hv (λb o n c e=>by subst e;simp [V.free,V.plain] at hf) (λx hx=>by rw [zoZ hf] at hx;cases hx)).mono (zba (S:=S) (O:=O) (H:=H)) (.refl _)
 unfold zxz at h
 split at h
 .rename_i t d
  split at h
  .rename_i b o n c
   split at h
   .rename_i e l hb
    cases hso:zax P t e with
    |false=>rw [hso] at h;exact h.elim
    |true=>
     rw [hso] at h
     obtain ⟨hle,hd⟩:=h
     subst hd
     obtain ⟨u,hu,hvr,_⟩:=zkL (t:=t) hr (v:= .slc b o n c) (v':=v') (Kv:=λu=>u= .dat t (.list ((l.drop o.v).take n.v))) (by unfold zvM;simp only [hb,hso,cond_true];exact ⟨hle,trivial⟩) hv
     subst hu
     exact hvr
   .rename_i w e e' l hb
    cases hso:zax P t e with
    |false=>rw [hso] at h;exact h.elim
    |true=>
     rw [hso] at h
     obtain ⟨hle,hh,hrt,hd⟩:=h
     subst hd
     obtain ⟨u,hu,hvr,_⟩:=zkL (t:=t) hr (v:= .slc b o n c) (v':=v') (Kv:=λu=>u= .dat t (.list ((l.drop o.v).take n.v))) (by unfold zvM;simp only [hb,hso,cond_true];exact ⟨hle,hh,hrt,trivial⟩) hv
     subst hu
     exact hvr
   .exact h.elim
  .cases hc:(zai P t&&zay P t 1) with
   |false=>rw [hc] at h;exact h.elim
   |true=>
    rw [hc] at h
    simp only [Bool.and_eq_true] at hc
    subst h
    obtain ⟨e,hu⟩:∃e,P.underlying t=some (.slice e):=by have:=hc.1;unfold zai at this;split at this<;>simp_all
    cases hv with
    |val _=>exact .dat hu (.nil hu (zaw hc.2))
  .exact gen _ rfl h
 .split at h
  .rename_i t0 d d' hd
   subst h
   exact zwj hr 8 v v' _ hd hv _
  .exact h.elim
 .cases hf:r.free with
  |false=>rw [hf] at h;exact h.elim
  |true=>rw [hf] at h;exact gen r hf h
theorem zqb {S:SS} (hr:SR P base H0 O J S F H):∀{vs rs:List V} {vs':List Value},zyC P S vs rs->zaN P J O vs vs'->zaN P (zaW S O J H) (λ_=>none) rs vs'
 | [],[],vs',_,hl=>by rw [hl.nil_inv];exact .nil
 | [],_::_,_,h,_=>h.elim
 |_::_,[],_,h,_=>h.elim
 |v::vs,r::rs,vs',h,hl=>by
  obtain ⟨v',q,rfl,h1,h2⟩:=hl.cons_inv
  exact .cons (zp9 hr h.1 h1) (zqb hr h.2 h2)
theorem zqa {S:SS} (hr:SR P base H0 O J S F H) {v r:V} {v':Value} (h:zxA P S v r) (hv:zam P J O v v'):zam P (zaW S O J H) (λ_=>none) r v':=by
 unfold zxA at h
 split at h
 .split at h
  .cases hv with
   |agg h1 h2=>have:=zqb hr h ⟨h1,h2⟩;exact .agg this.1 this.2
  .exact h.elim
 .exact zp9 hr h hv
theorem zmm {S:SS} (hr:SR P base H0 O J S F H):∀{vs rs:List V} {vs':List Value},zvd P S vs rs->zaN P J O vs vs'->zaN P (zaW S O J H) (λ_=>none) rs vs'
 | [],[],vs',_,hl=>by rw [hl.nil_inv];exact .nil
 | [],_::_,_,h,_=>h.elim
 |_::_,[],_,h,_=>h.elim
 |v::vs,r::rs,vs',h,hl=>by
  obtain ⟨v',q,rfl,h1,h2⟩:=hl.cons_inv
  exact .cons (zqa hr h.1 h1) (zmm hr h.2 h2)
theorem zkZ {S:SS} (hr:SR P base H0 O J S F H) {v r:V} {v':Value} (h:zik P S v r) (hn:∀e cp q l,r≠ .ownr e cp q l) (hv:zam P J O v v'):zam P (zaW S O J H) (λ_=>none) r v':=by
 unfold zik at h
 split at h
 .exact absurd rfl (hn _ _ _ _)
 .split at h
  .cases hv with
   |tup h1 h2=>have:=zmm hr h ⟨h1,h2⟩;exact .tup this.1 this.2
  .exact h.elim
 .exact zqa hr h hv
theorem zvc {S:SS} (hr:SR P base H0 O J S F H) (hro:S.ro=0) {v:V} {e:TypeId} {cp:Bool} {q:Prop} {l:List D} {v':Value} (h:zyB S v e cp q l) (hv:zam P J O v v'):
  (¬q/\v'= .slice none 0 0)\/(q/\∃b i z cs m c,S.hp.get b=some (.arr e l)/\v'= .slice (some ⟨i,0,none⟩) l.length c/\(cond cp (c=l.length/\c<UNK) (c=UNK))/\base<=i/\i<H.next/\zaW (S.write b none) O J H i=none/\H.get i=some (.cells cs e z m false)/\zaj P e=some z/\0<z/\zbb P (zaW (S.write b none) O J H) e z l cs/\
   (∀m',m=some m'->base<=m'/\m'<H.next/\zaW (S.write b none) O J H m'=none/\m'≠i)/\SR P base H0 O J (S.write b none) F H):=by
 have key:∀{b:Nat} {e':TypeId} {l':List D} {i z:Nat},S.hp.get b=some (.arr e' l')->O (Bid.top b)=some (i,z)->e'=e->l'=l->∀c,(cond cp (c=l.length/\c<UNK) (c=UNK))->∃b i' z cs m c',S.hp.get b=some (.arr e l)/\Value.slice (some ⟨i,0,none⟩) l.length c= .slice (some ⟨i',0,none⟩) l.length c'/\(cond cp (c'=l.length/\c'<UNK) (c'=UNK))/\base<=i'/\i'<H.next/\zaW (S.write b none) O J H i'=none/\H.get i'=some (.cells cs e z m false)/\zaj P e=some z/\0<z/\zbb P (zaW (S.write b none) O J H) e z l cs/\
   (∀m',m=some m'->base<=m'/\m'<H.next/\zaW (S.write b none) O J H m'=none/\m'≠i')/\SR P base H0 O J (S.write b none) F H:=by
  intro b e' l' i z hb hν he hl c hc
  subst he hl
  obtain ⟨i2,z2,hν2,cs,m,hg,hsz,hz0,hlen,hrd⟩:=hr.blkT _ _ hb
  rw [hν] at hν2;cases hν2
  have hbro:S.ro<=b:=by rw [hro];exact Nat.zero_le _
  have hr2:SR P base H0 O J (S.write b none) F H:=hr.forget rfl rfl rfl rfl (λc k h=>by
   have h:T.get (T.put S.hp b none) c=some k:=h
   rw [T.get_put] at h
   by_cases e1:c=b
   .rw [if_pos e1] at h;cases h
   .rw [if_neg e1] at h;exact h)
  have hno:∀j,J j=none->(∀x k z,At (S.write b none) x k->O x≠some (j,z))->zaW (S.write b none) O J H j=none:=λj h1 h2=>by
   unfold zaW
   rw [h1]
   simp only
   rw [if_neg (λ⟨x,k,z,a,b⟩=>h2 x k z a b)]
  have hσi:=hr.apart (.top b) _ i z hb hν
  refine ⟨b,i,z,cs,m,c,hb,rfl,hc,hr.ownT hb hbro hν,hr.lt _ _ _ hν,hno i hσi (λx k z' a hx=> ?_),hg,hsz,hz0,zbb.mono ⟨hlen,hrd⟩ zba,λm' hm'=> ?_,hr2⟩
  .obtain ⟨g1,g2,_⟩:=At.gone a
   exact g1 (hr.inj _ _ _ _ _ _ _ g2 (show At S (.top b) _ from hb) hx hν)
  .obtain ⟨p1,p2,p3,p4⟩:=hr.mates (.top b) _ i z m' hb hν (by unfold zaa.mate;rw [hg];exact hm')
   refine ⟨p1 hbro,p2,hno m' p3 (λx k z' a hx=>p4 x k z' (At.gone a).2.1 hx),λe1=> ?_⟩
   subst e1
   exact p4 (.top b) _ z hb hν
 unfold zyB at h
 split at h
 .cases hv with
  |val _=>exact .inl ⟨h,rfl⟩
 .rename_i b o n
  split at h
  .rename_i e' l' hb
   cases hc:(Nat.beq e e'&& !cp) with
   |false=>rw [hc] at h;exact h.elim
   |true=>
    rw [hc] at h
    obtain ⟨h1,h2,h3,h4⟩:=h
    simp only [Bool.and_eq_true,Bool.not_eq_true'] at hc
    obtain ⟨hc1,hc2⟩:=hc
    subst hc2
    cases hv with
    |slcU hν=>rw [h2,h3,Nat.zero_mul];exact .inr ⟨h1,key hb hν (Nat.eq_of_beq_eq_true hc1).symm h4 UNK rfl⟩
  .exact h.elim
 .rename_i b o n c
  split at h
  .rename_i e' l' hb
   cases hc:(Nat.beq e e'&&cp) with
   |false=>rw [hc] at h;exact h.elim
   |true=>
    rw [hc] at h
    obtain ⟨h1,h2,h3,h5,h4⟩:=h
    simp only [Bool.and_eq_true] at hc
    obtain ⟨hc1,hc2⟩:=hc
    subst hc2
    cases hv with
    |slc hν hcu hnc ho=>
     rename_i off
     rw [h2,Nat.zero_mul] at ho
     have ho:off=0:=by rcases ho with ho|ho;exact ho;exact Nat.le_zero.1 ho.2
     rw [ho,h3,h5]
     exact .inr ⟨h1,key hb hν (Nat.eq_of_beq_eq_true hc1).symm h4 l.length ⟨rfl,by rw [<-h5];exact hcu⟩⟩
  .exact h.elim
 .exact h.elim
theorem zh5 {S:SS} {J0:Sig} {Hb:zaa} (hr:SR P base (Hb,J0) O J S F H) (hro:S.ro=0) {i:Nat} {c:List Value×Nat} (hc:zaW S O J H i=some c):J0 i=some c\/base<=i:=by
 rcases Nat.lt_or_ge i base with h|h
 .unfold zaW at hc
  split at hc
  .rename_i c' hc'
   simp only [Option.some.injEq] at hc
   subst hc
   exact .inl (hr.sb.1 i _ hc' h)
  .split at hc
   .rename_i hex
    obtain ⟨x,k,z,hb,hν⟩:=hex
    have hw:Wr S x:=by
     cases x with
     |top b=>show S.ro<=b;rw [hro];exact Nat.zero_le _
     |sub v j=>obtain ⟨b,e,e',l,r,h1,_⟩:=hb;exact ⟨b,e,e',l,h1,by rw [hro];exact Nat.zero_le _⟩
    have:=hr.own x k i z hb hw hν
    omega
   .cases hc
 .exact .inr h
theorem zaf {C:Ctx} {G:Msk} {B:Nat} (hfast:G.fast=false) (hbits:G.bits=C.bits) (hora:G.ora=C.ora) (hcon:∀d,B<=d->∀g c,C.con g=some c->zev C.P G (ev C.P G d) g c) (hconF:∀d,B<=d->∀ts c,C.conF ts=some c->zi4 C.P G (ev C.P G d) c) {m:Nat} {g:FuncId} {c:Con}
  (h:∀as p r,c as=some (p,r)->p->(∀t d,V.dat t d∈as->d= .nil\/∃l,d= .list l)->zag C m g as r) (htab:∀g,zkn C.P (G.tab g) (C.tab g):=by exact λ_ _=>rfl) (hsrt:G.srt=C.srt:=by rfl) (hsrtC:G.srtC=C.srtC:=by rfl):∀d,B+m<=d->zev C.P G (ev C.P G d) g c:=by
 intro d hd as p r hc hp J H vs hst hl
 have hS:=h as p r hc hp λt d hm=>by
  obtain ⟨j,hj⟩:=List.mem_iff_getElem?.1 hm
  obtain ⟨v',_,hv⟩:=hl.get hj
  cases hv with
  |dat ht hrd=>
   rcases hrd.sliceInv ht with ⟨h,_⟩| ⟨l,_,_,_,_,_,h,_⟩
   .exact .inl h
   .exact .inr ⟨l,h⟩
 have hr:SR C.P H.next (H,J) (λ_=>none) J {fr:= .leaf,sz:=0,hp:= .leaf,nx:=0,ro:=0,fl:=0,wr:= []} {size:=0,t:= .leaf,marks:= []} {H with wlow:=H.next}:=by
  have hno:∀x k,¬At {fr:= .leaf,sz:=0,hp:= .leaf,nx:=0,ro:=0,fl:=0,wr:= []} x k:=λx k h=>by
   cases x with
   |top b=>cases h
   |sub v j=>obtain ⟨_,_,_,_,_,h,_⟩:=h;cases h
  exact ⟨λt v h=>(by cases h),rfl,Nat.zero_le _,trivial,λb k h=>absurd h (hno _ _),λb i z h=>(by cases h),λ_ _=>rfl,λb b' k k' i z z' h=>absurd h (hno _ _),λb k i z h=>absurd h (hno _ _),hst.1,λb k i z h=>absurd h (hno _ _),λb k i z m h=>absurd h (hno _ _),Nat.le_refl _,λ_ _=>rfl,Nat.le_refl _,Nat.le_refl _,⟨λ_ _ h _=>h,hst.2⟩,⟨λ_ _ _ _ _ _ _ _ _ h=>(by cases h),λ_ _ _ _ _ h=>(by cases h)⟩⟩
 obtain ⟨v',H',hcall,v,S',O',J',hret,hr',hv,_,hx,_,hk⟩:=zgj (C:=C) (G:=G) (srun:=zmK C m) (run:=ev C.P G d) hfast hbits (zj9 hfast hbits hora htab hsrt hsrtC hcon hconF m d hd) hr hS hl
 obtain ⟨h2,rfl,hc2⟩:=zrz hfast hcall
 have hw:H.next<=h2.wlow:=by
  have:=hr'.wl
  cases hb:Nat.ble H.next h2.wlow with
  |true=>exact Nat.le_of_ble_eq_true hb
  |false=>rw [show (zaa.wlow {t:=h2.t,next:=h2.next,wlow:=cond (Nat.ble H.next h2.wlow) H.next h2.wlow})=cond (Nat.ble H.next h2.wlow) H.next h2.wlow from rfl,hb] at this;exact this
 have hwl:∀n,n<=H.wlow->n<=H.next->n<=cond (Nat.ble H.wlow h2.wlow) H.wlow h2.wlow:=λn h1 h2'=>by
  cases Nat.ble H.wlow h2.wlow
  .exact Nat.le_trans h2' hw
  .exact h1
 by_cases ho:∃e cp q l,r= .ownr e cp q l
 .obtain ⟨e,cp,q,l,rfl⟩:=ho
  rcases zvc hr' (hk.ro) hret hv with ⟨g1,g2⟩| ⟨g1,b,i,z,cs,m,c',g2,g3,g4,g5,g6,g7,g8,g9,g10,g11,g12,g13⟩
  .have hstab:=zcN hr'
   exact ⟨v',_,zaW S' O' J' _,hc2,hx.trans zba,hstab,λi c hc=>zh5 hr' hk.ro hc,hr'.nxt,hr'.old,hwl,.inl ⟨g1,g2⟩⟩
  .have hstab:=zcN g13
   exact ⟨v',_,zaW (S'.write b none) O' J' _,hc2,hx.trans zba,hstab,λi c hc=>zh5 g13 hk.ro hc,hr'.nxt,hr'.old,hwl,.inr ⟨g1,i,z,cs,m,c',g3,g4,g5,g6,g7,g8,g9,g10,g11,g12⟩⟩
 .have hres:=zkZ hr' hret (λe cp q l h=>ho ⟨e,cp,q,l,h⟩) hv
  have hstab:=zcN hr'
  refine ⟨v',_,zaW S' O' J' _,hc2,hx.trans zba,hstab,λi c hc=>zh5 hr' hk.ro hc,hr'.nxt,hr'.old,hwl, ?_⟩
  cases r with
  |ownr e cp q l=>exact absurd ⟨e,cp,q,l,rfl⟩ ho
  |_=>exact hres
theorem zeQ {α:Type} {x:α} (h:(none:Option α)=some x):False:=by cases h
structure NoF (C:Ctx):Prop where
 out:∀t c,C.conF t=some c->False
theorem zat {C:Ctx} [hN:Nonempty (NoF C)] {G:Msk} {B:Nat} (hfast:G.fast=false) (hbits:G.bits=C.bits) (hora:G.ora=C.ora) (hcon:∀d,B<=d->∀g c,C.con g=some c->zev C.P G (ev C.P G d) g c) {m:Nat} {g:FuncId} {c:Con}
  (h:∀as p r,c as=some (p,r)->p->(∀t d,V.dat t d∈as->d= .nil\/∃l,d= .list l)->zag C m g as r) (htab:∀g,zkn C.P (G.tab g) (C.tab g):=by exact λ_ _=>rfl) (hsrt:G.srt=C.srt:=by rfl) (hsrtC:G.srtC=C.srtC:=by rfl):∀d,B+m<=d->zev C.P G (ev C.P G d) g c:=
 zaf hfast hbits hora hcon (λ_ _ t c h=>((hN.elim λq=>q.out t c h):False).elim) h htab hsrt hsrtC
end
end Go.Ev
