/- Part of the proof. -/
import Derived.Test.YtdojhafbgoimeaaGreatDoorCoreSeO

namespace Go.Ev
section
variable {P:Program} {base:Nat} {H0:zaa×Sig} {O:Nu} {J:Sig} {S:SS} {F:zab} {H:zaa} {K:V->SS->Prop}
theorem zxF (hr:SR P base H0 O J S F H) (z:Nat):XN O (λb=>if b=S.nx then some (H.next,z) else O b):=λb c hb=>by
 by_cases e:b=S.nx
 .subst e;rw [hr.dom _ (Nat.le_refl _)] at hb;cases hb
 .simp [e,hb]
theorem zdM {H:zaa} {i:Nat} {cs:List Value} {e:TypeId} {esz:Nat} {m:Option Nat} {ro:Bool} (h:H.get i=some (.cells cs e esz m ro)):H.mate i=m:=by unfold zaa.mate;rw [h]
def SB.isOwn:SB->Bool
 | .own _ _ _ _=>true
 |_=>false
def zcw (k:Option SB):Prop:= ∀v e e' l,k≠some (.own v e e' l)
theorem zcw.none:zcw none:=λ_ _ _ _ h=>by cases h
theorem zcw.of {k:SB} (h:k.isOwn=false):zcw (some k):=λv e e' l he=>by
 cases he;cases h
theorem At.put {S':SS} {b:Nat} {ko:Option SB} (hg:∀b',S'.hp.get b'=if b'=b then ko else S.hp.get b') (hno:zcw ko) (hro:S'.ro=S.ro) {x:Bid} {k':SB} (h:At S' x k'):
  (x= .top b/\ko=some k')\/(x≠ .top b/\At S x k'/\(Wr S' x->Wr S x)):=by
 cases x with
 |top c=>
  have h1:S'.hp.get c=some k':=h
  rw [hg] at h1
  by_cases e:c=b
  .rw [if_pos e] at h1;exact .inl ⟨by rw [e],h1⟩
  .rw [if_neg e] at h1;exact .inr ⟨Bid.top_ne e,h1,λhw=>by have:S'.ro<=c:=hw;rw [hro] at this;exact this⟩
 |sub v j=>
  obtain ⟨c,e,e',l,r,h1,h2,h3⟩:=h
  rw [hg] at h1
  by_cases ec:c=b
  .rw [if_pos ec] at h1;exact absurd h1 (hno _ _ _ _)
  .rw [if_neg ec] at h1
   refine .inr ⟨λh=>(by cases h),⟨c,e,e',l,r,h1,h2,h3⟩,λhw=> ?_⟩
   obtain ⟨c2,a1,a2,a3,w1,w2⟩:=hw
   rw [hg] at w1
   by_cases ec2:c2=b
   .rw [if_pos ec2] at w1;exact absurd w1 (hno _ _ _ _)
   .rw [if_neg ec2] at w1;exact ⟨c2,a1,a2,a3,w1,by rw [hro] at w2;exact w2⟩
theorem zki.put {S':SS} {b:Nat} {ko:Option SB} (hv:zki S) (hg:∀b',S'.hp.get b'=if b'=b then ko else S.hp.get b') (hno:zcw ko) (hnx:S.nx<=S'.nx):zki S':=by
 have h0:∀c v e e' l,S'.hp.get c=some (.own v e e' l)->S.hp.get c=some (.own v e e' l):=λc v e e' l h=>by
  rw [hg] at h
  by_cases ec:c=b
  .rw [if_pos ec] at h;exact absurd h (hno _ _ _ _)
  .rw [if_neg ec] at h;exact h
 exact ⟨λb1 b2 v e1 e2 l e3 e4 l' h1 h2=>hv.1 b1 b2 v e1 e2 l e3 e4 l' (h0 _ _ _ _ _ h1) (h0 _ _ _ _ _ h2),λc v e e' l h=>Nat.lt_of_lt_of_le (hv.2 c v e e' l (h0 _ _ _ _ _ h)) hnx⟩
theorem zcO {H:zaa} {i:Nat} {bk:ABk} (h:H.get i=some bk) (hnm:∀cs e y m ro,bk= .cells cs e y m ro->m=none):H.mate i=none:=by
 unfold zaa.mate
 rw [h]
 cases bk with
 |cells cs e y m ro=>exact hnm _ _ _ _ _ rfl
 |_=>rfl
theorem SR.allocB (hr:SR P base H0 O J S F H) {k:SB} {z:Nat} {bk:ABk} (hb:∀O',XN O O'->zdf P J O' z k (some bk)) (hnm:∀cs e y m ro,bk= .cells cs e y m ro->m=none) (hno:k.isOwn=false:=by rfl):
  SR P base H0 (λb=>if b=S.nx then some (H.next,z) else O b) J (S.alloc k) F (H.alloc bk):=by
 have hx:=zxF hr z
 have hne:∀(b:Bid) i z',O b=some (i,z')->b≠S.nx/\i≠H.next:=λb i z' hb=>by
  refine ⟨λe=> ?_,λe=> ?_⟩
  .rw [e,hr.dom _ (Nat.le_refl _)] at hb;cases hb
  .have:=hr.lt _ _ _ hb;omega
 have hg:∀b,(S.alloc k).hp.get b=if b=S.nx then some k else S.hp.get b:=λb=>T.get_put _ _ _ _
 have hat:∀{x k'},At (S.alloc k) x k'->(x= .top S.nx/\k=k')\/(x≠ .top S.nx/\At S x k'/\(Wr (S.alloc k) x->Wr S x)):=λ{x k'} h=>by
  rcases At.put (S:=S) (S':=S.alloc k) hg (zcw.of hno) rfl h with ⟨a,b⟩|h
  .exact .inl ⟨a,by cases b;rfl⟩
  .exact .inr h
 refine ⟨λt v h=>(hr.fr t v h).mono (.refl _) hx,hr.fsz,hr.top,hr.mks.mono hx, ?_, ?_, ?_, ?_, ?_, ?_, ?_, ?_,hr.wl, ?_, ?_,Nat.le_succ_of_le hr.role,hr.sb,hr.vers.put hg (zcw.of hno) (Nat.le_succ _)⟩
 .intro b k' h
  rcases hat h with ⟨e,e2⟩| ⟨e,h,_⟩
  .subst e e2
   exact ⟨H.next,z,if_pos rfl,by rw [zaa.get_alloc,if_pos rfl];exact hb _ hx⟩
  .obtain ⟨i,z',h1,h2⟩:=hr.blk b k' h
   exact ⟨i,z',by rw [if_neg e];exact h1,by rw [zaa.get_alloc,if_neg (hne _ _ _ h1).2];exact h2.mono (.refl _) hx⟩
 .intro b i z' h
  show i<H.next+1
  by_cases e:b=S.nx
  .simp only [e,if_true,Option.some.injEq,Prod.mk.injEq] at h;omega
  .simp only [if_neg e] at h;have:=hr.lt _ _ _ h;omega
 .intro b h
  have:S.nx+1<=b.id:=h
  simp only [if_neg (show b≠S.nx from λe=>by subst e;simp only [Bid.id] at this;omega)]
  exact hr.dom b (by omega)
 .intro b b' k1 k2 i z1 z2 a1 a2 h h'
  rcases hat a1 with ⟨e,_⟩| ⟨e,a1,_⟩<;>rcases hat a2 with ⟨e',_⟩| ⟨e',a2,_⟩
  .rw [e,e']
  .simp only [e,if_true,Option.some.injEq,Prod.mk.injEq] at h;simp only [if_neg e'] at h'
   exact absurd h.1.symm (hne _ _ _ h').2
  .simp only [e',if_true,Option.some.injEq,Prod.mk.injEq] at h';simp only [if_neg e] at h
   exact absurd h'.1.symm (hne _ _ _ h).2
  .simp only [if_neg e] at h;simp only [if_neg e'] at h';exact hr.inj _ _ _ _ _ _ _ a1 a2 h h'
 .intro b k' i z' a hw h
  rcases hat a with ⟨e,_⟩| ⟨e,a,aw⟩
  .simp only [e,if_true,Option.some.injEq,Prod.mk.injEq] at h;have:=hr.nxt;omega
  .simp only [if_neg e] at h;exact hr.own b k' i z' a (aw hw) h
 .intro i c h
  obtain ⟨h1,h2⟩:=hr.sig i c h
  exact ⟨Nat.lt_succ_of_lt h1,by rw [zaa.get_alloc,if_neg (by omega)];exact h2⟩
 .intro b k' i z' h h'
  rcases hat h with ⟨e,_⟩| ⟨e,h,_⟩
  .simp only [e,if_true,Option.some.injEq,Prod.mk.injEq] at h'
   cases hs:J i with
   |none=>rfl
   |some c=>have:=(hr.sig i c hs).1;omega
  .simp only [if_neg e] at h';exact hr.apart b k' i z' h h'
 .intro b k' i z' m h h' hm
  rcases hat h with ⟨e,_⟩| ⟨e,h,aw⟩
  .simp only [e,if_true,Option.some.injEq,Prod.mk.injEq] at h'
   rw [<-h'.1,zcO (by rw [zaa.get_alloc,if_pos rfl]) hnm] at hm
   cases hm
  .simp only [if_neg e] at h'
   have hm':H.mate i=some m:=by
    have:(H.alloc bk).get i=H.get i:=by rw [zaa.get_alloc,if_neg (hne _ _ _ h').2]
    rw [zaa.mate_congr this] at hm;exact hm
   obtain ⟨q1,q2,q3,q4⟩:=hr.mates b k' i z' m h h' hm'
   refine ⟨λhw=>q1 (aw hw),Nat.lt_succ_of_lt q2,q3,λb' k'' z'' hb' hν=> ?_⟩
   rcases hat hb' with ⟨e',_⟩| ⟨e',hb',_⟩
   .simp only [e',if_true,Option.some.injEq,Prod.mk.injEq] at hν;omega
   .simp only [if_neg e'] at hν;exact q4 b' k'' z'' hb' hν
 .intro i hi
  have:=hr.nxt
  rw [zaa.get_alloc,if_neg (by omega)];exact hr.old i hi
 .exact Nat.le_succ_of_le hr.nxt
theorem SR.alloc (hr:SR P base H0 O J S F H) {k:SB} {z:Nat} {cs:List Value} {ty:TypeId} {esz:Nat} (hb:∀O',XN O O'->zdf P J O' z k (some (.cells cs ty esz none false))) (hno:k.isOwn=false:=by rfl):
  SR P base H0 (λb=>if b=S.nx then some (H.next,z) else O b) J (S.alloc k) F (H.alloc (.cells cs ty esz none false)):=
 hr.allocB hb (λ_ _ _ _ _ e=>by cases e;rfl) hno
theorem SR.writeB (hr:SR P base H0 O J S F H) {S':SS} {x:Bid} {i z:Nat} {k k':SB} (hk:At S x k) (hν:O x=some (i,z)) (hro:Wr S x) {bk:ABk}
  (hb:zdf P J O z k' (some bk)) (hnm:∀cs e y m ro,bk= .cells cs e y m ro->m=none) (hfr:S'.fr=S.fr) (hsz:S'.sz=S.sz) (hnx':S.nx<=S'.nx) (hro':S'.ro=S.ro)
  (hat:∀y k2,At S' y k2->(y=x/\k2=k')\/(y≠x/\(Wr S' y->Wr S y)/\∃k3,At S y k3/\∀z bk,zdf P J O z k3 bk->zdf P J O z k2 bk)) (hvers:zki S') (hmk:S'.mks=S.mks:=by rfl):
  SR P base H0 O J S' F ((H.kill (H.mate i)).write i (some bk)):=by
 have hget:∀j,((H.kill (H.mate i)).write i (some bk)).get j=if j=i then some bk else if H.mate i=some j then none else H.get j:=λj=>by
  rw [zaa.get_write,zaa.get_kill]
 have hnx:((H.kill (H.mate i)).write i (some bk)).next=H.next:=zaa.next_kill _ _
 have hbi:=hr.own x k i z hk hro hν
 have hmate:∀m,H.mate i=some m->base<=m/\m<H.next/\J m=none/\∀b' k' z',At S b' k'->O b'≠some (m,z'):=λm hm=>let q:=hr.mates x k i z m hk hν hm;⟨q.1 hro,q.2⟩
 have hsome:∀y k2,At S' y k2->∃k3,At S y k3:=λy k2 h=>by
  rcases hat y k2 h with ⟨e1,_⟩| ⟨_,_,k3,h3,_⟩
  .exact ⟨k,e1▸hk⟩
  .exact ⟨k3,h3⟩
 have hsomeW:∀y k2,At S' y k2->Wr S' y->Wr S y:=λy k2 h hw=>by
  rcases hat y k2 h with ⟨e1,_⟩| ⟨_,h2,_⟩
  .exact e1▸hro
  .exact h2 hw
 have hkeep:∀y i' z' k3,At S y k3->O y=some (i',z')->y≠x->((H.kill (H.mate i)).write i (some bk)).get i'=H.get i':=λy i' z' k2 h2 h3 hne=>by
  rw [hget,if_neg (λe1=>hne (hr.inj _ _ _ _ _ _ _ h2 hk (e1▸h3) hν)),if_neg (λhm=>(hmate _ hm).2.2.2 y k2 z' h2 h3)]
 refine ⟨λt v h=>hr.fr t v (by rw [<-hfr];exact h),hsz.trans hr.fsz,hr.top,by rw [hmk];exact hr.mks, ?_, ?_,λy hy=>hr.dom y (Nat.le_trans hnx' hy), ?_, ?_, ?_, ?_, ?_, ?_, ?_,by rw [hnx];exact hr.nxt,by rw [hro'];exact Nat.le_trans hr.role hnx',hr.sb,hvers⟩
 .intro y k2 h
  rcases hat y k2 h with ⟨e1,e2⟩| ⟨e1,_,k3,h3,h4⟩
  .subst e1 e2;exact ⟨i,z,hν,by rw [hget,if_pos rfl];exact hb⟩
  .obtain ⟨i',z',h1,h2⟩:=hr.blk y k3 h3
   exact ⟨i',z',h1,by rw [hkeep y i' z' k3 h3 h1 e1];exact h4 _ _ h2⟩
 .intro b' i' z' h;rw [hnx];exact hr.lt b' i' z' h
 .intro y y' k1 k2 i1 z1 z2 a1 a2 h1 h2
  obtain ⟨_,b1⟩:=hsome _ _ a1
  obtain ⟨_,b2⟩:=hsome _ _ a2
  exact hr.inj _ _ _ _ _ _ _ b1 b2 h1 h2
 .intro y k2 i' z' a hw h
  obtain ⟨_,b1⟩:=hsome _ _ a
  exact hr.own y _ i' z' b1 (hsomeW _ _ a hw) h
 .intro i' c h
  obtain ⟨h1,h2⟩:=hr.sig i' c h
  rw [hnx,hget,if_neg (λe1=>by have:=hr.apart x k i z hk hν;rw [<-e1,h] at this;cases this),if_neg (λhm=>by rw [(hmate _ hm).2.2.1] at h;cases h)]
  exact ⟨h1,h2⟩
 .intro b' k2 i' z' h h'
  obtain ⟨k3,h3⟩:=hsome b' k2 h
  exact hr.apart b' k3 i' z' h3 h'
 .intro b' k2 i' z' m h h' hm
  obtain ⟨k3,h3⟩:=hsome b' k2 h
  rw [hnx]
  by_cases e1:b'=x
  .subst e1
   rw [hν] at h';cases h'
   rw [zcO (by rw [hget,if_pos rfl]) hnm] at hm;cases hm
  .rw [zaa.mate_congr (hkeep b' i' z' k3 h3 h' e1)] at hm
   obtain ⟨q1,q2,q3,q4⟩:=hr.mates b' k3 i' z' m h3 h' hm
   refine ⟨λhw=>q1 (hsomeW _ _ h hw),q2,q3,λb2 k4 z2 h4=> ?_⟩
   obtain ⟨k5,h5⟩:=hsome b2 k4 h4
   exact q4 b2 k5 z2 h5
 .have h3:base<=(H.kill (H.mate i)).wlow:=by
   cases hm:H.mate i with
   |none=>exact hr.wl
   |some m=>
    have:=(hmate m hm).1
    simp only [zaa.kill,zaa.write]
    cases hbl:Nat.ble H.wlow m with
    |true=>exact hr.wl
    |false=>simpa using this
  simp only [zaa.write]
  cases hbl:Nat.ble (H.kill (H.mate i)).wlow i with
  |true=>exact h3
  |false=>exact hbi
 .intro j hj
  rw [hget,if_neg (by omega),if_neg (λhm=>by have:=(hmate _ hm).1;omega)]
  exact hr.old j hj
theorem SR.writeG (hr:SR P base H0 O J S F H) {S':SS} {x:Bid} {i z:Nat} {k k':SB} (hk:At S x k) (hν:O x=some (i,z)) (hro:Wr S x) {cs:List Value} {e:TypeId} {esz:Nat}
  (hb:zdf P J O z k' (some (.cells cs e esz none false))) (hfr:S'.fr=S.fr) (hsz:S'.sz=S.sz) (hnx':S.nx<=S'.nx) (hro':S'.ro=S.ro)
  (hat:∀y k2,At S' y k2->(y=x/\k2=k')\/(y≠x/\(Wr S' y->Wr S y)/\∃k3,At S y k3/\∀z bk,zdf P J O z k3 bk->zdf P J O z k2 bk)) (hvers:zki S') (hmk:S'.mks=S.mks:=by rfl):
  SR P base H0 O J S' F ((H.kill (H.mate i)).write i (some (.cells cs e esz none false))):=
 hr.writeB hk hν hro hb (λ_ _ _ _ _ e=>by cases e;rfl) hfr hsz hnx' hro' hat hvers hmk
theorem SR.write (hr:SR P base H0 O J S F H) {b i z:Nat} {k:SB} (hk:S.hp.get b=some k) (hν:O b=some (i,z)) (hro:S.ro<=b) {k':SB} {cs:List Value} {e:TypeId} {esz:Nat}
  (hb:zdf P J O z k' (some (.cells cs e esz none false))) (hno:k'.isOwn=false:=by rfl):SR P base H0 O J (S.write b (some k')) F ((H.kill (H.mate i)).write i (some (.cells cs e esz none false))):=by
 have hg:∀b',(S.write b (some k')).hp.get b'=if b'=b then some k' else S.hp.get b':=λb'=>T.get_put _ _ _ _
 refine hr.writeG (x:= .top b) (k:=k) hk hν hro hb rfl rfl (Nat.le_refl _) rfl (λy k2 h=> ?_) (hr.vers.put hg (zcw.of hno) (Nat.le_refl _))
 rcases At.put (S:=S) (S':=S.write b (some k')) hg (zcw.of hno) rfl h with ⟨a,b⟩| ⟨a,b,c⟩
 .exact .inl ⟨a,by cases b;rfl⟩
 .exact .inr ⟨a,c,k2,b,λ_ _ h=>h⟩
theorem SR.remap0 (hr:SR P base H0 O J S F H) {S':SS} {O':Nu} (hfr:∀t v,S'.fr.get t=some v->zam P J O' v (F.get t)) (hsz:S'.sz=S.sz) (f:Bid->Bid)
  (hat:∀x k',At S' x k'->∃k,At S (f x) k/\(Wr S' x->Wr S (f x))/\(∀i z,O' x=some (i,z)->∃z,O (f x)=some (i,z))/\∃i z,O' x=some (i,z)/\zdf P J O' z k' (H.get i))
  (hinj:∀x x' k k',At S' x k->At S' x' k'->f x=f x'->x=x') (hlt:∀x i z,O' x=some (i,z)->i<H.next) (hdom:∀x:Bid,S'.nx<=x.id->O' x=none) (hrole:S'.ro<=S'.nx) (hvers:zki S') (hmk:MkN O' S'.mks F.marks):
  SR P base H0 O' J S' F H:=by
 refine ⟨hfr,hsz.trans hr.fsz,hr.top,hmk,λx k' h=> ?_,hlt,hdom,λx x' k k' i z z' a1 a2 h1 h2=> ?_,λx k' i z a hw h=> ?_,hr.sig,λx k' i z a h=> ?_,λx k' i z m a h hm=> ?_,hr.wl,hr.old,hr.nxt,hrole,hr.sb,hvers⟩
 .obtain ⟨k,_,_,_,h4⟩:=hat x k' h
  exact h4
 .obtain ⟨k3,b1,_,b2,_⟩:=hat x k a1
  obtain ⟨k4,c1,_,c2,_⟩:=hat x' k' a2
  obtain ⟨_,h1⟩:=b2 _ _ h1
  obtain ⟨_,h2⟩:=c2 _ _ h2
  exact hinj x x' k k' a1 a2 (hr.inj _ _ _ _ _ _ _ b1 c1 h1 h2)
 .obtain ⟨k3,b1,b3,b2,_⟩:=hat x k' a
  obtain ⟨_,h⟩:=b2 _ _ h
  exact hr.own _ _ i _ b1 (b3 hw) h
 .obtain ⟨k3,b1,b3,b2,_⟩:=hat x k' a
  obtain ⟨_,h⟩:=b2 _ _ h
  exact hr.apart _ _ i _ b1 h
 .obtain ⟨k3,b1,b3,b2,_⟩:=hat x k' a
  obtain ⟨_,h⟩:=b2 _ _ h
  obtain ⟨q1,q2,q3,q4⟩:=hr.mates _ _ i _ m b1 h hm
  refine ⟨λhw=>q1 (b3 hw),q2,q3,λx2 k2 z2 a2 h2=> ?_⟩
  obtain ⟨k4,c1,_,c2,_⟩:=hat x2 k2 a2
  obtain ⟨_,h2⟩:=c2 _ _ h2
  exact q4 _ _ _ c1 h2
theorem SR.remap (hr:SR P base H0 O J S F H) {S':SS} {O':Nu} (hfr:∀t v,S'.fr.get t=some v->zam P J O' v (F.get t)) (hsz:S'.sz=S.sz) (f:Bid->Bid)
  (hat:∀x k',At S' x k'->∃k,At S (f x) k/\O' x=O (f x)/\(Wr S' x->Wr S (f x))/\∀i z,O (f x)=some (i,z)->zdf P J O z k (H.get i)->zdf P J O' z k' (H.get i))
  (hinj:∀x x' k k',At S' x k->At S' x' k'->f x=f x'->x=x') (hlt:∀x i z,O' x=some (i,z)->i<H.next) (hdom:∀x:Bid,S'.nx<=x.id->O' x=none) (hrole:S'.ro<=S'.nx) (hvers:zki S') (hmk:MkN O' S'.mks F.marks):
  SR P base H0 O' J S' F H:=
 hr.remap0 hfr hsz f (λx k' h=>by
  obtain ⟨k,h1,h2,h3,h4⟩:=hat x k' h
  obtain ⟨i,z,h5,h6⟩:=hr.blk _ _ h1
  exact ⟨k,h1,h3,λi z e=>⟨z,h2▸e⟩,i,z,h2.trans h5,h4 i z h5 h6⟩) hinj hlt hdom hrole hvers hmk
theorem SR.blkT (hr:SR P base H0 O J S F H):∀b k,S.hp.get b=some k->∃i z,O (Bid.top b)=some (i,z)/\zdf P J O z k (H.get i):=λb k h=>hr.blk (.top b) k h
theorem SR.ownT (hr:SR P base H0 O J S F H) {b i z:Nat} {k:SB} (h:S.hp.get b=some k) (hro:S.ro<=b) (hν:O (Bid.top b)=some (i,z)):base<=i:=hr.own (.top b) k i z h hro hν
theorem zfb {n:Nat} (ih:∀(t:TypeId) (d:D) (cs:List Value) (vs:List V),zan P J t d cs->cellsOf P n t d=some vs->zaN P J O vs cs) (d:D):∀(fs:List Field) (j:Nat) (css:List (List Value)) (vs:List V),css.length=fs.length->
  (∀(i:Nat) (f:Field) (c:List Value),fs[i]? =some f->css[i]? =some c->zan P J f.type (d.fld (j+i)) c)->zfi (cellsOf P n) d fs j=some vs->zaN P J O vs css.flatten
 | [],j,css,vs,hl,_,h=>by
  simp only [zfi,Option.some.injEq] at h
  subst h
  have:css= []:=List.eq_nil_of_length_eq_zero hl
  subst this;exact .nil
 |f::fs,j,[],vs,hl,_,_=>by simp at hl
 |f::fs,j,c::css,vs,hl,hf,h=>by
  simp only [zfi] at h
  split at h
  .rename_i a b ha hb
   simp only [Option.some.injEq] at h
   subst h
   rw [List.flatten_cons]
   refine (ih _ _ _ _ (hf 0 f c rfl rfl) ha).append (zfb ih d fs (j+1) css b (by simpa using hl) (λi f' c' h1 h2=> ?_) hb)
   have:=hf (i+1) f' c' (by simpa using h1) (by simpa using h2)
   rwa [show j+1+i=j+(i+1) by omega]
  .cases h
theorem zbS:∀(n:Nat) (t:TypeId) (d:D) (cs:List Value) (vs:List V),zan P J t d cs->cellsOf P n t d=some vs->zaN P J O vs cs
 |0,t,d,cs,vs,_,h=>by unfold cellsOf at h;cases h
 |n+1,t,d,cs,vs,hr,h=>by
  unfold cellsOf at h
  cases hr with
  |int hu hs=>simp only [hu,Option.some.injEq] at h;subst h;exact .cons .int .nil
  |bool hu hs=>simp only [hu,Option.some.injEq] at h;subst h;exact .cons .prop .nil
  |str hu hs=>simp only [hu,Option.some.injEq] at h;subst h;exact .cons .str .nil
  |nil hu hs=>simp only [hu,Option.some.injEq] at h;subst h;exact .cons (.dat hu (.nil hu hs)) .nil
  |list hu hs hz hi hl hc hzz he=>simp only [hu,Option.some.injEq] at h;subst h;exact .cons (.dat hu (.list hu hs hz hi hl hc hzz he)) .nil
  |nilf hu hs=>simp only [hu,Option.some.injEq] at h;subst h;exact .cons .fndN .nil
  |fn hu hs h1 h2 hp hi hz hf=>simp only [hu,Option.some.injEq] at h;subst h;exact .cons (.fnd h1 h2 hp hi hz hf) .nil
  |sct hu h1 h2 hs hf=>
   rename_i fs ds css
   simp only [hu] at h
   refine zfb (zbS n) (.sct ds) fs.toList 0 css vs (by simpa using h1) (λi f c hf' hc=> ?_) h
   have hi:i<css.length:=(List.getElem?_eq_some_iff.1 hc).1
   have:=hf i f (ds[i]'(by omega)) c (by simpa using hf') (List.getElem?_eq_getElem (by omega)) hc
   have e:(D.sct ds).fld (0+i)=ds[i]'(by omega):=by simp [D.fld,zad,show i<ds.length by omega]
   rw [e];exact this
  |arr hu h1 h2 hs hf=>
   rename_i e k ds css
   simp only [hu] at h
   refine zfb (zbS n) (.sct ds) (List.replicate k (zyh e)) 0 css vs (by simpa using h1) (λi f c hf' hc=> ?_) h
   have hi:i<css.length:=(List.getElem?_eq_some_iff.1 hc).1
   have ef:f=zyh e:=(List.mem_replicate.1 (List.mem_of_getElem? hf')).2
   subst ef
   have:=hf i (ds[i]'(by omega)) c (List.getElem?_eq_getElem (by omega)) hc
   have e2:(D.sct ds).fld (0+i)=ds[i]'(by omega):=by simp [D.fld,zad,show i<ds.length by omega]
   rw [e2];exact this
theorem zcb {t:TypeId} {d:D} {cs:List Value} {Kv:V->Prop} (hr:zan P J t d cs) (h:za9 P t d Kv):
  ∃v v',Kv v/\zam P J O v v'/\((zbk P t=some true/\v'= .agg ⟨cs⟩)\/(zbk P t=some false/\cs= [v'])):=by
 unfold za9 at h
 split at h
 .rename_i vs hv ha
  have:=zbS (O:=O) _ _ _ _ _ hr hv
  exact ⟨.agg vs,.agg ⟨cs⟩,h,.agg this.1 this.2,.inl ⟨ha,rfl⟩⟩
 .rename_i v hv ha
  obtain ⟨v',r,rfl,h1,h2⟩:=(zbS (O:=O) _ _ _ _ _ hr hv).cons_inv
  rw [h2.nil_inv]
  exact ⟨v,v',h,h1,.inr ⟨ha,rfl⟩⟩
 .exact h.elim
theorem zc1 {i o n:Nat} {cs:List Value} {e:TypeId} {esz:Nat} {m:Option Nat} {ro:Bool} {t:TypeId} (hg:H.get i=some (.cells cs e esz m ro)) (hs:zaj P t=some n) (hl:o+n<=cs.length) {v':Value}
  (hv:(zbk P t=some true/\v'= .agg ⟨(cs.drop o).take n⟩)\/(zbk P t=some false/\(cs.drop o).take n= [v'])):zeM P H t (.pointer (some ⟨i,o,none⟩))=some v':=by
 have hc:H.cells i=some cs:=by unfold zaa.cells;rw [hg]
 unfold zeM
 simp only [hc]
 rcases hv with ⟨ha,rfl⟩| ⟨ha,he⟩
 .simp only [ha,hs]
  rw [Nat.ble_eq_true_of_le hl];rfl
 .simp only [ha]
  have h1:((cs.drop o).take n)[0]? =some v':=by rw [he];rfl
  rw [List.getElem?_take] at h1
  split at h1
  .rw [List.getElem?_drop] at h1;simpa using h1
  .cases h1
theorem zhG {t:TypeId} {a:V} {a':Value} {Kv:V->Prop} (hr:SR P base H0 O J S F H) (h:ziI P S t a Kv) (ha:zam P J O a a'):∃v v',zeM P H t a'=some v'/\Kv v/\zam P J O v v':=by
 unfold ziI at h
 split at h
 .rename_i b o
  cases ha with
  |ptr hν=>
  rename_i i z
  split at h
  .rename_i cs hb
   obtain ⟨i',z',hν',hB⟩:=hr.blkT _ _ hb
   rw [hν] at hν';cases hν'
   obtain ⟨cs',m,hg,hl⟩:=hB
   split at h
   .rename_i hagg
    split at h
    .rename_i v hv
     obtain ⟨v',hv',hvr⟩:=hl.get hv
     refine ⟨v,v', ?_,h,hvr⟩
     unfold zeM
     simp only [zaa.cells,hg,hagg];exact hv'
    .exact h.elim
   .rename_i s hagg hs
    cases hle:Nat.ble (o+s) cs.length with
    |false=>rw [hle] at h;exact h.elim
    |true=>
     rw [hle] at h
     have hle':=Nat.le_of_ble_eq_true hle
     have:=(hl.drop o).take s
     exact ⟨_,.agg ⟨(cs'.drop o).take s⟩,zc1 hg hs (by rw [<-hl.1];exact hle') (.inl ⟨hagg,rfl⟩),h,.agg this.1 this.2⟩
   .exact h.elim
  .rename_i a e l hb
   cases hc:(Nat.beq o 0&&Nat.beq a t&&zbH P e&&zay P e 1&&zpv P t&&zay P t l.length) with
   |false=>rw [hc] at h;exact h.elim
   |true=>
    rw [hc] at h
    simp only [Bool.and_eq_true] at hc
    obtain ⟨⟨⟨⟨⟨c1,c2⟩,c3⟩,c4⟩,c5⟩,c6⟩:=hc
    have c1:=Nat.eq_of_beq_eq_true c1
    subst c1
    have hu:P.underlying e=some .bool:=by unfold zbH at c3;split at c3<;>simp_all
    have hagg:zbk P t=some true:=by unfold zpv at c5;split at c5<;>simp_all
    have hst:zaj P t=some l.length:=by
     unfold zay at c6
     split at c6
     .rename_i s hs;rw [hs,Nat.eq_of_beq_eq_true c6]
     .cases c6
    have hs1:zaj P e=some 1:=by
     unfold zay at c4
     split at c4
     .rename_i s hs;rw [hs,Nat.eq_of_beq_eq_true c4]
     .cases c4
    obtain ⟨i',z',hν',hB⟩:=hr.blkT _ _ hb
    rw [hν] at hν';cases hν'
    obtain ⟨cs',m,hg,hsz,h0,hlen,hrd⟩:=hB
    have hz:z=1:=by rw [hs1] at hsz;exact (Option.some.inj hsz).symm
    subst hz
    rw [Nat.mul_one] at hlen
    refine ⟨_,.agg ⟨(cs'.drop 0).take l.length⟩,zc1 hg hst (by omega) (.inl ⟨hagg,rfl⟩),h,.agg (by simp [hlen]) λj v v' hj hj'=> ?_⟩
    rw [List.getElem?_map] at hj
    cases hd:l[j]? with
    |none=>rw [hd] at hj;cases hj
    |some d=>
     rw [hd] at hj
     simp only [Option.map_some,Option.some.injEq] at hj
     subst hj
     have hR:=hrd j d hd
     have hjl:j<l.length:=(List.getElem?_eq_some_iff.1 hd).1
     have e1:(cs'.drop (j*1)).take 1= [v']:=by
      have hv':cs'[j]? =some v':=by
       rw [List.drop_zero,List.getElem?_take,if_pos hjl] at hj'
       exact hj'
      rw [Nat.mul_one,List.drop_eq_getElem_cons (by omega:j<cs'.length)]
      rw [List.getElem?_eq_getElem (by omega:j<cs'.length)] at hv'
      simp only [Option.some.injEq] at hv'
      simp [hv']
     rw [e1] at hR
     have hce:cellsOf P 20 e d=some [.prop d.asProp]:=by unfold cellsOf;rw [hu]
     exact (zbS (O:=O) 20 e d _ _ hR hce).2 0 _ _ rfl rfl
  .exact h.elim
 .rename_i b n
  cases ha with
  |ept hν=>
  rename_i i z
  split at h
  .rename_i e l hb
   cases het:Nat.beq e t with
   |false=>rw [het] at h;exact h.elim
   |true=>
    have:=Nat.eq_of_beq_eq_true het
    subst this
    rw [het] at h
    obtain ⟨hlt,h⟩:=h
    obtain ⟨i',z',hν',hB⟩:=hr.blkT _ _ hb
    rw [hν] at hν';cases hν'
    obtain ⟨cs',m,hg,hs,h0,hlen,hrd⟩:=hB
    have hd:l[n.v]? =some (zad l n.v):=by simp [zad,hlt]
    obtain ⟨v,v',hk,hvr,hv'⟩:=zcb (O:=O) (hrd n.v _ hd) h
    have:(n.v+1)*z<=l.length*z:=Nat.mul_le_mul_right z hlt
    rw [Nat.succ_mul] at this
    exact ⟨v,v',zc1 hg hs (by omega) hv',hk,hvr⟩
  .rename_i _ e l hb
   cases het:Nat.beq e t with
   |false=>rw [het] at h;exact h.elim
   |true=>
    have:=Nat.eq_of_beq_eq_true het
    subst this
    rw [het] at h
    obtain ⟨hlt,h⟩:=h
    obtain ⟨i',z',hν',hB⟩:=hr.blkT _ _ hb
    rw [hν] at hν';cases hν'
    obtain ⟨cs',m,hg,hs,h0,hlen,hrd⟩:=hB
    have hd:l[n.v]? =some (zad l n.v):=by simp [zad,hlt]
    obtain ⟨v,v',hk,hvr,hv'⟩:=zcb (O:=O) (hrd n.v _ hd) h
    have:(n.v+1)*z<=l.length*z:=Nat.mul_le_mul_right z hlt
    rw [Nat.succ_mul] at this
    exact ⟨v,v',zc1 hg hs (by omega) hv',hk,hvr⟩
  .rename_i w e e' l hb
   cases het:(Nat.beq e t&&zai P t) with
   |false=>rw [het] at h;exact h.elim
   |true=>
    simp only [Bool.and_eq_true] at het
    obtain ⟨het,hsl⟩:=het
    have hee:=Nat.eq_of_beq_eq_true het
    subst hee
    simp only [het,hsl,Bool.and_self,cond_true] at h
    obtain ⟨hlt,hn,hli,hh⟩:=h
    obtain ⟨i',z',hν',hB⟩:=hr.blkT _ _ hb
    rw [hν] at hν';cases hν'
    obtain ⟨cs',m,hg,hs,h0,hlen,hone,hrd⟩:=hB
    have hd:l[n.v]? =some (zad l n.v):=by simp [zad,hlt]
    have hagg:zbk P e=some false:=by
     unfold zai at hsl
     split at hsl
     .rename_i e1 hu;unfold zbk;rw [hu]
     .cases hsl
    rcases hrd n.v _ hd with ⟨h1,hz,hc⟩| ⟨x,h1⟩| ⟨r,q,y,c,h1,hz,hu,hq,hc,hcap⟩
    .subst hz
     refine ⟨_,.slice none 0 0, ?_,hn h1,.val rfl⟩
     unfold zeM
     simp only [zaa.cells,hg,hagg,Nat.mul_one];exact hc hsl
    .exact (hh x h1).elim
    .subst hz
     refine ⟨_,.slice (some ⟨q,0,none⟩) r.length c, ?_,hli r h1,.osl hq hcap⟩
     unfold zeM
     simp only [zaa.cells,hg,hagg,Nat.mul_one];exact hc
  .exact h.elim
 .rename_i b v n k
  cases ha with
  |oel hν=>
  rename_i q z
  split at h
  .rename_i v' e e' l hb
   cases het:(Nat.beq v v'&&Nat.beq e' t) with
   |false=>rw [het] at h;exact h.elim
   |true=>
    simp only [Bool.and_eq_true] at het
    have e1:=Nat.eq_of_beq_eq_true het.1
    have e2:=Nat.eq_of_beq_eq_true het.2
    subst e1 e2
    simp only [het.1,het.2,Bool.and_self,cond_true] at h
    obtain ⟨hlt,hkt,h⟩:=h
    have hd:l[n.v]? =some (zad l n.v):=by simp [zad,hlt]
    obtain ⟨r,hr1⟩:∃r,zad l n.v= .list r:=by
     cases hc:zad l n.v<;>rw [hc] at hkt<;>first|exact ⟨_,rfl⟩| (simp [D.len,D.asList] at hkt)
    rw [hr1] at hd hkt h
    obtain ⟨i',z',hν',hB⟩:=hr.blk (.sub v n.v) (.arr e' r) ⟨b,e,e',l,r,hb,hd,rfl⟩
    rw [hν] at hν';cases hν'
    obtain ⟨cs',m,hg,hs,h0,hlen,hrd⟩:=hB
    have hkt':k.v<r.length:=hkt
    have hd2:r[k.v]? =some (zad r k.v):=by simp [zad,hkt']
    obtain ⟨u,u',hk,hvr,hv'⟩:=zcb (O:=O) (hrd k.v _ hd2) h
    have:(k.v+1)*z<=r.length*z:=Nat.mul_le_mul_right z hkt'
    rw [Nat.succ_mul] at this
    exact ⟨u,u',zc1 hg hs (by omega) hv',hk,hvr⟩
  .exact h.elim
 .rename_i t' d
  cases ha with
  |dpt hi hs h0 hl hrd=>
  cases het:Nat.beq t t' with
  |false=>rw [het] at h;exact h.elim
  |true=>
   have:=Nat.eq_of_beq_eq_true het
   subst this
   rw [het] at h
   obtain ⟨_,e,m,ro,hg⟩:=hr.sig _ _ hi
   obtain ⟨v,v',hk,hvr,hv'⟩:=zcb (O:=O) hrd h
   exact ⟨v,v',zc1 hg hs hl hv',hk,hvr⟩
 .exact h.elim
end
end Go.Ev
