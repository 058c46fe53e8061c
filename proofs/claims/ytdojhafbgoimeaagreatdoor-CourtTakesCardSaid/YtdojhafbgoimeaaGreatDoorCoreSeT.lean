/- Part of the proof. -/
import Derived.Test.YtdojhafbgoimeaaGreatDoorCoreSeS

namespace Go.Ev
noncomputable section
section
variable {P:Program} {base:Nat} {H0:zaa×Sig} {O:Nu} {J:Sig} {S:SS} {F:zab} {H:zaa} {K:V->SS->Prop} {Kv:V->Prop}
theorem zam.srcA (hr:SR P base H0 O J S F H) {e ts:TypeId} {inf:TypeInfo} {x:V} {x':Value} {K:NL->List D->Prop} (hi:P.info? e=some inf) (h0:0<inf.size) (hts:P.underlying ts=some (.slice e)\/P.underlying ts=some .string) (h:ztF P S e ts x K) (hx:zam P J O x x'):
  ∃n l row,K n l/\srcA H inf.size x'=some (n.v,row)/\zbb P J e inf.size l row/\l.length=n.v:=by
 have hst:zaj P e=some inf.size:=by unfold zaj;rw [hi];rfl
 unfold ztF at h
 have one:(znM P e&&zce P e)=true->P.underlying e=some (.int .u8)/\inf.size=1:=λhc=>by
  simp only [Bool.and_eq_true] at hc
  refine ⟨by have:=hc.1;unfold znM at this;split at this<;>simp_all, ?_⟩
  have:=hc.2
  unfold zce at this
  rw [hst] at this
  exact Nat.eq_of_beq_eq_true this
 have str:∀s:List UInt8,P.underlying e=some (.int .u8)/\inf.size=1->Ev.srcA H inf.size (.string ⟨⟨s⟩⟩)=some (s.length,s.map λb=>Value.int .u8 b.toNat)/\zbb P J e inf.size (zvo s) (s.map λb=>Value.int .u8 b.toNat)/\(zvo s).length=s.length:=λs ⟨hu,h1⟩=>by
  refine ⟨by unfold Ev.srcA;rw [h1];rfl,⟨by simp [zvo,h1],λj d hj=> ?_⟩,by simp [zvo]⟩
  unfold zvo at hj
  rw [List.getElem?_map] at hj
  cases hb:s[j]? with
  |none=>rw [hb] at hj;cases hj
  |some b=>
   rw [hb] at hj
   cases hj
   have hd:(List.drop (j*inf.size) (s.map λb=>Value.int .u8 b.toNat)).take inf.size= [Value.int .u8 b.toNat]:=by
    rw [h1,Nat.mul_one]
    have hl:j<s.length:=(List.getElem?_eq_some_iff.1 hb).1
    rw [List.drop_eq_getElem_cons (by simpa using hl)]
    have:s[j]=b:=(List.getElem?_eq_some_iff.1 hb).2
    simp [this]
   rw [hd]
   exact .int hu (by rw [hst,h1])
 split at h
 .rename_i s
  cases hc:(znM P e&&zce P e) with
  |false=>rw [hc] at h;exact h.elim
  |true=>
   rw [hc] at h
   cases hx with
   |str=>obtain ⟨q1,q2,q3⟩:=str s (one hc);exact ⟨_,_,_,h,q1,q2,q3⟩
 .rename_i s
  cases hc:(znM P e&&zce P e) with
  |false=>rw [hc] at h;exact h.elim
  |true=>
   rw [hc] at h
   cases hx with
   |val _=>obtain ⟨q1,q2,q3⟩:=str s.data.toList (one hc);exact ⟨_,_,_,h,q1,q2,q3⟩
 .cases hx with
  |val _=>exact ⟨_,_,[],h,by simp [Ev.srcA,NL.v],.nil,rfl⟩
 .rename_i b o n c
  split at h
  .rename_i e' l hb
   cases he:(Nat.beq e e'&&true) with
   |false=>simp only [Bool.and_true] at he;rw [he] at h;exact h.elim
   |true=>
    simp only [Bool.and_true] at he
    have:=Nat.eq_of_beq_eq_true he
    subst this
    rw [he] at h
    obtain ⟨hle,h⟩:=h
    obtain ⟨i,z,hν,hB⟩:=hr.blkT _ _ hb
    obtain ⟨cs,m,hg,hs,hz0,hlen,hrd⟩:=hB
    have hz:z=inf.size:=by rw [hst] at hs;exact (Option.some.inj hs).symm
    subst hz
    have hrow:zbb P J e inf.size l cs:=⟨hlen,hrd⟩
    have hmul:(o.v+n.v)*inf.size<=l.length*inf.size:=Nat.mul_le_mul_right _ hle
    rw [Nat.add_mul] at hmul
    have hc:H.cells i=some cs:=by unfold zaa.cells;rw [hg]
    have key:∀cap off,(n.v≠0->off=o.v*inf.size)->Ev.srcA H inf.size (.slice (some ⟨i,off,none⟩) n.v cap)=some (n.v,((cs.drop (o.v*inf.size)).take (n.v*inf.size))):=by
     intro cap off hoff
     unfold Ev.srcA
     cases hn:Nat.beq n.v 0 with
     |true=>have:=Nat.eq_of_beq_eq_true hn;simp [this]
     |false=>
      have hne:n.v≠0:=λe=>by rw [e] at hn;cases hn
      simp only [hc]
      rw [hn,hoff hne,Nat.ble_eq_true_of_le (by omega)];rfl
    refine ⟨n,_,(cs.drop (o.v*inf.size)).take (n.v*inf.size),h, ?_,(hrow.drop o.v).take n.v,by rw [List.length_take,List.length_drop];omega⟩
    cases hx with
    |slcU hν'=>rw [hν] at hν';cases hν';exact key _ _ (λ_=>rfl)
    |slc hν' hc' hn' ho=>
     rw [hν] at hν';cases hν'
     exact key _ _ (λhne=>by rcases ho with ho|ho;exact ho;omega)
  .exact h.elim
 .rename_i t d
  cases ht:Nat.beq t ts with
  |false=>rw [ht] at h;exact h.elim
  |true=>
   have:=Nat.eq_of_beq_eq_true ht
   subst this
   rw [ht] at h
   cases hx with
   |dat hu hrd=>
    have hts:P.underlying t=some (.slice e):=by rcases hts with hts|hts;exact hts;rw [hu] at hts;cases hts
    rcases hrd.sliceInv hts with ⟨rfl,hcs⟩| ⟨l,i,o,c,sz,cs',rfl,hcs,hsz,⟨zz,hσ,hzz⟩,hle,hc,hel⟩
    .cases hcs;exact ⟨_,_,[],h,by simp [Ev.srcA,NL.v,D.len,D.asList],.nil,rfl⟩
    .cases hcs
     have hz:sz=inf.size:=by rw [hst] at hsz;exact (Option.some.inj hsz).symm
     subst hz
     obtain ⟨_,e1,m,ro,hg⟩:=hr.sig _ _ hσ
     have hcl:H.cells i=some cs':=by unfold zaa.cells;rw [hg]
     refine ⟨.sym l.length,l,(cs'.drop o).take (l.length*inf.size),h, ?_,⟨by rw [List.length_take,List.length_drop];omega,λj d hj=> ?_⟩,rfl⟩
     .unfold Ev.srcA
      cases hn:Nat.beq l.length 0 with
      |true=>have:=Nat.eq_of_beq_eq_true hn;simp [this,NL.v]
      |false=>simp only [hcl];rw [hn,Nat.ble_eq_true_of_le hle];rfl
     .have hjl:j<l.length:=(List.getElem?_eq_some_iff.1 hj).1
      have hm:(j+1)*inf.size<=l.length*inf.size:=Nat.mul_le_mul_right _ hjl
      rw [Nat.succ_mul] at hm
      have:=hel j d hj
      rw [List.drop_take,List.drop_drop,List.take_take,Nat.min_eq_left (by omega)]
      exact this
 .exact h.elim
theorem SR.pushG (hr:SR P base H0 O J S F H) {b i z:Nat} {k:SB} (hk:S.hp.get b=some k) (hν:O (Bid.top b)=some (i,z)) (hro:S.ro<=b) {k':SB} {cs1 new:List Value} {e:TypeId} {esz:Nat}
  (hb:∀O',XN O O'->zdf P J O' z k' (some (.cells new e esz (some i) false)))
  (hat:∀x k2,At ((S.write b none).alloc k') x k2->(x= .top S.nx/\k'=k2)\/(x≠ .top S.nx/\x≠ .top b/\At S x k2/\(Wr ((S.write b none).alloc k') x->Wr S x))) (hvers:zki ((S.write b none).alloc k')):
  SR P base H0 (λb=>if b=S.nx then some (H.next,z) else O b) J ((S.write b none).alloc k') F (((H.kill (H.mate i)).write i (some (.cells cs1 e esz (some H.next) false))).alloc (.cells new e esz (some i) false)):=by
 have hx:=zxF hr z
 have hn1:((H.kill (H.mate i)).write i (some (.cells cs1 e esz (some H.next) false))).next=H.next:=zaa.next_kill _ _
 have hilt:=hr.lt b i z hν
 have hget:∀j,(((H.kill (H.mate i)).write i (some (.cells cs1 e esz (some H.next) false))).alloc (.cells new e esz (some i) false)).get j=
   if j=H.next then some (.cells new e esz (some i) false) else if j=i then some (.cells cs1 e esz (some H.next) false) else if H.mate i=some j then none else H.get j:=λj=>by
  rw [zaa.get_alloc,hn1,zaa.get_write,zaa.get_kill]
 have hnx:(((H.kill (H.mate i)).write i (some (.cells cs1 e esz (some H.next) false))).alloc (.cells new e esz (some i) false)).next=H.next+1:=by
  show Nat.succ _=_;rw [hn1]
 have hbi:=hr.ownT hk hro hν
 have hmate:∀m,H.mate i=some m->base<=m/\m<H.next/\J m=none/\∀b' k' z',At S b' k'->O b'≠some (m,z'):=λm hm=>let q:=hr.mates (.top b) k i z m hk hν hm;⟨q.1 hro,q.2⟩
 have hne:∀(b:Bid) i z',O b=some (i,z')->b≠S.nx/\i≠H.next:=λb i z' hb=>by
  refine ⟨λe=> ?_,λe=> ?_⟩
  .rw [e,hr.dom _ (Nat.le_refl _)] at hb;cases hb
  .have:=hr.lt _ _ _ hb;omega
 have hkeep:∀(b':Bid) i' z' k2,At S b' k2->O b'=some (i',z')->b'≠b->(((H.kill (H.mate i)).write i (some (.cells cs1 e esz (some H.next) false))).alloc (.cells new e esz (some i) false)).get i'=H.get i':=λb' i' z' k2 h2 h3 hne'=>by
  rw [hget,if_neg (hne _ _ _ h3).2,if_neg (λe1=>hne' (hr.inj _ _ _ _ _ _ _ h2 (show At S (.top b) k from hk) (e1▸h3) hν)),if_neg (λhm=>(hmate _ hm).2.2.2 b' k2 z' h2 h3)]
 refine ⟨λt v h=>(hr.fr t v h).mono (.refl _) hx,hr.fsz,hr.top,hr.mks.mono hx, ?_, ?_, ?_, ?_, ?_, ?_, ?_, ?_, ?_, ?_,by rw [hnx];have:=hr.nxt;omega,Nat.le_succ_of_le hr.role,hr.sb,hvers⟩
 .intro b' k2 h
  rcases hat b' k2 h with ⟨e1,e2⟩| ⟨e1,e2,h,_⟩
  .subst e1 e2
   exact ⟨H.next,z,if_pos rfl,by rw [hget,if_pos rfl];exact hb _ hx⟩
  .obtain ⟨i',z',h1,h2⟩:=hr.blk b' k2 h
   exact ⟨i',z',by rw [if_neg e1];exact h1,by rw [hkeep b' i' z' k2 h h1 e2];exact h2.mono (.refl _) hx⟩
 .intro b' i' z' h
  rw [hnx]
  by_cases e1:b'=S.nx
  .simp only [e1,if_true,Option.some.injEq,Prod.mk.injEq] at h;omega
  .simp only [if_neg e1] at h;have:=hr.lt _ _ _ h;omega
 .intro b' h
  have:S.nx+1<=b'.id:=h
  simp only [if_neg (show b'≠S.nx from λe=>by subst e;simp only [Bid.id] at this;omega)]
  exact hr.dom b' (by omega)
 .intro b1 b2 k1 k2 i' z1 z2 a1 a2 h h'
  rcases hat _ _ a1 with ⟨e1,_⟩| ⟨e1,_,a1,_⟩<;>rcases hat _ _ a2 with ⟨e2,_⟩| ⟨e2,_,a2,_⟩
  .rw [e1,e2]
  .simp only [e1,if_true,Option.some.injEq,Prod.mk.injEq] at h;simp only [if_neg e2] at h'
   exact absurd h.1.symm (hne _ _ _ h').2
  .simp only [e2,if_true,Option.some.injEq,Prod.mk.injEq] at h';simp only [if_neg e1] at h
   exact absurd h'.1.symm (hne _ _ _ h).2
  .simp only [if_neg e1] at h;simp only [if_neg e2] at h';exact hr.inj _ _ _ _ _ _ _ a1 a2 h h'
 .intro b' k2 i' z' a hw h
  rcases hat _ _ a with ⟨e1,_⟩| ⟨e1,_,a,aw⟩
  .simp only [e1,if_true,Option.some.injEq,Prod.mk.injEq] at h;have:=hr.nxt;omega
  .simp only [if_neg e1] at h;exact hr.own b' k2 i' z' a (aw hw) h
 .intro i' c h
  obtain ⟨h1,h2⟩:=hr.sig i' c h
  refine ⟨by rw [hnx];omega, ?_⟩
  rw [hget,if_neg (by omega),if_neg (λe1=>by have:=hr.apart b k i z hk hν;rw [<-e1,h] at this;cases this),if_neg (λhm=>by rw [(hmate _ hm).2.2.1] at h;cases h)]
  exact h2
 .intro b' k2 i' z' h h'
  rcases hat _ _ h with ⟨e1,_⟩| ⟨e1,_,h,_⟩
  .simp only [e1,if_true,Option.some.injEq,Prod.mk.injEq] at h'
   cases hs:J i' with
   |none=>rfl
   |some c=>have:=(hr.sig i' c hs).1;omega
  .simp only [if_neg e1] at h';exact hr.apart b' k2 i' z' h h'
 .intro b' k2 i' z' m h h' hm
  rw [hnx]
  rcases hat _ _ h with ⟨e1,_⟩| ⟨e1,e2,h,aw⟩
  .simp only [e1,if_true,Option.some.injEq,Prod.mk.injEq] at h'
   rw [<-h'.1,zdM (by rw [hget,if_pos rfl])] at hm
   cases hm
   refine ⟨λ_=>hbi,by omega,hr.apart b k i z hk hν,λb2 k4 z2 h4 hν2=> ?_⟩
   rcases hat _ _ h4 with ⟨e3,_⟩| ⟨e3,e4,h4,_⟩
   .simp only [e3,if_true,Option.some.injEq,Prod.mk.injEq] at hν2;omega
   .simp only [if_neg e3] at hν2
    exact e4 (hr.inj _ _ _ _ _ _ _ h4 (show At S (.top b) k from hk) hν2 hν)
  .simp only [if_neg e1] at h'
   rw [zaa.mate_congr (hkeep b' i' z' k2 h h' e2)] at hm
   obtain ⟨q1,q2,q3,q4⟩:=hr.mates b' k2 i' z' m h h' hm
   refine ⟨λhw=>q1 (aw hw),by omega,q3,λb2 k4 z2 h4 hν2=> ?_⟩
   rcases hat _ _ h4 with ⟨e3,_⟩| ⟨e3,e4,h4,_⟩
   .simp only [e3,if_true,Option.some.injEq,Prod.mk.injEq] at hν2;omega
   .simp only [if_neg e3] at hν2
    exact q4 b2 k4 z2 h4 hν2
 .have h3:base<=(H.kill (H.mate i)).wlow:=by
   cases hm:H.mate i with
   |none=>exact hr.wl
   |some m=>
    have:=(hmate m hm).1
    simp only [zaa.kill,zaa.write]
    cases hbl:Nat.ble H.wlow m with
    |true=>exact hr.wl
    |false=>simpa using this
  simp only [zaa.alloc,zaa.write]
  cases hbl:Nat.ble (H.kill (H.mate i)).wlow i with
  |true=>exact h3
  |false=>exact hbi
 .intro j hj
  have:=hr.nxt
  rw [hget,if_neg (by omega),if_neg (by omega),if_neg (λhm=>by have:=(hmate _ hm).1;omega)]
  exact hr.old j hj
theorem SR.push (hr:SR P base H0 O J S F H) {b i z:Nat} {k:SB} (hk:S.hp.get b=some k) (hν:O (Bid.top b)=some (i,z)) (hro:S.ro<=b) {k':SB} {cs1 new:List Value} {e:TypeId} {esz:Nat}
  (hb:∀O',XN O O'->zdf P J O' z k' (some (.cells new e esz (some i) false))) (hno:k'.isOwn=false:=by rfl):
  SR P base H0 (λb=>if b=S.nx then some (H.next,z) else O b) J ((S.write b none).alloc k') F (((H.kill (H.mate i)).write i (some (.cells cs1 e esz (some H.next) false))).alloc (.cells new e esz (some i) false)):=by
 have hg1:∀b',(S.write b none).hp.get b'=if b'=b then none else S.hp.get b':=λb'=>T.get_put _ _ _ _
 have hg2:∀b',((S.write b none).alloc k').hp.get b'=if b'=S.nx then some k' else (S.write b none).hp.get b':=λb'=>T.get_put _ _ _ _
 refine hr.pushG hk hν hro hb (λx k2 h=> ?_) (zki.put (S:=S.write b none) (hr.vers.put hg1 zcw.none (Nat.le_refl _)) hg2 (zcw.of hno) (Nat.le_succ _))
 rcases At.put (S:=S.write b none) hg2 (zcw.of hno) rfl h with ⟨a,b⟩| ⟨a1,h,a2⟩
 .exact .inl ⟨a,by cases b;rfl⟩
 .rcases At.put (S:=S) hg1 zcw.none rfl h with ⟨_,b⟩| ⟨b1,h,b2⟩
  .cases b
  .exact .inr ⟨a1,b1,h,λhw=>b2 (a2 hw)⟩
theorem zoa {n:NL} {A B:Prop} (h:zn9 n A B):(n.v=0/\A)\/(0<n.v/\B):=by
 cases n with
 |lit n=>
  simp only [zn9] at h
  cases hn:Nat.beq n 0 with
  |true=>rw [hn] at h;exact .inl ⟨Nat.eq_of_beq_eq_true hn,h⟩
  |false=>
   rw [hn] at h
   refine .inr ⟨?_,h⟩
   rcases Nat.eq_zero_or_pos n with e|e
   .rw [e] at hn;cases hn
   .exact e
 |sym n=>
  rcases Nat.eq_zero_or_pos n with e|e
  .exact .inl ⟨e,h.1 e⟩
  .exact .inr ⟨e,h.2 e⟩
theorem zje {pos:Bool} {n:NL} {A B:Prop} (h:zob pos n A B):(n.v=0/\A)\/(0<n.v/\B):=by
 unfold zob at h
 cases pos with
 |true=>exact .inr h
 |false=>exact zoa h
theorem zpD {b n:Nat} {K:Prop} (h:leA b n K):n<=zsg b/\K:=by
 unfold leA at h;unfold zsg
 cases hq:Nat.ble b 16 with
 |true=>rw [hq] at h;exact h
 |false=>rw [hq] at h;exact h
theorem zne {P:Program} {e:TypeId} {inf:TypeInfo} {n:Nat} (hi:P.info? e=some inf) (h:n<=16777216):n<=zsh P e:=by
 rw [zfl hi];unfold zsg
 cases Nat.ble inf.bytes 16
 .exact h
 .exact Nat.le_trans h (by decide)
theorem zcB {t t2:TypeId} {s x:V} {s' x':Value} (hr:SR P base H0 O J S F H) (h:zbJ P S t t2 s x K) (hs:zam P J O s s') (hx:zam P J O x x'):OpR P base H0 O J S F (zbf P H t s' x') K:=by
 unfold zbJ at h
 split at h
 .rename_i e hu
  split at h
  rotate_left
  .exact h.elim
  rename_i e2 hu2
  split at h
  .rename_i inf hi
   cases hc:(Nat.beq e e2&&zdF inf&&Nat.ble inf.bytes 4096&&Nat.blt 0 inf.bytes&&Nat.blt 0 inf.size) with
   |false=>rw [hc] at h;exact h.elim
   |true=>
    rw [hc] at h
    simp only [cond_true] at h
    simp only [Bool.and_eq_true] at hc
    obtain ⟨⟨⟨⟨c1,c2⟩,c3⟩,c4⟩,c5⟩:=hc
    have:=Nat.eq_of_beq_eq_true c1
    subst this
    have h0:=zbg c5
    have hst:zaj P e=some inf.size:=by unfold zaj;rw [hi];rfl
    unfold zdF at c2
    cases hz:inf.zero with
    |none=>rw [hz] at c2;cases c2
    |some z=>
    rw [hz] at c2
    have hu2':P.underlying t2=some (.slice e)\/P.underlying t2=some .string:=by
     unfold zvm at hu2
     split at hu2
     .cases hu2;left;assumption
     .right;assumption
     .cases hu2
    obtain ⟨k,new,row,h',hsrc,hrow,hkl⟩:=zam.srcA hr hi h0 hu2' h hx
    clear h
    have hnl:row.length=k.v*inf.size:=by rw [hrow.1,hkl]
    have happ:zbf P H t s' x'=zaG P H e inf.size s' k.v row:=by
     unfold zbf
     simp only [hu,hi,hz,c2,c3,c4,Bool.and_self,cond_true,hsrc]
    rw [happ]
    have hpos:Nat.blt 0 inf.size=true:=c5
    have h'':=zje h'
    clear h'
    rcases h'' with ⟨hk0,h⟩| ⟨hk0,h⟩
    ·-- nothing is appended
     have e0:Nat.beq k.v 0=true:=by rw [hk0];rfl
     have hsome:∀ad l c,zaG P H e inf.size (.slice (some ⟨ad,l,none⟩) c 0) k.v row=zaG P H e inf.size (.slice (some ⟨ad,l,none⟩) c 0) k.v row:=λ_ _ _=>rfl
     have fin:∀s'',zaG P H e inf.size s'' k.v row=some (s'',H)->s''=s'->OpR P base H0 O J S F (zaG P H e inf.size s' k.v row) K:=λs'' h1 h2=>by
      subst h2
      rw [h1]
      cases hq:zl8 s with
      |false=>rw [hq] at h;exact h.elim
      |true=>rw [hq] at h;exact OpR.pure hr hs h
     have nilc:∀c,zaG P H e inf.size (.slice none 0 c) k.v row=some (.slice none 0 c,H):=λc=>by simp only [zaG,e0,Nat.beq_refl,cond_true]
     have somec:∀i o l c,zaG P H e inf.size (.slice (some ⟨i,o,none⟩) l c) k.v row=some (.slice (some ⟨i,o,none⟩) l c,H):=λi o l c=>by simp only [zaG,e0,cond_true]
     cases hq:zl8 s with
     |false=>rw [hq] at h;exact h.elim
     |true=>
      unfold zl8 at hq
      split at hq
      .cases hs with|val _=>exact fin _ (nilc 0) rfl
      .cases hs with
       |slcU _=>exact fin _ (somec _ _ _ _) rfl
       |slc _ _ _ _=>exact fin _ (somec _ _ _ _) rfl
      .cases hs with
       |dat ht hrd=>
        rcases hrd.sliceInv ht with ⟨_,hcs⟩| ⟨l,i,o,c,sz,cs',_,hcs,_⟩
        .cases hcs;exact fin _ (nilc 0) rfl
        .cases hcs;exact fin _ (somec _ _ _ _) rfl
      .cases hq
    .have e0:Nat.beq k.v 0=false:=ziY (by omega)
     split at h
     ·-- onto nil
      replace h:=zpD h;obtain ⟨hbig,h⟩:=h
      rw [<-zfl hi] at hbig
      cases hs with
      |val _=>
      have ha:zaG P H e inf.size (.slice none 0 0) k.v row=some (.slice (some ⟨H.next,0,none⟩) k.v UNK,H.alloc (.cells row e inf.size none false)):=by
       simp only [zaG,e0,Nat.beq_refl,cond_true,cond_false,Nat.ble_eq_true_of_le hbig,zd1,za2 hrow.one]
      rw [ha]
      refine ⟨_,_,rfl,_,_,_,J,h,hr.alloc (z:=inf.size) (k:= .arr e new) (λO' hν=> .arr hst h0 hrow), ?_,zfy _ _ _,.refl _,rfl,.alloc _ _⟩
      have:=zam.slcU (P:=P) (J:=J) (O:=λb=>if b=S.nx then some (H.next,inf.size) else O b) (b:=S.nx) (o:= .lit 0) (n:=k) (if_pos rfl)
      simpa [NL.v] using this
     .rename_i b o n c
      split at h
      .rename_i e' l hb
       cases he:Nat.beq e e' with
       |false=>rw [he] at h;exact h.elim
       |true=>
        have:=Nat.eq_of_beq_eq_true he
        subst this
        rw [he] at h
        simp only [cond_true] at h
        obtain ⟨hle,h⟩:=h
        replace h:=zpD h;obtain ⟨hbig,h⟩:=h
        have hlim:=zh6 inf.bytes
        have hbig0:=hbig
        rw [<-zfl hi] at hbig
        obtain ⟨i,zz,hν,hB⟩:=hr.blkT _ _ hb
        obtain ⟨cs,m,hg,hsz,hz0,hlen,hrd⟩:=hB
        have hzz:zz=inf.size:=by rw [hst] at hsz;exact (Option.some.inj hsz).symm
        subst hzz
        have hR:zbb P J e inf.size l cs:=⟨hlen,hrd⟩
        have hmul:(o.v+n.v)*inf.size<=l.length*inf.size:=Nat.mul_le_mul_right _ hle
        rw [Nat.add_mul] at hmul
        have hold:zbb P J e inf.size ((l.drop o.v).take n.v) ((cs.drop (o.v*inf.size)).take (n.v*inf.size)):=(hR.drop o.v).take n.v
        have hout:=hold.append hrow
        have hb1:=Nat.beq_refl e
        have hb2:=Nat.beq_refl inf.size
        have hb3:=Nat.ble_eq_true_of_le hbig
        -- anew
        have out:∀(cap:Nat) (off:Nat),cap≠UNK->cap<n.v+k.v->(n.v≠0->off=o.v*inf.size)->off<=o.v*inf.size->K (.slc S.nx (.lit 0) (n.add k) none) (S.alloc (.arr e ((l.drop o.v).take n.v++new)))->
          OpR P base H0 O J S F (zaG P H e inf.size (.slice (some ⟨i,off,none⟩) n.v cap) k.v row) K:=by
         intro cap off hcu hgt hoff hoff2 h
         have hrw:(cs.drop off).take (n.v*inf.size)=(cs.drop (o.v*inf.size)).take (n.v*inf.size):=by
          rcases Nat.eq_zero_or_pos n.v with hn0|hn0
          .rw [hn0];simp
          .rw [hoff (by omega)]
         have ha:zaG P H e inf.size (.slice (some ⟨i,off,none⟩) n.v cap) k.v row=some (.slice (some ⟨H.next,0,none⟩) (n.v+k.v) UNK,H.alloc (.cells ((cs.drop (o.v*inf.size)).take (n.v*inf.size)++row) e inf.size none false)):=by
          have hcap:Nat.beq cap UNK=false:=ziY hcu
          have hcap2:Nat.ble (n.v+k.v) cap=false:=by
           cases hq:Nat.ble (n.v+k.v) cap with
           |false=>rfl
           |true=>have:=Nat.le_of_ble_eq_true hq;omega
          simp only [zaG,e0,cond_false,hg,hb1,hb2,hb3,Nat.ble_eq_true_of_le (show off+n.v*inf.size<=cs.length by omega),Bool.and_self,cond_true,hcap,hcap2,zd1,hrw,za2 hout.one]
         rw [ha]
         refine ⟨_,_,rfl,_,_,_,J,h,hr.alloc (z:=inf.size) (k:= .arr e _) (λO' hν=> .arr hst h0 hout), ?_,zfy _ _ _,.refl _,rfl,.alloc _ _⟩
         have:=zam.slcU (P:=P) (J:=J) (O:=λb=>if b=S.nx then some (H.next,inf.size) else O b) (b:=S.nx) (o:= .lit 0) (n:=n.add k) (if_pos rfl)
         rw [NL.v_add] at this;simpa [show (NL.lit 0).v=0 from rfl] using this
        split at h
        ·-- it is not known how much room there is
         cases hro:Nat.ble S.ro b with
         |false=>rw [hro] at h;exact h.elim
         |true=>
          rw [hro] at h
          have hro':=Nat.le_of_ble_eq_true hro
          cases hs with
          |slcU hν'=>
          rw [hν] at hν';cases hν'
          have hm:=zdM hg
          have hkn:({(H.kill m) with next:=H.next}:zaa)=H.kill m:=by cases m<;>rfl
          have ha:zaG P H e inf.size (.slice (some ⟨i,o.v*inf.size,none⟩) n.v UNK) k.v row=some (.slice (some ⟨H.next,0,none⟩) (n.v+k.v) UNK,
            ((H.kill (H.mate i)).write i (some (.cells (cs.take (o.v*inf.size+n.v*inf.size)) e inf.size (some H.next) false))).alloc (.cells ((cs.drop (o.v*inf.size)).take (n.v*inf.size)++row) e inf.size (some i) false)):=by
           simp only [zaG,e0,cond_false,hg,hb1,hb2,hb3,Nat.ble_eq_true_of_le (show o.v*inf.size+n.v*inf.size<=cs.length by omega),Bool.and_self,cond_true,Nat.beq_refl UNK,zge,zaO,hout.one,hpos,hm,hkn]
          rw [ha]
          refine ⟨_,_,rfl,_,_,_,J,h,hr.push hb hν hro' (k':= .arr e _) (λO' hν=>⟨_,some i,rfl,hst,h0,hout.1,hout.2⟩), ?_,zfy _ _ _,.refl _,rfl,.push _ _ _ hro'⟩
          have:=zam.slcU (P:=P) (J:=J) (O:=λb=>if b=S.nx then some (H.next,inf.size) else O b) (b:=S.nx) (o:= .lit 0) (n:=n.add k) (if_pos rfl)
          rw [NL.v_add] at this;simpa [show (NL.lit 0).v=0 from rfl] using this
        .rename_i c0
         cases hs with
         |slc hν' hcu hnc ho=>
         rename_i zq off
         rw [hν] at hν';cases hν'
         have inn:n.v+k.v<=c0.v->(o.v+n.v+k.v<=l.length/\cond (Nat.ble S.ro b) (K (.slc b o (n.add k) (some c0)) (S.write b (some (.arr e (l.take (o.v+n.v)++new++l.drop (o.v+n.v+k.v)))))) False)->OpR P base H0 O J S F (zaG P H e inf.size (.slice (some ⟨i,off,none⟩) n.v c0.v) k.v row) K:=by
          rintro hcap ⟨hroom,h⟩
          cases hro:Nat.ble S.ro b with
          |false=>rw [hro] at h;exact h.elim
          |true=>
           rw [hro] at h
           have hro':=Nat.le_of_ble_eq_true hro
           have hoff:off=o.v*inf.size:=by rcases ho with ho|ho;exact ho;omega
           subst hoff
           have hm2:(o.v+n.v+k.v)*inf.size<=l.length*inf.size:=Nat.mul_le_mul_right _ hroom
           rw [Nat.add_mul,Nat.add_mul] at hm2
           have hw:=zaM (o:=o.v*inf.size+n.v*inf.size) (vs:=row) hg (by rw [hnl];omega) hrow.one
           have ha:zaG P H e inf.size (.slice (some ⟨i,o.v*inf.size,none⟩) n.v c0.v) k.v row=some (.slice (some ⟨i,o.v*inf.size,none⟩) (n.v+k.v) c0.v,(H.kill (H.mate i)).write i (some (.cells (zaZ cs (o.v*inf.size+n.v*inf.size) row) e inf.size none false))):=by
            have hcap':Nat.beq c0.v UNK=false:=ziY (by omega)
            simp only [zaG,e0,cond_false,hg,hb1,hb2,hb3,Nat.ble_eq_true_of_le (show o.v*inf.size+n.v*inf.size<=cs.length by omega),Bool.and_self,cond_true,hcap',Nat.ble_eq_true_of_le hcap,hw]
           rw [ha]
           have hnew:zbb P J e inf.size (l.take (o.v+n.v)++new++l.drop (o.v+n.v+k.v)) (zaZ cs (o.v*inf.size+n.v*inf.size) row):=by
            unfold zaZ
            rw [hnl,show o.v*inf.size+n.v*inf.size+k.v*inf.size=(o.v+n.v+k.v)*inf.size by rw [Nat.add_mul,Nat.add_mul],show o.v*inf.size+n.v*inf.size=(o.v+n.v)*inf.size by rw [Nat.add_mul]]
            exact ((hR.take _).append hrow).append (hR.drop _)
           refine ⟨_,_,rfl,_,_,O,J,h,hr.write hb hν hro' (k':= .arr e _) (.arr hst h0 hnew), ?_,.refl _,.refl _,rfl,.write _ _ _ hro'⟩
           have:=zam.slc (P:=P) (J:=J) (n:=n.add k) (o:=o) (c:=c0) hν hcu (by rw [NL.v_add];exact hcap) (.inl rfl)
           simpa [NL.v_add] using this
         have out':c0.v<n.v+k.v->K (.slc S.nx (.lit 0) (n.add k) none) (S.alloc (.arr e ((l.drop o.v).take n.v++new)))->OpR P base H0 O J S F (zaG P H e inf.size (.slice (some ⟨i,off,none⟩) n.v c0.v) k.v row) K:=λhlt h=>
          out c0.v _ (by omega) hlt (λhne=>by rcases ho with ho|ho;exact ho;omega) (by rcases ho with ho|ho;omega;exact ho.2) h
         split at h
         .rename_i n1 k1 c1
          cases hq:Nat.ble (n1+k1) c1 with
          |true=>rw [hq] at h;exact inn (Nat.le_of_ble_eq_true hq) h
          |false=>
           rw [hq] at h
           refine out' ?_ h
           show c1<n1+k1
           rcases Nat.lt_or_ge c1 (n1+k1) with hl|hl
           .exact hl
           .rw [Nat.ble_eq_true_of_le hl] at hq;cases hq
         .rcases Nat.lt_or_ge c0.v (n.v+k.v) with hl|hl
          .exact out' hl (h.2 hl)
          .exact inn hl (h.1 hl)
      .exact h.elim
     .exact h.elim
  .exact h.elim
 .exact h.elim
theorem zsH {e ts:TypeId} {x:V} {K:NL->List D->Prop} (h:ztF P S e ts x K) (hp:ztE x):ztF P S e ts x (λk new=>0<k.v/\K k new):=by
 cases x with
 |slc b o n c=>
  simp only [ztF] at h⊢
  split at h
  .rename_i e' l hb
   cases hc:Nat.beq e e' with
   |false=>rw [hc] at h;exact h.elim
   |true=>rw [hc] at h;exact ⟨h.1,hp,h.2⟩
  .exact h
 |dat t d=>
  simp only [ztF] at h⊢
  cases hc:Nat.beq t ts with
  |false=>rw [hc] at h;exact h.elim
  |true=>rw [hc] at h;exact ⟨hp,h⟩
 |_=>exact hp.elim
theorem SR.take (hr:SR P base H0 O J S F H) {b v:Nat} {e e':TypeId} {l r:List D} {i:NL} {q y:Nat} (hb:S.hp.get b=some (.own v e e' l)) (hro:S.ro<=b) (hi:i.v<l.length) (hl:zad l i.v= .list r) (hν:O (.sub v i.v)=some (q,y)):
  ∃O1,O1 (Bid.top S.nx)=some (q,y)/\XN O O1/\XNn S.nx O O1/\SR P base H0 O1 J (zde S b v e e' l i) F H:=by
 have hl1:l[i.v]? =some (.list r):=by rw [<-hl];simp [zad,hi]
 have has:(zad l i.v).asList=r:=by rw [hl];rfl
 let O1:Nu:=λx=>if x=Bid.top S.nx then O (.sub v i.v) else O x
 have hx:XN O O1:=λx c hx=>by
  by_cases e1:x= .top S.nx
  .subst e1;rw [hr.dom _ (Nat.le_refl _)] at hx;cases hx
  .show (if x=Bid.top S.nx then _ else _)=_
   rw [if_neg e1];exact hx
 have hxn:XNn S.nx O O1:=λx hx=>if_neg (λe1=>by subst e1;exact Nat.lt_irrefl _ hx)
 have hblt:b<S.nx:=by
  obtain ⟨i,z,h1,_⟩:=hr.blkT _ _ hb
  rcases Nat.lt_or_ge b S.nx with hl|hl
  .exact hl
  .rw [hr.dom (.top b) hl] at h1;cases h1
 have hg:∀c,(zde S b v e e' l i).hp.get c=if c=S.nx then some (.arr e' r) else if c=b then some (.own v e e' (l.set i.v (.int 0))) else S.hp.get c:=λc=>by
  show T.get (T.put (T.put S.hp b _) S.nx _) c=_
  rw [T.get_put,T.get_put,has]
 let f:Bid->Bid:=λx=>if x=Bid.top S.nx then .sub v i.v else x
 have hat:∀x k',At (zde S b v e e' l i) x k'->(x= .top S.nx/\k'= .arr e' r)\/(x= .top b/\k'= .own v e e' (l.set i.v (.int 0)))\/(x≠ .top S.nx/\x≠ .top b/\x≠ .sub v i.v/\At S x k'/\(Wr (zde S b v e e' l i) x->Wr S x)):=λx k' h=>by
  cases x with
  |top c=>
   have h1:(zde S b v e e' l i).hp.get c=some k':=h
   rw [hg] at h1
   by_cases ec:c=S.nx
   .rw [if_pos ec] at h1;exact .inl ⟨by rw [ec],by cases h1;rfl⟩
   .rw [if_neg ec] at h1
    by_cases ec2:c=b
    .rw [if_pos ec2] at h1;exact .inr (.inl ⟨by rw [ec2],by cases h1;rfl⟩)
    .rw [if_neg ec2] at h1
     exact .inr (.inr ⟨Bid.top_ne ec,Bid.top_ne ec2,λh=>(by cases h),h1,λh=>h⟩)
  |sub w j=>
   obtain ⟨c,q1,q2,l1,r1,h1,h2,h3⟩:=h
   rw [hg] at h1
   by_cases ec:c=S.nx
   .rw [if_pos ec] at h1;cases h1
   .rw [if_neg ec] at h1
    have hW:Wr (zde S b v e e' l i) (.sub w j)->Wr S (.sub w j):=λ⟨c2,a1,a2,a3,w1,w2⟩=>by
     rw [hg] at w1
     by_cases ec2:c2=S.nx
     .rw [if_pos ec2] at w1;cases w1
     .rw [if_neg ec2] at w1
      by_cases ec3:c2=b
      .rw [if_pos ec3] at w1;cases w1;exact ⟨b,_,_,_,hb,hro⟩
      .rw [if_neg ec3] at w1;exact ⟨c2,a1,a2,a3,w1,w2⟩
    by_cases ec2:c=b
    .rw [if_pos ec2] at h1;cases h1
     by_cases ej:i.v=j
     .subst ej;rw [List.getElem?_set_self hi] at h2;cases h2
     .rw [List.getElem?_set,if_neg ej] at h2
      exact .inr (.inr ⟨λh=>(by cases h),λh=>(by cases h),λh=>(by cases h;exact ej rfl),⟨b,e,e',l,r1,hb,h2,h3⟩,hW⟩)
    .rw [if_neg ec2] at h1
     exact .inr (.inr ⟨λh=>(by cases h),λh=>(by cases h),λh=>(by cases h;exact ec2 (hr.vers.1 _ _ _ _ _ _ _ _ _ h1 hb)),⟨c,q1,q2,l1,r1,h1,h2,h3⟩,hW⟩)
 refine ⟨O1,(if_pos rfl).trans hν,hx,hxn,hr.remap (λt u h=>(hr.fr t u h).mono (.refl _) hx) rfl f (λx k' h=> ?_) (λx x' k k' h h' he=> ?_) (λx i1 z1 h=> ?_) (λx hx2=> ?_) (Nat.le_succ_of_le hr.role) ⟨λc c' w e1 e2 l1 e3 e4 l2 q1 q2=> ?_,λc w e1 e2 l1 q=> ?_⟩ (hr.mks.mono hx)⟩
 .rcases hat x k' h with ⟨rfl,rfl⟩| ⟨rfl,rfl⟩| ⟨h1,h2,_,h3,h4⟩
  .refine ⟨.arr e' r, ?_, ?_,λ_=> ?_,λ_ _ _ h=>h.mono (.refl _) hx⟩
   .simp only [f,if_true];exact ⟨b,e,e',l,r,hb,hl1,rfl⟩
   .simp only [f,if_true];exact if_pos rfl
   .simp only [f,if_true];exact ⟨b,e,e',l,hb,hro⟩
  .have hfb:f (.top b)= .top b:=if_neg (Bid.top_ne (by omega))
   rw [hfb]
   refine ⟨.own v e e' l,hb,if_neg (Bid.top_ne (by omega)),λh=>h,λi1 z1 h1 hB=> ?_⟩
   obtain ⟨cs',m,g1,g2,g3,g4,g5,g6⟩:=hB
   refine ⟨cs',m,g1,g2,g3,by rw [List.length_set];exact g4,g5,λj d hj=> ?_⟩
   by_cases ej:i.v=j
   .subst ej
    rw [List.getElem?_set_self hi] at hj;cases hj
    exact .inr (.inl ⟨_,rfl⟩)
   .rw [List.getElem?_set,if_neg ej] at hj
    exact (g6 j d hj).mono hx
  .have hfx:f x=x:=if_neg h1
   rw [hfx]
   exact ⟨k',h3,if_neg h1,h4,λ_ _ _ h=>h.mono (.refl _) hx⟩
 .have key:∀y k,At (zde S b v e e' l i) y k->y≠ .top S.nx->y≠ .sub v i.v:=λy k h hy=>by
   rcases hat y k h with ⟨rfl,_⟩| ⟨rfl,_⟩| ⟨_,_,h2,_⟩
   .exact absurd rfl hy
   .exact λh=>by cases h
   .exact h2
  by_cases e1:x= .top S.nx<;>by_cases e2:x'= .top S.nx
  .rw [e1,e2]
  .simp only [f,e1,e2,if_true,if_false] at he
   exact absurd he.symm (key x' k' h' e2)
  .simp only [f,e1,e2,if_true,if_false] at he
   exact absurd he (key x k h e1)
  .simpa only [f,e1,e2,if_false] using he
 .have h':(if x=Bid.top S.nx then O (.sub v i.v) else O x)=some (i1,z1):=h
  by_cases e1:x= .top S.nx
  .rw [if_pos e1] at h';exact hr.lt _ _ _ h'
  .rw [if_neg e1] at h';exact hr.lt _ _ _ h'
 .have:S.nx+1<=x.id:=hx2
  show (if x=Bid.top S.nx then _ else _)=_
  rw [if_neg (λe1=>by subst e1;simp only [Bid.id] at this;omega)]
  exact hr.dom x (by omega)
 .rw [hg] at q1 q2
  by_cases ea:c=S.nx
  .rw [if_pos ea] at q1;cases q1
  .by_cases eb:c'=S.nx
   .rw [if_pos eb] at q2;cases q2
   .rw [if_neg ea] at q1;rw [if_neg eb] at q2
    by_cases ec:c=b<;>by_cases ec2:c'=b
    .rw [ec,ec2]
    .rw [if_pos ec] at q1;rw [if_neg ec2] at q2;cases q1
     exact absurd (hr.vers.1 _ _ _ _ _ _ _ _ _ q2 hb) ec2
    .rw [if_neg ec] at q1;rw [if_pos ec2] at q2;cases q2
     exact absurd (hr.vers.1 _ _ _ _ _ _ _ _ _ q1 hb) ec
    .rw [if_neg ec] at q1;rw [if_neg ec2] at q2
     exact hr.vers.1 _ _ _ _ _ _ _ _ _ q1 q2
 .rw [hg] at q
  show w<S.nx+1
  by_cases ea:c=S.nx
  .rw [if_pos ea] at q;cases q
  .rw [if_neg ea] at q
   by_cases ec:c=b
   .rw [if_pos ec] at q;cases q;have:=hr.vers.2 _ _ _ _ _ hb;omega
   .rw [if_neg ec] at q;have:=hr.vers.2 _ _ _ _ _ q;omega
theorem SR.forget (hr:SR P base H0 O J S F H) {S':SS} (hfr:S'.fr=S.fr) (hsz:S'.sz=S.sz) (hnx:S'.nx=S.nx) (hro:S'.ro=S.ro) (hg:∀c k,S'.hp.get c=some k->S.hp.get c=some k) (hmk:S'.mks=S.mks:=by rfl):SR P base H0 O J S' F H:=by
 refine hr.remap (λt v h=>hr.fr t v (by rw [<-hfr];exact h)) hsz (λx=>x) (λx k' h=> ?_) (λx x' k k' _ _ he=>he) hr.lt (λx hx=>hr.dom x (by rw [<-hnx];exact hx)) (by rw [hro,hnx];exact hr.role) ⟨λc c' w e1 e2 l1 e3 e4 l2 q1 q2=>hr.vers.1 _ _ _ _ _ _ _ _ _ (hg _ _ q1) (hg _ _ q2),λc w e1 e2 l1 q=>by rw [hnx];exact hr.vers.2 _ _ _ _ _ (hg _ _ q)⟩ (by rw [hmk];exact hr.mks)
 refine ⟨k', ?_,rfl, ?_,λ_ _ _ h=>h⟩
 .cases x with
  |top c=>exact hg _ _ h
  |sub w j=>obtain ⟨c,q1,q2,l1,r1,h1,h2,h3⟩:=h;exact ⟨c,q1,q2,l1,r1,hg _ _ h1,h2,h3⟩
 .cases x with
  |top c=>intro h;have:S'.ro<=c:=h;rw [hro] at this;exact this
  |sub w j=>rintro ⟨c2,a1,a2,a3,w1,w2⟩;exact ⟨c2,a1,a2,a3,hg _ _ w1,by rw [hro] at w2;exact w2⟩
def zo0 (S:SS) (O:Nu) (J:Sig) (H:zaa) (w:Nat):Sig:=λi=>
 match J i with
 |some c=>some c
 |none=>
  open Classical in
  if ∃j k z,At S (.sub w j) k/\O (.sub w j)=some (i,z) then
   (match H.get i with|some (.cells cs _ esz _ _)=>some (cs,esz)|_=>none) else none
theorem SR.freezeSub (hr:SR P base H0 O J S F H) {b w:Nat} {e e':TypeId} {l:List D} (hb:S.hp.get b=some (.own w e e' l)) (hro:S.ro<=b) (hh:zfI l) (hrt:zjE P e):
  XS J (zo0 S O J H w)/\SR P base H0 O (zo0 S O J H w) (S.write b (some (.arr e l))) F H:=by
 have hx:XS J (zo0 S O J H w):=λj c hj=>by unfold zo0;rw [hj]
 have hin:∀j k i z cs e esz m ro,At S (.sub w j) k->O (.sub w j)=some (i,z)->H.get i=some (.cells cs e esz m ro)->zo0 S O J H w i=some (cs,esz):=λj k i z cs e esz m ro h2 h3 h4=>by
  unfold zo0
  rw [hr.apart _ k i z h2 h3]
  simp only
  rw [if_pos ⟨j,k,z,h2,h3⟩,h4]
 have hof:∀i c,zo0 S O J H w i=some c->J i=some c\/∃j k z e m ro,At S (.sub w j) k/\O (.sub w j)=some (i,z)/\H.get i=some (.cells c.1 e c.2 m ro):=λi c h=>by
  unfold zo0 at h
  split at h
  .rename_i c' hc;left;rw [hc];exact h
  .right
   split at h
   .rename_i hex
    obtain ⟨j,k,z,h2,h3⟩:=hex
    split at h
    .rename_i cs e esz m ro hg
     simp only [Option.some.injEq] at h
     subst h
     exact ⟨j,k,z,e,m,ro,h2,h3,hg⟩
    .cases h
   .cases h
 have hg:∀b',(S.write b (some (.arr e l))).hp.get b'=if b'=b then some (.arr e l) else S.hp.get b':=λb'=>T.get_put _ _ _ _
 have hno:zcw (some (SB.arr e l)):=zcw.of rfl
 -- what is known afterwards was known before, and is no row of the block's elements
 have hat:∀x k,At (S.write b (some (.arr e l))) x k->(∀j,x≠ .sub w j)/\(∃k0,At S x k0)/\(Wr (S.write b (some (.arr e l))) x->Wr S x)/\((x= .top b/\k= .arr e l)\/At S x k):=λx k h=>by
  refine ⟨λj ej=> ?_, ?_⟩
  .subst ej
   obtain ⟨c,q1,q2,l1,r,g1,_,_⟩:=h
   rw [hg] at g1
   by_cases ec:c=b
   .rw [if_pos ec] at g1;cases g1
   .rw [if_neg ec] at g1
    exact ec (hr.vers.1 _ _ _ _ _ _ _ _ _ g1 hb)
  .rcases At.put (S:=S) (S':=S.write b (some (.arr e l))) hg hno rfl h with ⟨a,ek⟩| ⟨_,a,aw⟩
   .subst a;cases ek
    exact ⟨⟨_,hb⟩,λ_=>hro,.inl ⟨rfl,rfl⟩⟩
   .exact ⟨⟨k,a⟩,aw,.inr a⟩
 have hnone:∀x k i z,At (S.write b (some (.arr e l))) x k->O x=some (i,z)->zo0 S O J H w i=none:=λx k i z h hν=>by
  obtain ⟨h1,⟨k0,h0⟩,_⟩:=hat _ _ h
  cases hc:zo0 S O J H w i with
  |none=>rfl
  |some c=>
   rcases hof i c hc with h2| ⟨j,k',z',_,_,_,h2,h3,_⟩
   .rw [hr.apart x k0 i z h0 hν] at h2;cases h2
   .exact absurd (hr.inj _ _ _ _ _ _ _ h0 h2 hν h3) (h1 j)
 refine ⟨hx,⟨λt v h=>(hr.fr t v h).mono hx (.refl _),hr.fsz,hr.top,hr.mks, ?_,hr.lt,hr.dom,λx x' k1 k2 i1 z1 z2 a1 a2 h1 h2=> ?_,λx k1 i1 z1 a hw h=> ?_, ?_,hnone, ?_,hr.wl,hr.old,hr.nxt,hr.role, ?_,hr.vers.put (S':=S.write b (some (.arr e l))) hg hno (Nat.le_refl _)⟩⟩
 .intro x k h
  obtain ⟨_,_,_,⟨rfl,rfl⟩|h⟩:=hat _ _ h
  .obtain ⟨i,z,hν,hB⟩:=hr.blkT _ _ hb
   obtain ⟨cs,m,hgi,hz,h0,hlen,hone,hrd⟩:=hB
   refine ⟨i,z,hν,cs,m,hgi,hz,h0,hlen,λj d hj=> ?_⟩
   obtain ⟨hsl,hs1⟩:=hrt
   obtain ⟨e1,hu1⟩:∃e1,P.underlying e=some (.slice e1):=by unfold zai at hsl;split at hsl<;>simp_all
   have hst1:=zaw hs1
   have hz1:z=1:=by rw [hst1] at hz;exact (Option.some.inj hz).symm
   subst hz1
   rw [Nat.mul_one]
   have hjl:j<cs.length:=by have:=(List.getElem?_eq_some_iff.1 hj).1;omega
   have hone1:∀w,cs[j]? =some w->(cs.drop j).take 1= [w]:=λw hw=>by
    rw [List.getElem?_eq_getElem hjl] at hw
    simp only [Option.some.injEq] at hw
    rw [List.drop_eq_getElem_cons hjl]
    simp [hw]
   rcases hrd j d hj with ⟨h1,_,h2⟩| ⟨n,h1⟩| ⟨r,q,y,c,h1,_,h3,h4,h5,h6⟩
   .subst h1
    rw [hone1 _ (h2 hsl)]
    exact .nil hu1 hst1
   .subst h1
    exact absurd (List.mem_of_getElem? hj) (hh.out n)
   .subst h1
    rw [hone1 _ h5]
    have hat2:At S (.sub w j) (.arr e' r):=⟨b,e,e',l,r,hb,hj,rfl⟩
    obtain ⟨i2,z2,hν2,hB2⟩:=hr.blk _ _ hat2
    rw [h4] at hν2;cases hν2
    obtain ⟨cs2,m2,hg2,hs2,h02,hlen2,hrd2⟩:=hB2
    exact .list h3 hst1 hs2 (hin _ _ _ _ _ _ _ _ _ hat2 h4 hg2) (by rw [Nat.zero_add,hlen2];exact Nat.le_refl _) (by rcases h6 with h6|h6;exact .inl h6;exact .inr ⟨by omega,h6.2⟩) (.inl rfl) (λj2 d2 hj2=>by rw [Nat.zero_add];exact (hrd2 j2 d2 hj2).mono hx)
  .obtain ⟨i',z',h1,h2⟩:=hr.blk x k h
   exact ⟨i',z',h1,h2.mono hx (.refl _)⟩
 .obtain ⟨_,⟨k1',b1⟩,_⟩:=hat _ _ a1
  obtain ⟨_,⟨k2',b2⟩,_⟩:=hat _ _ a2
  exact hr.inj _ _ _ _ _ _ _ b1 b2 h1 h2
 .obtain ⟨_,⟨k1',b1⟩,bw,_⟩:=hat _ _ a
  exact hr.own _ _ _ _ b1 (bw hw) h
 .intro j c hj
  rcases hof j c hj with h1| ⟨x',k',z',e,m,ro,h2,h3,h4⟩
  .exact hr.sig j c h1
  .exact ⟨hr.lt _ _ _ h3,e,m,ro,h4⟩
 .intro x k i' z' m' h h' hm
  obtain ⟨_,⟨k0,h0⟩,aw,_⟩:=hat _ _ h
  obtain ⟨q1,q2,q3,q4⟩:=hr.mates x k0 i' z' m' h0 h' hm
  refine ⟨λhw=>q1 (aw hw),q2, ?_,λb2 k2 z2 hb2=> ?_⟩
  .cases hc:zo0 S O J H w m' with
   |none=>rfl
   |some c=>
    rcases hof m' c hc with h1| ⟨x',k',z',_,_,_,h2,h3,_⟩
    .rw [q3] at h1;cases h1
    .exact absurd h3 (q4 _ _ _ h2)
  .obtain ⟨_,⟨k3,h3⟩,_⟩:=hat _ _ hb2
   exact q4 b2 k3 z2 h3
 .refine ⟨λj c hj hlt=> ?_,hr.sb.2.mono hx⟩
  rcases hof j c hj with h1| ⟨x',k',z',_,_,_,h2,h3,_⟩
  .exact hr.sb.1 j c h1 hlt
  .have hw:Wr S (.sub w x'):=⟨b,e,e',l,hb,hro⟩
   have:=hr.own _ _ _ _ h2 hw h3
   omega
theorem zck {t t2:TypeId} {s x:V} {s' x':Value} (hr:SR P base H0 O J S F H) (h:zbA P S t t2 s x K) (hs:zam P J O s s') (hx:zam P J O x x'):OpR P base H0 O J S F (zbf P H t s' x') K:=by
 unfold zbA at h
 split at h
 .rename_i b v i n
  split at h
  .rename_i v' e e' l hb
   cases hc:(Nat.beq v v'&&Nat.ble S.ro b) with
   |false=>rw [hc] at h;exact h.elim
   |true=>
    rw [hc] at h
    simp only [Bool.and_eq_true] at hc
    have e1:=Nat.eq_of_beq_eq_true hc.1
    subst e1
    have hro:=Nat.le_of_ble_eq_true hc.2
    obtain ⟨hi,hn,⟨r,hl⟩,hsp,h⟩:=h
    have hnr:n.v=r.length:=by rw [hn,hl];rfl
    cases hs with
    |osl hν hcap=>
    rename_i q y c
    obtain ⟨O1,hq,hxn1,hxnn1,hr1⟩:=hr.take hb hro hi hl hν
    have hfin:∀{r},OpR P base H0 O1 J (zde S b v e e' l i) F r K->OpR P base H0 O J S F r K:=λ{r} ho=>by
     obtain ⟨v',h',g1,u,S',O',J',g2,g3,g4,g5,g6,g7,g8⟩:=ho
     exact ⟨v',h',g1,u,S',O',J',g2,g3,g4,hxnn1.trans g5 (Nat.le_succ _),g6,g7,((zaz.write _ _ _ hro).trans (zaz.alloc _ _)).trans g8⟩
    rcases hcap with rfl| ⟨rfl,hcu⟩
    .refine hfin (zcB hr1 h ?_ (hx.mono (.refl _) hxn1))
     have:=zam.slcU (P:=P) (J:=J) (O:=O1) (b:=S.nx) (o:= .lit 0) (n:=n) hq
     simpa [show (NL.lit 0).v=0 from rfl] using this
    .refine hfin ?_
     unfold zbJ at h
     split at h
     .rename_i e1 hu
      split at h
      rotate_left
      .exact h.elim
      rename_i e2 hu2
      split at h
      .rename_i inf hinf
       cases hc:(Nat.beq e1 e2&&zdF inf&&Nat.ble inf.bytes 4096&&Nat.blt 0 inf.bytes&&Nat.blt 0 inf.size) with
       |false=>rw [hc] at h;exact h.elim
       |true=>
        rw [hc] at h
        simp only [cond_true] at h
        simp only [Bool.and_eq_true] at hc
        obtain ⟨⟨⟨⟨c1,c2⟩,c3⟩,c4⟩,c5⟩:=hc
        have:=Nat.eq_of_beq_eq_true c1
        subst this
        have h0:=zbg c5
        have hst:zaj P e1=some inf.size:=by unfold zaj;rw [hinf];rfl
        unfold zdF at c2
        cases hz:inf.zero with
        |none=>rw [hz] at c2;cases c2
        |some z=>
        rw [hz] at c2
        have hu2':P.underlying t2=some (.slice e1)\/P.underlying t2=some .string:=by
         unfold zvm at hu2
         split at hu2
         .cases hu2;left;assumption
         .right;assumption
         .cases hu2
        obtain ⟨k,new,row,h',hsrc,hrow,hkl⟩:=zam.srcA hr1 hinf h0 hu2' (zsH h hsp) (hx.mono (.refl _) hxn1)
        clear h
        obtain ⟨hk0,h'⟩:=h'
        have happ:zbf P H t (.slice (some ⟨q,0,none⟩) n.v n.v) x'=zaG P H e1 inf.size (.slice (some ⟨q,0,none⟩) n.v n.v) k.v row:=by
         unfold zbf
         simp only [hu,hinf,hz,c2,c3,c4,Bool.and_self,cond_true,hsrc]
        rw [happ]
        have e0:Nat.beq k.v 0=false:=ziY (by omega)
        rcases zje h' with ⟨hk1,_⟩| ⟨_,h⟩
        .omega
        .clear h'
         simp only [show (zde S b v e e' l i).hp.get S.nx=some (.arr e' (zad l i.v).asList) from by
          show T.get (T.put _ S.nx _) S.nx=_
          rw [T.get_put,if_pos rfl]] at h
         cases he:Nat.beq e1 e' with
         |false=>rw [he] at h;exact h.elim
         |true=>
          have:=Nat.eq_of_beq_eq_true he
          subst this
          rw [he] at h
          simp only [cond_true] at h
          obtain ⟨hle,h⟩:=h
          replace h:=zpD h;obtain ⟨hbig,h⟩:=h
          have hlim:=zh6 inf.bytes
          have hbig0:=hbig
          rw [<-zfl hinf] at hbig
          have hro1:Nat.ble (zde S b v e e1 l i).ro S.nx=true:=Nat.ble_eq_true_of_le hr.role
          rw [hro1] at h
          simp only [cond_true] at h
          rw [hl] at h hle
          obtain ⟨i2,z2,hν2,hB2⟩:=hr1.blkT S.nx (.arr e1 (zad l i.v).asList) (by
           show T.get (T.put _ S.nx _) S.nx=_
           rw [T.get_put,if_pos rfl])
          rw [hq] at hν2;cases hν2
          rw [hl] at hB2
          obtain ⟨cs,m,hg,hsz,hz0,hlen,hrd⟩:=hB2
          have hlen:cs.length=r.length*y:=hlen
          have hyy:y=inf.size:=by rw [hst] at hsz;exact (Option.some.inj hsz).symm
          subst hyy
          have hR:zbb P J e1 inf.size r cs:=⟨hlen,hrd⟩
          have hfull:((D.list r).asList.drop (NL.lit 0).v).take n.v=r:=by
           show (r.drop 0).take n.v=r
           rw [List.drop_zero,hnr,List.take_length]
          rw [hfull] at h
          have hout:=hR.append hrow
          have ha:zaG P H e1 inf.size (.slice (some ⟨q,0,none⟩) n.v n.v) k.v row=some (.slice (some ⟨H.next,0,none⟩) (n.v+k.v) UNK,H.alloc (.cells (cs++row) e1 inf.size none false)):=by
           have hcap:Nat.beq n.v UNK=false:=ziY (by omega)
           have hcap2:Nat.ble (n.v+k.v) n.v=false:=by
            cases hq:Nat.ble (n.v+k.v) n.v with
            |false=>rfl
            |true=>have:=Nat.le_of_ble_eq_true hq;omega
           have hb1:=Nat.beq_refl e1
           have hb2:=Nat.beq_refl inf.size
           have hb3:=Nat.ble_eq_true_of_le hbig
           have hdt:(cs.drop 0).take (n.v*inf.size)=cs:=by rw [List.drop_zero,hnr,<-hlen,List.take_length]
           simp only [zaG,e0,cond_false,hg,hb1,hb2,hb3,Nat.ble_eq_true_of_le (show 0+n.v*inf.size<=cs.length by rw [hlen,hnr];omega),Bool.and_self,cond_true,hcap,hcap2,zd1,hdt,za2 hout.one]
          rw [ha]
          have hr2:=hr1.alloc (z:=inf.size) (k:= .arr e1 (r++new)) (cs:=cs++row) (ty:=e1) (esz:=inf.size) (λO' hν=> .arr hst h0 hout)
          refine ⟨_,_,rfl,_,_,_,J,h,hr2.forget rfl rfl rfl rfl (λc k' hc=> ?_), ?_,zfy _ _ _,.refl _,rfl,.push _ _ _ (Nat.le_of_ble_eq_true hro1)⟩
          .have hc':T.get (T.put (T.put (zde S b v e e1 l i).hp S.nx none) (zde S b v e e1 l i).nx (some (.arr e1 (r++new)))) c=some k':=hc
           show T.get (T.put (zde S b v e e1 l i).hp (zde S b v e e1 l i).nx (some (.arr e1 (r++new)))) c=some k'
           rw [T.get_put,T.get_put] at hc'
           rw [T.get_put]
           by_cases ec:c=(zde S b v e e1 l i).nx
           .rw [if_pos ec] at hc'⊢;exact hc'
           .rw [if_neg ec] at hc'⊢
            by_cases ec2:c=S.nx
            .rw [if_pos ec2] at hc';cases hc'
            .rw [if_neg ec2] at hc';exact hc'
          .have:=zam.slcU (P:=P) (J:=J) (O:=λb1=>if b1=(zde S b v e e1 l i).nx then some (H.next,inf.size) else O1 b1) (b:=(zde S b v e e1 l i).nx) (o:= .lit 0) (n:=n.add k) (if_pos rfl)
           rw [NL.v_add] at this;simpa [show (NL.lit 0).v=0 from rfl] using this
      .exact h.elim
     .exact h.elim
  .exact h.elim
 .rename_i b o n c
  split at h
  .rename_i v e e' l hb
   split at h
   .rename_i e1 e2 inf hu hu2 hinf
    cases hc:(Nat.beq e1 e&&Nat.beq e e2&&zdF inf&&Nat.ble inf.bytes 4096&&Nat.blt 0 inf.bytes&&Nat.blt 0 inf.size&&Nat.ble S.ro b&&zai P e) with
    |false=>rw [hc] at h;exact h.elim
    |true=>
     rw [hc] at h
     simp only [cond_true] at h
     simp only [Bool.and_eq_true] at hc
     obtain ⟨⟨⟨⟨⟨⟨⟨c0,c1⟩,c2⟩,c3⟩,c4⟩,c5⟩,c6⟩,c7⟩:=hc
     have q0:=Nat.eq_of_beq_eq_true c0
     have q1:=Nat.eq_of_beq_eq_true c1
     subst q0 q1
     have hro':=Nat.le_of_ble_eq_true c6
     have h0:=zbg c5
     have hst:zaj P e1=some inf.size:=by unfold zaj;rw [hinf];rfl
     unfold zdF at c2
     cases hz:inf.zero with
     |none=>rw [hz] at c2;cases c2
     |some z=>
     rw [hz] at c2
     have hu2':P.underlying t2=some (.slice e1)\/P.underlying t2=some .string:=by
      unfold zvm at hu2
      split at hu2
      .cases hu2;left;assumption
      .right;assumption
      .cases hu2
     obtain ⟨k,new,row,h',hsrc,hrow,hkl⟩:=zam.srcA hr hinf h0 hu2' h hx
     clear h
     obtain ⟨hk0,hnil,ho,hn,hbig,h⟩:=h'
     obtain ⟨i,zz,hν,hB⟩:=hr.blkT _ _ hb
     obtain ⟨cs,m,hg,hsz,hz0,hlen,hone,hrd⟩:=hB
     have hzz:zz=inf.size:=by rw [hst] at hsz;exact (Option.some.inj hsz).symm
     subst hzz
     cases hs with
     |slcU hν'=>
     rw [hν] at hν';cases hν'
     have happ:zbf P H t (.slice (some ⟨i,o.v*inf.size,none⟩) n.v UNK) x'=zaG P H e1 inf.size (.slice (some ⟨i,o.v*inf.size,none⟩) n.v UNK) k.v row:=by
      unfold zbf
      simp only [hu,hinf,hz,c2,c3,c4,Bool.and_self,cond_true,hsrc]
     have hm:=zdM hg
     have hkn:({(H.kill m) with next:=H.next}:zaa)=H.kill m:=by cases m<;>rfl
     have hdt:(cs.drop (o.v*inf.size)).take (n.v*inf.size)=cs:=by rw [ho,Nat.zero_mul,List.drop_zero,hn,<-hlen,List.take_length]
     have hone2:(cs++row).all zar=true:=by rw [List.all_append,hone,hrow.one];rfl
     have e0:Nat.beq k.v 0=false:=ziY (by omega)
     have ha:zaG P H e1 inf.size (.slice (some ⟨i,o.v*inf.size,none⟩) n.v UNK) k.v row=some (.slice (some ⟨H.next,0,none⟩) (n.v+k.v) UNK,
       ((H.kill (H.mate i)).write i (some (.cells (cs.take (o.v*inf.size+n.v*inf.size)) e1 inf.size (some H.next) false))).alloc (.cells (cs++row) e1 inf.size (some i) false)):=by
      simp only [zaG,e0,cond_false,hg,Nat.beq_refl e1,Nat.beq_refl inf.size,Nat.ble_eq_true_of_le (zne hinf hbig),Nat.ble_eq_true_of_le (show o.v*inf.size+n.v*inf.size<=cs.length by rw [ho,hn,hlen];omega),Bool.and_self,cond_true,Nat.beq_refl UNK,zge,zaO,hdt,hone2,c5,hm,hkn]
     rw [happ,ha]
     have hg1:∀c,((S.write b none).alloc (.own v e1 e' (l++new))).hp.get c=if c=S.nx then some (.own v e1 e' (l++new)) else if c=b then none else S.hp.get c:=λc=>by
      show T.get (T.put (T.put S.hp b none) S.nx _) c=_
      rw [T.get_put,T.get_put]
     have hnl:∀j r,(l++new)[j]? =some (D.list r)->l[j]? =some (D.list r):=λj r hj=>by
      rcases Nat.lt_or_ge j l.length with hjl|hjl
      .rw [List.getElem?_append_left hjl] at hj;exact hj
      .rw [List.getElem?_append_right hjl] at hj
       have:=hnil.out _ (List.mem_of_getElem? hj);cases this
     refine ⟨_,_,rfl,_,_,_,J,h,hr.pushG hb hν hro' (k':= .own v e1 e' (l++new)) (λO' hν'=>⟨_,some i,rfl,hst,h0,by rw [List.length_append,List.length_append,hlen,hrow.1,Nat.add_mul],hone2,λj d hj=> ?_⟩) (λx k2 h=> ?_) ⟨λc c' w e3 e2 l1 e5 e4 l2 q1 q2=> ?_,λc w e3 e2 l1 q=> ?_⟩, ?_,zfy _ _ _,.refl _,rfl,.push _ _ _ hro'⟩
     .rcases Nat.lt_or_ge j l.length with hjl|hjl
      .rw [List.getElem?_append_left hjl] at hj
       rcases (hrd j d hj).mono hν' with ⟨p1,p2,p3⟩|p1| ⟨r',q',y,c,p1,p2,p3,p4,p5,p6⟩
       .exact .inl ⟨p1,p2,λhs=>by rw [List.getElem?_append_left (by rw [hlen,p2];omega)];exact p3 hs⟩
       .exact .inr (.inl p1)
       .exact .inr (.inr ⟨r',q',y,c,p1,p2,p3,p4,by rw [List.getElem?_append_left (by rw [hlen,p2];omega)];exact p5,p6⟩)
      .rw [List.getElem?_append_right hjl] at hj
       have hd:d= .nil:=hnil.out _ (List.mem_of_getElem? hj)
       subst hd
       have h1:=hrow.2 _ _ hj
       have hjn:j-l.length<new.length:=(List.getElem?_eq_some_iff.1 hj).1
       have hz1:inf.size=1:=by
        have:=h1.size
        rw [hst] at this
        have hlq:((row.drop ((j-l.length)*inf.size)).take inf.size)= [.slice none 0 0]\/((row.drop ((j-l.length)*inf.size)).take inf.size)= [.nilFunc]:=by
         generalize ((row.drop ((j-l.length)*inf.size)).take inf.size)=w at h1
         cases h1 with
         |nil=>exact .inl rfl
         |nilf=>exact .inr rfl
        rcases hlq with hlq|hlq<;>rw [hlq] at this<;>exact Option.some.inj this
       refine .inl ⟨rfl,hz1,λ_=> ?_⟩
       rw [List.getElem?_append_right (by rw [hlen,hz1];omega),hlen,hz1,Nat.mul_one]
       rw [hz1,Nat.mul_one] at h1
       have hjr:j-l.length<row.length:=by rw [hrow.1,hz1];omega
       rw [List.drop_eq_getElem_cons hjr] at h1
       simp only [List.take_succ_cons,List.take_zero] at h1
       rw [List.getElem?_eq_getElem hjr]
       generalize row[j-l.length]=w at h1⊢
       cases h1 with
       |nil=>rfl
       |nilf hf=>
        unfold zai at c7
        rw [hf] at c7;cases c7
     .cases x with
      |top c=>
       have h1:((S.write b none).alloc (.own v e1 e' (l++new))).hp.get c=some k2:=h
       rw [hg1] at h1
       by_cases ec:c=S.nx
       .rw [if_pos ec] at h1;exact .inl ⟨by rw [ec],by cases h1;rfl⟩
       .rw [if_neg ec] at h1
        by_cases ec2:c=b
        .rw [if_pos ec2] at h1;cases h1
        .rw [if_neg ec2] at h1;exact .inr ⟨Bid.top_ne ec,Bid.top_ne ec2,h1,λh=>h⟩
      |sub w j=>
       obtain ⟨c,q1,q2,l1,r1,h1,h2,h3⟩:=h
       rw [hg1] at h1
       refine .inr ⟨λh=>(by cases h),λh=>(by cases h), ?_,λ⟨c2,a1,a2,a3,w1,w2⟩=> ?_⟩
       .by_cases ec:c=S.nx
        .rw [if_pos ec] at h1;cases h1;exact ⟨b,_,_,l,r1,hb,hnl _ _ h2,h3⟩
        .rw [if_neg ec] at h1
         by_cases ec2:c=b
         .rw [if_pos ec2] at h1;cases h1
         .rw [if_neg ec2] at h1;exact ⟨c,q1,q2,l1,r1,h1,h2,h3⟩
       .rw [hg1] at w1
        by_cases ec:c2=S.nx
        .rw [if_pos ec] at w1;cases w1;exact ⟨b,_,_,l,hb,hro'⟩
        .rw [if_neg ec] at w1
         by_cases ec2:c2=b
         .rw [if_pos ec2] at w1;cases w1
         .rw [if_neg ec2] at w1;exact ⟨c2,a1,a2,a3,w1,w2⟩
     .rw [hg1] at q1 q2
      by_cases ea:c=S.nx<;>by_cases eb:c'=S.nx
      .rw [ea,eb]
      .rw [if_pos ea] at q1;rw [if_neg eb] at q2;cases q1
       by_cases ec2:c'=b
       .rw [if_pos ec2] at q2;cases q2
       .rw [if_neg ec2] at q2;exact absurd (hr.vers.1 _ _ _ _ _ _ _ _ _ q2 hb) ec2
      .rw [if_neg ea] at q1;rw [if_pos eb] at q2;cases q2
       by_cases ec2:c=b
       .rw [if_pos ec2] at q1;cases q1
       .rw [if_neg ec2] at q1;exact absurd (hr.vers.1 _ _ _ _ _ _ _ _ _ q1 hb) ec2
      .rw [if_neg ea] at q1;rw [if_neg eb] at q2
       by_cases ec2:c=b
       .rw [if_pos ec2] at q1;cases q1
       .rw [if_neg ec2] at q1
        by_cases ec3:c'=b
        .rw [if_pos ec3] at q2;cases q2
        .rw [if_neg ec3] at q2;exact hr.vers.1 _ _ _ _ _ _ _ _ _ q1 q2
     .rw [hg1] at q
      show w<S.nx+1
      by_cases ea:c=S.nx
      .rw [if_pos ea] at q;cases q;have:=hr.vers.2 _ _ _ _ _ hb;omega
      .rw [if_neg ea] at q
       by_cases ec2:c=b
       .rw [if_pos ec2] at q;cases q
       .rw [if_neg ec2] at q;have:=hr.vers.2 _ _ _ _ _ q;omega
     .have:=zam.slcU (P:=P) (J:=J) (O:=λb1=>if b1=S.nx then some (H.next,inf.size) else O b1) (b:=S.nx) (o:= .lit 0) (n:=n.add k) (if_pos rfl)
      rw [NL.v_add] at this;simpa [show (NL.lit 0).v=0 from rfl] using this
   .exact h.elim
  .rename_i w e e' l cc hb
   cases hro:Nat.ble S.ro b with
   |false=>rw [hro] at h;exact h.elim
   |true=>
    rw [hro] at h
    obtain ⟨hh,hrt,h⟩:=h
    obtain ⟨hxs,hr1⟩:=hr.freezeSub hb (Nat.le_of_ble_eq_true hro) hh hrt
    obtain ⟨v',h',g1,u,S',O',J',g2,g3,g4,g5,g6,g7,g8⟩:=zcB hr1 h (hs.mono hxs (.refl _)) (hx.mono hxs (.refl _))
    exact ⟨v',h',g1,u,S',O',J',g2,g3,g4,g5,hxs.trans g6,g7,(zaz.write _ _ _ (Nat.le_of_ble_eq_true hro)).trans g8⟩
  .exact zcB hr h hs hx
 .exact zcB hr h hs hx
theorem ziw {t t2:TypeId} {s:V} {b2 v2:Nat} {e e':TypeId} {r:List D} {s' x':Value} {o2 n2:NL} {c2:Option NL} (hr:SR P base H0 O J S F H) (h:zhE P S t t2 s b2 v2 e e' r K) (hb2:S.hp.get b2=some (.own v2 e e' [.list r])) (ho2:o2.v=0) (hn2:n2.v=1)
  (hs:zam P J O s s') (hx:zam P J O (.slc b2 o2 n2 c2) x'):OpR P base H0 O J S F (zbf P H t s' x') K:=h.out.elim
end
end
end Go.Ev
