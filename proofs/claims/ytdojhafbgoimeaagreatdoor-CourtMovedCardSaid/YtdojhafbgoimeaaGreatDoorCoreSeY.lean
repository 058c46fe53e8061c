/- Part of the proof. -/
import Derived.Test.YtdojhafbgoimeaaGreatDoorCoreSeX

namespace Go.Ev
section
variable {base:Nat} {H0:zaa×Sig} {O:Nu} {J:Sig} {S:SS} {F:zab} {H:zaa}
theorem zdH {C:Ctx} {G:Msk} {srun:zdd} {run:Run} (E:Env C G srun run) {ops:Array Oper}:∀(l:List Oper) {S:SS} {F:zab} {H:zaa} {O:Nu} {J:Sig} {Ks:SS->Prop},SR C.P base H0 O J S F H->zhy C srun ops l S Ks->
  ∃F' H',zbw (zcE C.P G run) C.P ops l F H=some (F',H')/\∃S' O' J',Ks S'/\SR C.P base H0 O' J' S' F' H'/\XNn S.nx O O'/\XS J J'/\zaw S S'/\zde (zjZ ops l) S S'
 | [],S,F,H,O,J,Ks,hr,h=>⟨F,H,rfl,S,O,J,h,hr,.refl _,.refl _,.refl _,.refl _ _⟩
 |o::l,S,F,H,O,J,Ks,hr,h=>by
  obtain ⟨S1,hr1,hk1,hs1,h|h⟩:=zc7 hr (show zb3 S ops o (λS=>zeO C srun o.op S λv S1=>S1.put o.dst (some v) λS2=>zhy C srun ops l S2 Ks) (λS=>S.put o.dst (some (.val undef)) λS2=>zhy C srun ops l S2 Ks) from h)
  .obtain ⟨hf,h⟩:=h
   obtain ⟨v',H2,hop,v,S2,O2,J2,h,hr2,hv,hxn,hxs,hfr,hk2⟩:=zeP E (type:=o.type) hr1 h
   obtain ⟨F3,S3,hput,h,hr3,hk3,hs3⟩:=SS.put_ok hr2 h (v':=v') (λu hu=>by cases hu;exact hv)
   obtain ⟨F4,H4,hst,S4,O4,J4,h,hr4,hxn4,hxs4,hk4,hs4⟩:=zdH E l hr3 h
   refine ⟨F4,H4, ?_,S4,O4,J4,h,hr4,(hxn.mono hk1.nx).trans hxn4 (Nat.le_trans hk1.nx (Nat.le_trans hk2.nx hk3.nx)),hxs.trans hxs4,hk1.trans (hk2.trans (hk3.trans hk4)), ?_⟩
   .simp only [zbw,hf,cond_true,hop,zaR,hput,hst]
   .refine (hs1.mono (zeS List.mem_cons_self)).trans (.trans (λt _=>by rw [hfr]) ((hs3.mono (zbI List.mem_cons_self)).trans (hs4.mono (zbJ λo ho=>List.mem_cons_of_mem _ ho))))
  .obtain ⟨hf,h⟩:=h
   obtain ⟨F3,S3,hput,h,hr3,hk3,hs3⟩:=SS.put_ok hr1 h (v':=undef) (λu hu=>by cases hu;exact .undef)
   obtain ⟨F4,H4,hst,S4,O4,J4,h,hr4,hxn4,hxs4,hk4,hs4⟩:=zdH E l hr3 h
   refine ⟨F4,H4, ?_,S4,O4,J4,h,hr4,hxn4.mono (Nat.le_trans hk1.nx hk3.nx),hxs4,hk1.trans (hk3.trans hk4), ?_⟩
   .simp only [zbw,hf,cond_false,hput,hst]
   .refine (hs1.mono (zeS List.mem_cons_self)).trans ((hs3.mono (zbI List.mem_cons_self)).trans (hs4.mono (zbJ λo ho=>List.mem_cons_of_mem _ ho)))
theorem SR.unbase {P:Program} (hr:SR P base H0 O J S F H) {O2:Nu} {J2:Sig} {S2:SS} {F2:zab} {H2:zaa} (hr2:SR P H.next (H,J) O2 J2 S2 F2 H2) (hxn:XNn S.nx O O2) (hk:zaw {S with ro:=S.nx} S2) {wl:Nat} (hwl:base<=wl):
  SR P base H0 O2 J2 {S2 with ro:=S.ro} F2 {H2 with wlow:=wl}/\zaw S {S2 with ro:=S.ro}:=by
 refine ⟨?_,⟨hk.nx,hk.sz,rfl,hk.fl,hk.wr,hk.hp,λb _ hb=>hk.rb b hb hb⟩⟩
 have hnn:base<=H2.next:=Nat.le_trans hr.nxt hr2.nxt
 have hat:∀x k,At {S2 with ro:=S.ro} x k->At S2 x k:=λx k h=>by cases x<;>exact h
 -- what may be turned is of before, or of the region
 have hwr:∀x k i z,At S2 x k->Wr {S2 with ro:=S.ro} x->O2 x=some (i,z)->(Wr S2 x)\/((∃k0,At S x k0)/\Wr S x/\O x=some (i,z)):=λx k i z a hw h=>by
  cases x with
  |top b=>
   rcases Nat.lt_or_ge b S.nx with hlt|hge
   .right
    have hkb:S.hp.get b=some k:=by rw [<-hk.rb b hlt hlt];exact a
    exact ⟨⟨k,hkb⟩,hw,by rw [<-hxn (.top b) hlt];exact h⟩
   .left;show S2.ro<=b;rw [hk.ro];exact hge
  |sub v j=>
   obtain ⟨b,e,e',l,h1,h2⟩:=hw
   rcases Nat.lt_or_ge b S.nx with hlt|hge
   .right
    have hkb:S.hp.get b=some (.own v e e' l):=by rw [<-hk.rb b hlt hlt];exact h1
    obtain ⟨b',q1,q2,l',r,g1,g2,g3⟩:=a
    have:b'=b:=hr2.vers.1 _ _ _ _ _ _ _ _ _ g1 h1
    subst this
    rw [h1] at g1;cases g1
    exact ⟨⟨_,b',e,e',l,r,hkb,g2,g3⟩,⟨b',e,e',l,hkb,h2⟩,by rw [<-hxn (.sub v j) (hr.vers.2 _ _ _ _ _ hkb)];exact h⟩
   .left;exact ⟨b,e,e',l,h1,by rw [hk.ro];exact hge⟩
 refine ⟨hr2.fr,hr2.fsz,hr2.top,hr2.mks,λx k h=>hr2.blk x k (hat x k h),hr2.lt,hr2.dom,λx x' k k' i z z' a1 a2=>hr2.inj x x' k k' i z z' (hat _ _ a1) (hat _ _ a2),λx k i z a hw h=> ?_,hr2.sig,λx k i z a=>hr2.apart x k i z (hat _ _ a),λx k i z m hk' h hm=> ?_,hwl,λi hi=>(hr2.old i (Nat.lt_of_lt_of_le hi hr.nxt)).trans (hr.old i hi),hnn,Nat.le_trans hr.role hk.nx,⟨λi c hc hi=>hr.sb.1 i c (hr2.sb.1 i c hc (Nat.lt_of_lt_of_le hi hr.nxt)) hi,hr2.sb.2⟩,hr2.vers⟩
 .rcases hwr x k i z (hat _ _ a) hw h with h1| ⟨⟨k0,h1⟩,h2,h3⟩
  .exact Nat.le_trans hr.nxt (hr2.own x k i z (hat _ _ a) h1 h)
  .exact hr.own x k0 i z h1 h2 h3
 .obtain ⟨q1,q2,q3,q4⟩:=hr2.mates x k i z m (hat _ _ hk') h hm
  refine ⟨λhw=> ?_,q2,q3,λx2 k2 z2 a2=>q4 x2 k2 z2 (hat _ _ a2)⟩
  rcases hwr x k i z (hat _ _ hk') hw h with h1| ⟨⟨k0,h1⟩,h2,h3⟩
  .exact Nat.le_trans hr.nxt (q1 h1)
  .have hmb:H.mate i=some m:=by
    rw [<-hm]
    refine (zaa.mate_congr ?_)
    exact (hr2.old i (hr.lt x i z h3)).symm
   exact (hr.mates x k0 i z m h1 h3 hmb).1 h2
theorem zgL {C:Ctx} {G:Msk} {srun:zdd} {run:Run} (E:Env C G srun run) {o:Op} {type:TypeId} {K:V->SS->Prop} (hr:SR C.P base H0 O J S F H) (h:zeO C srun o {S with ro:=S.nx} K):
  ∃v' H2,opA (zcE C.P G run) C.P F o type {H with wlow:=H.next}=some (v',H2)/\H.next<=H2.wlow/\∃v S2 O2 J2,K v S2/\SR C.P base H0 O2 J2 {S2 with ro:=S.ro} F {H2 with wlow:=H.wlow}/\zal C.P J2 O2 v v'/\XNn S.nx O O2/\XS J J2/\S2.fr=S.fr/\zaw S {S2 with ro:=S.ro}:=by
 obtain ⟨v',H2,hop,v,S2,O2,J2,h,hr2,hv,hxn,hxs,hfr,hk⟩:=zeP E (type:=type) (hr.rebase (Nat.le_refl _)) h
 obtain ⟨h1,h2⟩:=hr.unbase hr2 hxn hk hr.wl
 exact ⟨v',H2,hop,hr2.wl,v,S2,O2,J2,h,h1,hv,hxn,hxs,hfr,h2⟩
theorem zcU {P:Program} {ops:Array Oper} {ts:List TypeId}:∀(l:List (Nat×Operand)) {S:SS} {J:Sig} {K:SS->Prop},SR P base H0 O J S F H->zej P ops ts l S K->
  ∃S1 J1,K S1/\SR P base H0 O J1 S1 F H/\XS J J1/\zaw S S1/\S1.nx=S.nx/\zde (zjZ ops ops.toList) S S1
 | [],S,J,K,hr,h=>⟨S,J,h,hr,.refl _,.refl _,rfl,.refl _ _⟩
 |x::l,S,J,K,hr,h=>by
  unfold zej at h
  split at h
  .rename_i t hx
   split at h
   .rename_i b o n c hfr
    split at h
    .rename_i ty ts'
     cases hd:(ops.toList.any (zms t)) with
     |false=>rw [hd] at h;exact h.elim
     |true=>
      rw [hd] at h
      simp only [cond_true] at h
      obtain ⟨u,S1,J1,h,f1,hu⟩:=zee hr h (hr.fr t _ hfr)
      have hr1:=f1.1.setFr (t:=t) hu
      obtain ⟨S2,J2,h2,hr2,hx2,hk2,hn2,hs2⟩:=zcU l hr1 h
      refine ⟨S2,J2,h2,hr2,f1.2.1.trans hx2,(f1.2.2.2.2.trans (zaw.fr S1 _)).trans hk2,hn2.trans f1.2.2.2.1,λt' ht'=> ?_⟩
      rw [hs2 t' ht']
      show (S1.fr.put t (some u)).get t'=_
      have hne:t'≠t:=λe=>ht' (by
       subst e
       obtain ⟨q,hq,hqd⟩:=List.any_eq_true.1 hd
       refine zbI hq t' ?_
       unfold zms at hqd
       cases hdst:q.dst with
       |none=>rw [hdst] at hqd;cases hqd
       |some d=>rw [hdst] at hqd;rw [Nat.eq_of_beq_eq_true hqd];simp)
      rw [T.get_put,if_neg hne,f1.2.2.1]
    .exact zcU l hr h
   .exact zcU l hr h
  .exact zcU l hr h
theorem zdT {P:Program} {ops:Array Oper}:∀(l:List (Tmp×TypeId)) {S:SS} {J:Sig} {K:SS->Prop},SR P base H0 O J S F H->zfe P ops l S K->
  ∃S1 J1,K S1/\SR P base H0 O J1 S1 F H/\XS J J1/\zaw S S1/\S1.nx=S.nx/\zde (zjZ ops ops.toList) S S1
 | [],S,J,K,hr,h=>⟨S,J,h,hr,.refl _,.refl _,rfl,.refl _ _⟩
 |x::l,S,J,K,hr,h=>by
  unfold zfe at h
  cases hd:(ops.toList.any (zms x.1)) with
  |false=>rw [hd] at h;exact h.elim
  |true=>
   rw [hd] at h
   simp only [cond_true] at h
   have hne:∀t',t'∉zjZ ops ops.toList->t'≠x.1:=λt' ht' e=>ht' (by
    subst e
    obtain ⟨q,hq,hqd⟩:=List.any_eq_true.1 hd
    refine zbI hq x.1 ?_
    unfold zms at hqd
    cases hdst:q.dst with
    |none=>rw [hdst] at hqd;cases hqd
    |some d=>rw [hdst] at hqd;rw [Nat.eq_of_beq_eq_true hqd];simp)
   split at h
   .rename_i b o n c hfr
    obtain ⟨u,S1,J1,h,f1,hu⟩:=zee hr h (hr.fr x.1 _ hfr)
    have hr1:=f1.1.setFr (t:=x.1) hu
    obtain ⟨S2,J2,h2,hr2,hx2,hk2,hn2,hs2⟩:=zdT l hr1 h
    refine ⟨S2,J2,h2,hr2,f1.2.1.trans hx2,(f1.2.2.2.2.trans (zaw.fr S1 _)).trans hk2,hn2.trans f1.2.2.2.1,λt' ht'=> ?_⟩
    rw [hs2 t' ht']
    show (S1.fr.put x.1 (some u)).get t'=_
    rw [T.get_put,if_neg (hne t' ht'),f1.2.2.1]
   .rename_i hfr
    cases hc:(zak P x.2&&zay P x.2 1) with
    |false=>rw [hc] at h;exact h.elim
    |true=>
     rw [hc] at h
     simp only [Bool.and_eq_true] at hc
     obtain ⟨e,hu⟩:∃e,P.underlying x.2=some (.slice e):=by have:=hc.1;unfold zak at this;split at this<;>simp_all
     have hv:=hr.fr x.1 _ hfr
     have hnil:F.get x.1= .slice none 0 0:=by
      generalize F.get x.1=q at hv
      cases hv with|val _=>rfl
     have hr1:=hr.setFr (t:=x.1) (v:= .dat x.2 .nil) (by rw [hnil];exact .dat hu (.nil hu (zav hc.2)))
     obtain ⟨S2,J2,h2,hr2,hx2,hk2,hn2,hs2⟩:=zdT l hr1 h
     refine ⟨S2,J2,h2,hr2,hx2,(zaw.fr S _).trans hk2,hn2,λt' ht'=> ?_⟩
     rw [hs2 t' ht']
     show (S.fr.put x.1 _).get t'=_
     rw [T.get_put,if_neg (hne t' ht')]
   .exact zdT l hr h
   .exact h.elim
theorem zm2 {P:Program} {ops:Array Oper} {o:Op} {S:SS} {J:Sig} {K:SS->Prop} (hr:SR P base H0 O J S F H) (h:ziw P ops o S K):
  ∃S1 J1,K S1/\SR P base H0 O J1 S1 F H/\XS J J1/\zaw S S1/\S1.nx=S.nx/\zde (zjZ ops ops.toList) S S1:=by
 unfold ziw at h
 split at h
 .exact zcU _ hr h
 .exact ⟨S,J,h,hr,.refl _,.refl _,rfl,.refl _ _⟩
theorem zgM {C:Ctx} {G:Msk} {srun:zdd} {run:Run} (E:Env C G srun run) {ops:Array Oper}:∀(l:List Oper) {S:SS} {F:zab} {H:zaa} {O:Nu} {J:Sig} {Ks:SS->Prop},(∀o,o∈l->o∈ops.toList)->SR C.P base H0 O J S F H->zmc C srun ops l S Ks->
  ∃F' H',zd2 (zcE C.P G run) C.P ops l F H=some (F',H')/\∃S' O' J',Ks S'/\SR C.P base H0 O' J' S' F' H'/\XNn S.nx O O'/\XS J J'/\zaw S S'/\zde (zjZ ops ops.toList) S S'
 | [],S,F,H,O,J,Ks,_,hr,h=>⟨F,H,rfl,S,O,J,h,hr,.refl _,.refl _,.refl _,.refl _ _⟩
 |o::l,S,F,H,O,J,Ks,hsub,hr,h=>by
  obtain ⟨S1,hr1,hk1,hs1,h|h⟩:=zc7 hr (show zb3 S ops o (λS=>ziw C.P ops o.op S λS=>zeO C srun o.op {S with ro:=S.nx} λv S1=>SS.put {S1 with ro:=S.ro} o.dst (some v) λS2=>zmc C srun ops l S2 Ks) (λS=>S.put o.dst (some (.val undef)) λS2=>zmc C srun ops l S2 Ks) from h)
  .obtain ⟨hf,h⟩:=h
   obtain ⟨Sf,σf,h,hrf,hxf,hkf,hnf,hsf⟩:=zm2 hr1 h
   obtain ⟨v',H2,hop,hw,v,S2,O2,J2,h,hr2,hv,hxn,hxs,hfr,hk2⟩:=zgL E (type:=o.type) hrf h
   obtain ⟨F3,S3,hput,h,hr3,hk3,hs3⟩:=SS.put_ok hr2 h (v':=v') (λu hu=>by cases hu;exact hv)
   obtain ⟨F4,H4,hst,S4,O4,J4,h,hr4,hxn4,hxs4,hk4,hs4⟩:=zgM E l (λq hq=>hsub q (List.mem_cons_of_mem _ hq)) hr3 h
   have hk1:=hk1.trans hkf
   refine ⟨F4,H4, ?_,S4,O4,J4,h,hr4,(hxn.mono hk1.nx).trans hxn4 (Nat.le_trans hk1.nx (Nat.le_trans hk2.nx hk3.nx)),(hxf.trans hxs).trans hxs4,hk1.trans (hk2.trans (hk3.trans hk4)), ?_⟩
   .simp only [zd2,hf,cond_true,hop,Nat.ble_eq_true_of_le hw,zaR,hput,hst]
   .have hm:=hsub o List.mem_cons_self
    refine (hs1.mono (zeS hm)).trans (hsf.trans (.trans (λt _=>by show S2.fr.get t=_;rw [hfr]) ((hs3.mono (zbI hm)).trans hs4)))
  .obtain ⟨hf,h⟩:=h
   obtain ⟨F3,S3,hput,h,hr3,hk3,hs3⟩:=SS.put_ok hr1 h (v':=undef) (λu hu=>by cases hu;exact .undef)
   obtain ⟨F4,H4,hst,S4,O4,J4,h,hr4,hxn4,hxs4,hk4,hs4⟩:=zgM E l (λq hq=>hsub q (List.mem_cons_of_mem _ hq)) hr3 h
   refine ⟨F4,H4, ?_,S4,O4,J4,h,hr4,hxn4.mono (Nat.le_trans hk1.nx hk3.nx),hxs4,hk1.trans (hk3.trans hk4), ?_⟩
   .simp only [zd2,hf,cond_false,hput,hst]
   .have hm:=hsub o List.mem_cons_self
    refine (hs1.mono (zeS hm)).trans ((hs3.mono (zbI hm)).trans hs4)
theorem zrT {P:Program} {G:Msk} {run:Run} {F:zab} {o:Op} {t:TypeId} {v:Value} {H H1:zaa} (ho:zaP o=true) (hl:∀t a,o≠ .load t a) (h:opA (zcE P G run) P F o t H=some (v,H1)):H1=H/\∀H',opA (zcE P G run) P F o t H'=some (v,H'):=by
 cases hf:zaj o with
 |true=>exact zcX hf h
 |false=>
  cases o with
  |load t a=>exact absurd rfl (hl t a)
  |call c=>
   obtain ⟨cal,args,ats⟩:=c
   cases cal with
   |builtin b=>
    have hb:b= .len:=by
     cases b<;>first|rfl|exact absurd ho (by simp [zaP])
    subst hb
    simp only [opA,zcE,zaQ,zbs,zlC] at h⊢
    have fb:∀{a b c d},zcu P .len a b c d H=some (v,H1)->H1=H/\∀H',zcu P .len a b c d H'=some (v,H'):=λ{a b c d} h=>by
     unfold zcu at h⊢
     cases hq:d.toList.all Ev.flat with
     |false=>rw [hq] at h;cases h
     |true=>
      rw [hq] at h
      simp only [cond_true] at h⊢
      split at h
      .rename_i u hu
       cases hq2:Ev.flat u with
       |false=>rw [hq2] at h;cases h
       |true=>
        rw [hq2] at h
        simp only [cond_true,Option.some.injEq,Prod.mk.injEq] at h
        obtain ⟨rfl,rfl⟩:=h
        exact ⟨rfl,λ_=>by simp [hq2]⟩
      .cases h
    split at h
    .split at h
     .simp only [Option.some.injEq,Prod.mk.injEq] at h
      obtain ⟨rfl,rfl⟩:=h
      exact ⟨rfl,λ_=>by simp_all⟩
     .cases h
    .exact fb h
   |value f=>exact absurd ho (by simp [zaP])
   |invoke a b=>exact absurd ho (by simp [zaP])
  |_=>exact absurd (hf.symm.trans ho) (by simp)
theorem zm3 {C:Ctx} {G:Msk} {srun:zdd} {run:Run} (E:Env C G srun run) {o:Op} {type:TypeId} {K:V->SS->Prop} {Hs:zaa} {σs:Sig} {n0:Nat} {νs:Nu} (hsoft:zaP o=true) (hlt:∀b i z,b<n0->νs b=some (i,z)->i<Hs.next) (hxs:XNn n0 νs O)
  (hr:SR C.P Hs.next (Hs,σs) O J S F H) (h:zgP C srun n0 o S K):
  ∃v',opA (zcE C.P G run) C.P F o type (Hs.upTo H.next)=some (v',Hs.upTo H.next)/\∃v S2 O2 J2,K v S2/\SR C.P Hs.next (Hs,σs) O2 J2 S2 F H/\zal C.P J2 O2 v v'/\XNn S.nx O O2/\XS J J2/\S2.fr=S.fr/\zaw S S2:=by
 have gen:(∀t a,o≠ .load t a)->zeO C srun o S K->∃v',opA (zcE C.P G run) C.P F o type (Hs.upTo H.next)=some (v',Hs.upTo H.next)/\∃v S2 O2 J2,K v S2/\SR C.P Hs.next (Hs,σs) O2 J2 S2 F H/\zal C.P J2 O2 v v'/\XNn S.nx O O2/\XS J J2/\S2.fr=S.fr/\zaw S S2:=λhl h=>by
  obtain ⟨v',H2,hop,v,S2,O2,J2,h,hr2,hv,hxn,hxs,hfr,hk⟩:=zeP E (type:=type) hr h
  obtain ⟨rfl,hany⟩:=zrT hsoft hl hop
  exact ⟨v',hany _,v,S2,O2,J2,h,hr2,hv,hxn,hxs,hfr,hk⟩
 unfold zgP at h
 split at h
 .rename_i t a
  obtain ⟨av,h,ha⟩:=zar hr h
  split at h
  .rename_i b off
   cases hb:Nat.blt b n0 with
   |false=>rw [hb] at h;exact h.elim
   |true=>
    rw [hb] at h
    have h:zff C.P S t (.ptr b off) (λv=>K v S):=h
    obtain ⟨v,v',h1,h2,h3⟩:=zfg hr h ha
    refine ⟨v', ?_,v,S,O,J,h2,hr,h3,.refl _,.refl _,rfl,.refl _⟩
    cases ha':zag F a with
    |pointer p=>
     rw [ha'] at ha h1
     cases ha with
     |ptr hν=>
      rename_i i z
      have hi:i<Hs.next:=hlt b i z (za5 hb) (by rw [<-hxs b (za5 hb)];exact hν)
      have hc:(Hs.upTo H.next).cells i=H.cells i:=by
       unfold zaa.cells
       rw [show (Hs.upTo H.next).get i=Hs.get i from rfl,hr.old i hi]
      have:zdt C.P (Hs.upTo H.next) t (.pointer (some ⟨i,off,none⟩))=some v':=by
       rw [<-h1]
       unfold zdt
       simp only [hc]
      simp only [opA,ha',this,zdm]
    |_=>rw [ha'] at ha;cases ha<;>(rename_i hh;simp [zdt] at h1)
  .exact h.elim
 .rename_i hnl
  exact gen (λt a e=>hnl t a e) h
theorem zcr {C:Ctx} {G:Msk} {srun:zdd} {run:Run} (E:Env C G srun run) {ops:Array Oper} {Hs:zaa} {σs:Sig} {n0:Nat} {νs:Nu} {g:Bool} (hlt:∀b i z,b<n0->νs b=some (i,z)->i<Hs.next):
  ∀(l:List Oper) {S:SS} {F:zab} {H:zaa} {O:Nu} {J:Sig} {Ks:SS->Prop},SR C.P Hs.next (Hs,σs) O J S F {H with wlow:=Hs.next}->S.ro=n0->n0<=S.nx->XNn n0 νs O->base<=H.wlow->base<=Hs.next->zcj C srun ops n0 g l S Ks->
  ∃F' H',zbj (zcE C.P G run) C.P ops Hs g l F H=some (F',H')/\base<=H'.wlow/\∃S' O' J',Ks S'/\SR C.P Hs.next (Hs,σs) O' J' S' F' {H' with wlow:=Hs.next}/\S'.ro=n0/\n0<=S'.nx/\XNn S.nx O O'/\XS J J'/\zaw S S'/\zde (zjZ ops l) S S'
 | [],S,F,H,O,J,Ks,hr,hro,hn,hx,hw,_,h=>⟨F,H,rfl,hw,S,O,J,h,hr,hro,hn,.refl _,.refl _,.refl _,.refl _ _⟩
 |o::l,S,F,H,O,J,Ks,hr,hro,hn,hx,hw,hbn,h=>by
  obtain ⟨S1,hr1,hk1,hs1,h|h⟩:=zc7 hr (show zb3 S ops o (λS=>cond (zaP o.op) (zgP C srun n0 o.op S λv S1=>S1.put o.dst (some v) λS2=>zcj C srun ops n0 g l S2 Ks)
   (zeO C srun o.op {S with ro:=cond g S.nx n0} λv S1=>SS.put {S1 with ro:=n0} o.dst (some v) λS2=>zcj C srun ops n0 g l S2 Ks)) (λS=>S.put o.dst (some (.val undef)) λS2=>zcj C srun ops n0 g l S2 Ks) from h)
  .obtain ⟨hf,h⟩:=h
   cases hsf:zaP o.op with
   |true=>
    rw [hsf] at h
    have h:zgP C srun n0 o.op S1 (λv S1=>S1.put o.dst (some v) λS2=>zcj C srun ops n0 g l S2 Ks):=h
    obtain ⟨v',hop,v,S2,O2,J2,h,hr2,hv,hxn,hxs,hfr,hk2⟩:=zm3 E (type:=o.type) hsf hlt hx hr1 h
    obtain ⟨F3,S3,hput,h,hr3,hk3,hs3⟩:=SS.put_ok hr2 h (v':=v') (λu hu=>by cases hu;exact hv)
    have hk23:=hk1.trans (hk2.trans hk3)
    obtain ⟨F4,H4,hst,hw4,S4,O4,J4,h,hr4,hro4,hn4,hxn4,hxs4,hk4,hs4⟩:=zcr E hlt l hr3 (hk23.ro.trans hro) (Nat.le_trans hn hk23.nx) (hx.trans (hxn.mono hk1.nx) hn) hw hbn h
    refine ⟨F4,H4, ?_,hw4,S4,O4,J4,h,hr4,hro4,hn4,(hxn.mono hk1.nx).trans hxn4 hk23.nx,hxs.trans hxs4,hk23.trans hk4, ?_⟩
    .have hop':opA (zcE C.P G run) C.P F o.op o.type (Hs.upTo H.next)=some (v',Hs.upTo H.next):=hop
     simp only [zbj,hf,hsf,cond_true,hop',zaR,hput]
     rw [show Nat.beq (Hs.upTo H.next).next H.next=true from Nat.beq_refl _,show Nat.ble H.next (Hs.upTo H.next).wlow=true from Nat.ble_eq_true_of_le (Nat.le_refl _)]
     simp only [Bool.and_self,cond_true,hput]
     exact hst
    .refine (hs1.mono (zeS List.mem_cons_self)).trans (.trans (λt _=>by rw [hfr]) ((hs3.mono (zbI List.mem_cons_self)).trans (hs4.mono (zbJ λo ho=>List.mem_cons_of_mem _ ho))))
   |false=>
    rw [hsf] at h
    have h:zeO C srun o.op {S1 with ro:=cond g S1.nx n0} (λv S1=>SS.put {S1 with ro:=n0} o.dst (some v) λS2=>zcj C srun ops n0 g l S2 Ks):=h
    have hro1:S1.ro=n0:=hk1.ro.trans hro
    have hn1:n0<=S1.nx:=Nat.le_trans hn hk1.nx
    obtain ⟨v',H2,hop,hq,v,S2,O2,J2,h,hr2,hv,hxn,hxs,hfr,hk2⟩:∃(v':Value) (H2:zaa),opA (zcE C.P G run) C.P F o.op o.type {H with wlow:=H.next}=some (v',H2)/\(cond g H.next Hs.next)<=H2.wlow/\∃(v:V) (S2:SS) (O2:Nu) (J2:Sig),(SS.put {S2 with ro:=n0} o.dst (some v) λS2=>zcj C srun ops n0 g l S2 Ks)/\SR C.P Hs.next (Hs,σs) O2 J2 {S2 with ro:=n0} F {H2 with wlow:=Hs.next}/\zal C.P J2 O2 v v'/\XNn S1.nx O O2/\XS J J2/\S2.fr=S1.fr/\zaw S1 {S2 with ro:=n0}:=by
     cases g with
     |true=>
      obtain ⟨v',H2,hop,hq,v,S2,O2,J2,h,hr2,hv,hxn,hxs,hfr,hk2⟩:=zgL E (type:=o.type) hr1 h
      rw [hro1] at hr2 hk2
      exact ⟨v',H2,hop,hq,v,S2,O2,J2,h,hr2,hv,hxn,hxs,hfr,hk2⟩
     |false=>
      have hnx:Hs.next<=H.next:=hr1.nxt
      have hr1':SR C.P Hs.next (Hs,σs) O J {S1 with ro:=n0} F {H with wlow:=H.next}:=by
       have e:({S1 with ro:=n0}:SS)=S1:=by rw [<-hro1]
       rw [e]
       exact ⟨hr1.fr,hr1.fsz,hr1.top,hr1.mks,hr1.blk,hr1.lt,hr1.dom,hr1.inj,hr1.own,hr1.sig,hr1.apart,hr1.mates,hnx,hr1.old,hr1.nxt,hr1.role,hr1.sb,hr1.vers⟩
      obtain ⟨v',H2,hop,v,S2,O2,J2,h,hr2,hv,hxn,hxs,hfr,hk2⟩:=zeP E (type:=o.type) hr1' h
      have e2:({S2 with ro:=n0}:SS)=S2:=by rw [<-show S2.ro=n0 from hk2.ro]
      refine ⟨v',H2,hop,hr2.wl,v,S2,O2,J2,h, ?_,hv,hxn,hxs,hfr, ?_⟩
      .rw [e2]
       exact ⟨hr2.fr,hr2.fsz,hr2.top,hr2.mks,hr2.blk,hr2.lt,hr2.dom,hr2.inj,hr2.own,hr2.sig,hr2.apart,hr2.mates,Nat.le_refl _,hr2.old,hr2.nxt,hr2.role,hr2.sb,hr2.vers⟩
      .have e1:({S1 with ro:=n0}:SS)=S1:=by rw [<-hro1]
       rw [e1] at hk2
       rw [e2];exact hk2
    obtain ⟨F3,S3,hput,h,hr3,hk3,hs3⟩:=SS.put_ok hr2 h (v':=v') (λu hu=>by cases hu;exact hv)
    have hk23:=hk1.trans (hk2.trans hk3)
    have hH2:Hs.next<=H2.wlow:=by
     cases g with
     |true=>exact Nat.le_trans (show Hs.next<=H.next from hr1.nxt) hq
     |false=>exact hq
    have hwl:base<=cond (Nat.ble H.wlow H2.wlow) H.wlow H2.wlow:=by
     cases Nat.ble H.wlow H2.wlow with
     |true=>exact hw
     |false=>exact Nat.le_trans hbn hH2
    obtain ⟨F4,H4,hst,hw4,S4,O4,J4,h,hr4,hro4,hn4,hxn4,hxs4,hk4,hs4⟩:=zcr E hlt l (H:={H2 with wlow:=cond (Nat.ble H.wlow H2.wlow) H.wlow H2.wlow}) hr3 (hk23.ro.trans hro) (Nat.le_trans hn hk23.nx) (hx.trans (hxn.mono hk1.nx) hn) hwl hbn h
    refine ⟨F4,H4, ?_,hw4,S4,O4,J4,h,hr4,hro4,hn4,(hxn.mono hk1.nx).trans hxn4 hk23.nx,hxs.trans hxs4,hk23.trans hk4, ?_⟩
    .simp only [zbj,hf,hsf,cond_true,cond_false,hop,Nat.ble_eq_true_of_le hq,zaR,hput]
     exact hst
    .refine (hs1.mono (zeS List.mem_cons_self)).trans (.trans (λt _=>by show S2.fr.get t=_;rw [hfr]) ((hs3.mono (zbI List.mem_cons_self)).trans (hs4.mono (zbJ λo ho=>List.mem_cons_of_mem _ ho))))
  .obtain ⟨hf,h⟩:=h
   obtain ⟨F3,S3,hput,h,hr3,hk3,hs3⟩:=SS.put_ok hr1 h (v':=undef) (λu hu=>by cases hu;exact .undef)
   have hk13:=hk1.trans hk3
   obtain ⟨F4,H4,hst,hw4,S4,O4,J4,h,hr4,hro4,hn4,hxn4,hxs4,hk4,hs4⟩:=zcr E hlt l hr3 (hk13.ro.trans hro) (Nat.le_trans hn hk13.nx) hx hw hbn h
   refine ⟨F4,H4, ?_,hw4,S4,O4,J4,h,hr4,hro4,hn4,hxn4.mono hk13.nx,hxs4,hk13.trans hk4, ?_⟩
   .simp only [zbj,hf,cond_false,hput]
    exact hst
   .refine (hs1.mono (zeS List.mem_cons_self)).trans ((hs3.mono (zbI List.mem_cons_self)).trans (hs4.mono (zbJ λo ho=>List.mem_cons_of_mem _ ho)))
theorem zmW {P:Program} {o:Op} {K:List Nat->List Nat->Prop} (hr:SR P base H0 O J S F H) (h:zit S o K):∃l1 s1 l s,K l1 s1/\zdY F H o=some (l,s)/\
  (∀x,x∈l->∃b,b∈l1/\(∃z,O b=some (x,z))/\zca S b=true)/\(s= []\/zap o=true/\∃b i z,b∈s1/\zca S b=true/\O b=some (i,z)/\s=i::(H.mate i).toList):=by
 have gen:∀{l1 s1:List Nat},K l1 s1->zdY F H o=some ([],[])->∃l1 s1 l s,K l1 s1/\zdY F H o=some (l,s)/\
  (∀x,x∈l->∃b,b∈l1/\(∃z,O b=some (x,z))/\zca S b=true)/\(s= []\/zap o=true/\∃b i z,b∈s1/\zca S b=true/\O b=some (i,z)/\s=i::(H.mate i).toList):=
  λhk e=>⟨_,_,[],[],hk,e,λx hx=>by simp at hx,.inl rfl⟩
 have own:∀{x:Operand} {K':Nat->Prop},zke zrc S x K'->∃b i z o,K' b/\zca S b=true/\O b=some (i,z)/\zag F x= .pointer (some ⟨i,o,none⟩):=λ{x K'} h=>by
  unfold zke at h
  obtain ⟨av,h,ha⟩:=zar hr h
  split at h
  .rename_i b hb
   cases hx:zca S b with
   |false=>rw [hx] at h;exact h.elim
   |true=>
    rw [hx] at h
    unfold zrc at hb
    split at hb
    .simp only [Option.some.injEq] at hb;subst hb
     generalize zag F x=av' at ha
     cases ha with
     |ptr hν=>exact ⟨_,_,_,_,h,hx,hν,rfl⟩
    .simp only [Option.some.injEq] at hb;subst hb
     generalize zag F x=av' at ha
     cases ha with
     |ept hν=>exact ⟨_,_,_,_,h,hx,hν,rfl⟩
    .simp only [Option.some.injEq] at hb;subst hb
     generalize zag F x=av' at ha
     cases ha with
     |epf hν _ _=>exact ⟨_,_,_,_,h,hx,hν,rfl⟩
    .cases hb
  .exact h.elim
 have ownS:∀{x:Operand} {K':Nat->Prop},zke ztv S x K'->∃b i z o n c,K' b/\zca S b=true/\O b=some (i,z)/\zag F x= .slice (some ⟨i,o,none⟩) n c:=λ{x K'} h=>by
  unfold zke at h
  obtain ⟨av,h,ha⟩:=zar hr h
  split at h
  .rename_i b hb
   cases hx:zca S b with
   |false=>rw [hx] at h;exact h.elim
   |true=>
    rw [hx] at h
    unfold ztv at hb
    split at hb
    .simp only [Option.some.injEq] at hb;subst hb
     generalize zag F x=av' at ha
     cases ha with
     |slcU hν=>exact ⟨_,_,_,_,_,_,h,hx,hν,rfl⟩
     |slc hν _ _ _=>exact ⟨_,_,_,_,_,_,h,hx,hν,rfl⟩
    .cases hb
  .exact h.elim
 have zsx:∀{b i z:Nat},zca S b=true->O b=some (i,z)->∃cs e w m,H.get i=some (.cells cs e w m false):=λ{b i z} hb hν=>by
  unfold zca at hb
  split at hb
  .rename_i k hg
   obtain ⟨i',z',hν',hB⟩:=hr.blkT _ _ hg
   rw [hν] at hν';cases hν'
   cases k with
   |box e cs=>obtain ⟨cs',m,hgi,_⟩:=hB;exact ⟨_,_,_,_,hgi⟩
   |arr e l=>obtain ⟨cs',m,hgi,_⟩:=hB;exact ⟨_,_,_,_,hgi⟩
   |grd a e l=>obtain ⟨cs',m,hgi,_⟩:=hB;exact ⟨_,_,_,_,hgi⟩
   |own v e e' l=>obtain ⟨cs',m,hgi,_⟩:=hB;exact ⟨_,_,_,_,hgi⟩
   |lp _ _ _ _ _ _ _=>cases hb
   |dfr=>cases hb
  .cases hb
 unfold zit at h
 split at h
 .rename_i t a
  obtain ⟨b,i,z,o,h,hb,hν,e⟩:=own h
  exact ⟨[b],[],[i],[],h,by simp only [zdY,e],λx hx=>⟨b,by simp,⟨z,by rw [List.mem_singleton.1 hx];exact hν⟩,hb⟩,.inl rfl⟩
 .rename_i t a x
  obtain ⟨b,i,z,o,h,hb,hν,hv⟩:=own h
  obtain ⟨cs,e,w,m,hg⟩:=zsx hb hν
  refine ⟨[],[b],[],i::m.toList,h,by simp only [zdY,hv,hg],λx hx=>(by simp at hx),.inr ⟨rfl,b,i,z,by simp,hb,hν, ?_⟩⟩
  unfold zaa.mate
  rw [hg]
 .rename_i s d x
  obtain ⟨xv,h,hx⟩:=zar hr h
  split at h
  .rename_i kn hk
   refine gen h ?_
   cases xv with
   |int k n=>cases hxe:zag F x<;>rw [hxe] at hx<;>first| (cases hx;done)|simp only [zdY,hxe]
   |val v=>
    cases v with
    |int k n=>cases hxe:zag F x<;>rw [hxe] at hx<;>first| (cases hx;done)|simp only [zdY,hxe]
    |_=>cases hk
   |_=>cases hk
  .exact h.elim
 .rename_i t x lo hi mx
  obtain ⟨b,i,z,o,n,c,h,hb,hν,e⟩:=ownS h
  exact ⟨[b],[],[i],[],h,by simp only [zdY,e],λx hx=>⟨b,by simp,⟨z,by rw [List.mem_singleton.1 hx];exact hν⟩,hb⟩,.inl rfl⟩
 .rename_i h1 h2 h3 h4
  refine gen h ?_
  cases o<;>first|rfl|exact absurd rfl (h1 _ _)|exact absurd rfl (h2 _ _ _)|exact absurd rfl (h3 _ _ _)|exact absurd rfl (h4 _ _ _ _ _)
structure zuH (O:Nu) (H:zaa) (l1 s1 l s:List Nat):Prop where
 ld:∀x,x∈l->∃b,b∈l1/\∃z,O b=some (x,z)
 st:∀y,y∈s->(∃b,b∈s1/\∃z,O b=some (y,z))\/(H.get y=none/\∀x,x∈l->x≠y)
theorem zkL {C:Ctx} {G:Msk} {srun:zdd} {run:Run} (E:Env C G srun run) {ops:Array Oper}:∀(l:List Oper) {S:SS} {F:zab} {H:zaa} {O:Nu} {J:Sig} {Ks:SS->Prop} {ld1 st1 ld st:List Nat},(∀o,o∈l->zeB o.op=true)->SR C.P base H0 O J S F H->zuH O H ld1 st1 ld st->zvU C srun ops l S ld1 st1 Ks->
  ∃F' H',zgD (zcE C.P G run) C.P ops l F H ld st=some (F',H')/\∃S' O' J',Ks S'/\SR C.P base H0 O' J' S' F' H'/\XNn S.nx O O'/\XS J J'/\zaw S S'/\zde (zjZ ops l) S S'
 | [],S,F,H,O,J,Ks,ld1,st1,ld,st,_,hr,hft,h=>by
  have h:cond ((ld1.all λb=>st1.all λb'=> !Nat.beq b b')&&(ld1.all λb=>zca S b)&&(st1.all λb=>zca S b)) (Ks S) False:=h
  cases hc0:((ld1.all λb=>st1.all λb'=> !Nat.beq b b')&&(ld1.all λb=>zca S b)&&(st1.all λb=>zca S b)) with
  |false=>rw [hc0] at h;exact h.elim
  |true=>
   rw [hc0] at h
   simp only [Bool.and_eq_true] at hc0
   obtain ⟨⟨hc,hbl⟩,hbs⟩:=hc0
   have live:∀b,zca S b=true->∃k,At S (.top b) k:=λb hb=>by
    unfold zca at hb
    split at hb
    .rename_i k hg;exact ⟨k,hg⟩
    .cases hb
   refine ⟨F,H, ?_,S,O,J,h,hr,.refl _,.refl _,.refl _,.refl _ _⟩
   have:(ld.all λi=>st.all λj=> !Nat.beq i j)=true:=by
    refine List.all_eq_true.2 λx hx=>List.all_eq_true.2 λy hy=> ?_
    have hne:x≠y:=by
     rcases hft.st y hy with ⟨b',hb',z',hν'⟩| ⟨_,h2⟩
     .obtain ⟨b,hb,z,hν⟩:=hft.ld x hx
      intro e
      subst e
      obtain ⟨k1,a1⟩:=live b (List.all_eq_true.1 hbl b hb)
      obtain ⟨k2,a2⟩:=live b' (List.all_eq_true.1 hbs b' hb')
      have hbb:=Bid.top_inj (hr.inj (.top b) (.top b') k1 k2 x z z' a1 a2 hν hν')
      have:=List.all_eq_true.1 (List.all_eq_true.1 hc b hb) b' hb'
      rw [hbb,Nat.beq_refl] at this;cases this
     .exact h2 x hx
    rw [ziI hne];rfl
   simp only [zgD,this,cond_true]
 |o::l,S,F,H,O,J,Ks,ld1,st1,ld,st,hpl,hr,hft,h=>by
  obtain ⟨S1,hr1,hk1,hs1,h|h⟩:=zc7 hr (show zb3 S ops o (λS=>cond (ld1.all λb=>zca S b) (zit S o.op λl1 s1=>zeO C srun o.op S λv S1=>S1.put o.dst (some v) λS2=>zvU C srun ops l S2 (l1++ld1) (s1++st1) Ks) False) (λS=>S.put o.dst (some (.val undef)) λS2=>zvU C srun ops l S2 ld1 st1 Ks) from h)
  .obtain ⟨hf,h⟩:=h
   cases hbx:(ld1.all λb=>zca S1 b) with
   |false=>rw [hbx] at h;exact h.elim
   |true=>
   rw [hbx] at h
   simp only [cond_true] at h
   obtain ⟨l1,s1,l0,s0,h,hfoot,hfl,hfs⟩:=zmW hr1 h
   obtain ⟨v',H2,hop,v,S2,O2,J2,h,hr2,hv,hxn,hxs,hfr,hk2⟩:=zeP E (type:=o.type) hr1 h
   obtain ⟨F3,S3,hput,h,hr3,hk3,hs3⟩:=SS.put_ok hr2 h (v':=v') (λu hu=>by cases hu;exact hv)
   obtain ⟨_,e2,e3,_,e5⟩:=zgu (hpl o List.mem_cons_self) hfoot hop
   have nu2:∀b x z,O b=some (x,z)->O2 b=some (x,z):=λb x z hz=>by
    by_cases hb:b.id<S1.nx
    .rw [hxn b hb];exact hz
    .have:=hr1.dom b (by omega);rw [this] at hz;cases hz
   have boxed:∀b,zca S1 b=true->∃k,S1.hp.get b=some k/\∀x z,O b=some (x,z)->H.get x≠none:=λb hb=>by
    unfold zca at hb
    split at hb
    .rename_i kk hg
     refine ⟨_,hg,λx z hz=> ?_⟩
     obtain ⟨i,z',hν',hB⟩:=hr1.blkT _ _ hg
     rw [hz] at hν';cases hν'
     cases kk with
     |box e cs=>obtain ⟨cs',m,hgi,_⟩:=hB;rw [hgi];simp
     |arr e l=>obtain ⟨cs',m,hgi,_⟩:=hB;rw [hgi];simp
     |grd a e l=>obtain ⟨cs',m,hgi,_⟩:=hB;rw [hgi];simp
     |own v e e' l=>obtain ⟨cs',m,hgi,_⟩:=hB;rw [hgi];simp
     |lp _ _ _ _ _ _ _=>cases hb
     |dfr=>cases hb
    .cases hb
   have hld:∀x,x∈l0++ld->∃b,b∈l1++ld1/\(∃z,O b=some (x,z))/\zca S1 b=true:=λx hx=>by
    rcases List.mem_append.1 hx with h1|h1
    .obtain ⟨b,q1,q2,q3⟩:=hfl x h1;exact ⟨b,List.mem_append_left _ q1,q2,q3⟩
    .obtain ⟨b,q1,q2⟩:=hft.ld x h1;exact ⟨b,List.mem_append_right _ q1,q2,List.all_eq_true.1 hbx b q1⟩
   have hft3:zuH O2 H2 (l1++ld1) (s1++st1) (l0++ld) (s0++st):=by
    refine ⟨λx hx=> ?_,λy hy=> ?_⟩
    .obtain ⟨b,q1,⟨z,q2⟩,q3⟩:=hld x hx
     exact ⟨b,q1,z,nu2 b x z q2⟩
    .rcases List.mem_append.1 hy with h1|h1
     .rcases hfs with e| ⟨hso,b,i,z,q1,q2,q3,q4⟩
      .rw [e] at h1;simp at h1
      .obtain ⟨k,hg,_⟩:=boxed b q2
       by_cases hyi:y=i
       .subst hyi;exact .inl ⟨b,List.mem_append_left _ q1,z,nu2 b y z q3⟩
       .have hym:y∈(H.mate i).toList:=by
         rw [q4] at h1
         rcases List.mem_cons.1 h1 with e|e
         .exact absurd e hyi
         .exact e
        obtain ⟨_,_,_,q8⟩:=hr1.mates (.top b) _ i z y hg q3 (by simpa using hym)
        refine .inr ⟨e5 hso i _ q4 y hym hyi,λx hx e=> ?_⟩
        obtain ⟨b',_,⟨z',hz'⟩,hbb⟩:=hld x hx
        obtain ⟨k',hg',_⟩:=boxed b' hbb
        exact q8 (.top b') _ z' hg' (by rw [<-e];exact hz')
     .rcases hft.st y h1 with ⟨b,q1,z,q2⟩| ⟨q1,q2⟩
      .exact .inl ⟨b,List.mem_append_right _ q1,z,nu2 b y z q2⟩
      .refine .inr ⟨e3 y q1,λx hx e=> ?_⟩
       obtain ⟨b,_,⟨z,q5⟩,q6⟩:=hld x hx
       obtain ⟨_,_,q7⟩:=boxed b q6
       exact q7 x z q5 (by rw [e];exact q1)
   obtain ⟨F4,H4,hst,S4,O4,J4,h,hr4,hxn4,hxs4,hk4,hs4⟩:=zkL E l (λo ho=>hpl o (List.mem_cons_of_mem _ ho)) hr3 hft3 h
   refine ⟨F4,H4, ?_,S4,O4,J4,h,hr4,(hxn.mono hk1.nx).trans hxn4 (Nat.le_trans hk1.nx (Nat.le_trans hk2.nx hk3.nx)),hxs.trans hxs4,hk1.trans (hk2.trans (hk3.trans hk4)), ?_⟩
   .simp only [zgD,hf,cond_true,hfoot,hop,zaR,hput,hst]
   .refine (hs1.mono (zeS List.mem_cons_self)).trans (.trans (λt _=>by rw [hfr]) ((hs3.mono (zbI List.mem_cons_self)).trans (hs4.mono (zbJ λo ho=>List.mem_cons_of_mem _ ho))))
  .obtain ⟨hf,h⟩:=h
   obtain ⟨F3,S3,hput,h,hr3,hk3,hs3⟩:=SS.put_ok hr1 h (v':=undef) (λu hu=>by cases hu;exact .undef)
   obtain ⟨F4,H4,hst,S4,O4,J4,h,hr4,hxn4,hxs4,hk4,hs4⟩:=zkL E l (λo ho=>hpl o (List.mem_cons_of_mem _ ho)) hr3 hft h
   refine ⟨F4,H4, ?_,S4,O4,J4,h,hr4,hxn4.mono (Nat.le_trans hk1.nx hk3.nx),hxs4,hk1.trans (hk3.trans hk4), ?_⟩
   .simp only [zgD,hf,cond_false,hput,hst]
   .refine (hs1.mono (zeS List.mem_cons_self)).trans ((hs3.mono (zbI List.mem_cons_self)).trans (hs4.mono (zbJ λo ho=>List.mem_cons_of_mem _ ho)))
theorem zjL {C:Ctx} {G:Msk} {srun:zdd} {run:Run} (E:Env C G srun run) {ops:Array Oper} {draw:Bool} {Q:SQ} (hr:SR C.P base H0 O J S F H) (h:zgN C srun ops draw S Q):
  ∃F' H',zex C.P G run ops draw F H=some (.normal,F',H')/\∃S' O' J',Q .normal S'/\SR C.P base H0 O' J' S' F' H'/\XNn S.nx O O'/\XS J J'/\zaw S S'/\zde (zjZ ops ops.toList) S S':=by
 unfold zgN at h
 unfold zex
 cases draw with
 |false=>
  obtain ⟨F',H',h1,S',O',J',h2⟩:=zdH E ops.toList hr h
  exact ⟨F',H',by simp only [cond_false,h1],S',O',J',h2⟩
 |true=>
  simp only [cond_true] at h⊢
  generalize zbe (zfq ops) (zaK ops.toList []) ops.size=W at h⊢
  unfold zpV at h
  unfold zhM
  generalize zbe (zdA ops) (zaK ops.toList []) W=T at h⊢
  cases hb:zr3 ops T W with
  |true=>
   rw [hb] at h
   simp only [cond_true] at h⊢
   unfold zhK
   cases hd:zf7 ops (zaK ops.toList []) T W with
   |false=>rw [hd] at h;exact h.elim
   |true=>
    rw [hd] at h
    simp only [cond_true] at h⊢
    obtain ⟨F1,H1,h1,hw1,S1,O1,J1,h,hr1,hro1,hn1,hxn1,hxs1,hk1,hs1⟩:=zcr E (base:=base) (Hs:=H) (σs:=J) (n0:=S.nx) (νs:=O) (λb i z _ hν=>hr.lt b i z hν) _ (hr.rebase (Nat.le_refl _)) rfl (Nat.le_refl _) (.refl _) hr.wl hr.nxt h
    obtain ⟨F2,H2,h2,hw2,S2,O2,J2,h,hr2,hro2,hn2,hxn2,hxs2,hk2,hs2⟩:=zcr E (base:=base) (Hs:=H) (σs:=J) (n0:=S.nx) (νs:=O) (λb i z _ hν=>hr.lt b i z hν) _ hr1 hro1 hn1 hxn1 hw1 hr.nxt h
    obtain ⟨hr2',hk2'⟩:=hr.unbase hr2 (hxn1.trans hxn2 hn1) (hk1.trans hk2) hw2
    obtain ⟨F3,H3,h3,S3,O3,J3,h,hr3,hxn3,hxs3,hk3,hs3⟩:=zdH E _ hr2' h
    refine ⟨F3,H3,by simp only [h1,h2,h3],S3,O3,J3,h,hr3,(hxn1.trans hxn2 hn1).trans hxn3 hk2'.nx,(hxs1.trans hxs2).trans hxs3,hk2'.trans hk3, ?_⟩
    refine (zde.trans (hs1.mono (zbJ λo ho=>List.mem_of_mem_take ho)) (hs2.mono (zbJ λo ho=>List.mem_of_mem_take (List.mem_of_mem_drop ho)))).trans ?_
    exact zde.trans (λt _=>rfl) (hs3.mono (zbJ λo ho=>List.mem_of_mem_drop ho))
  |false=>
   rw [hb] at h
   simp only [cond_false] at h⊢
   cases hcw:zk6 ops W with
   |true=>
    rw [hcw] at h
    simp only [cond_true] at h⊢
    unfold zhL
    cases hd:zf8 ops (zaK ops.toList []) with
    |false=>rw [hd] at h;exact h.elim
    |true=>
     rw [hd] at h
     simp only [cond_true] at h⊢
     unfold zk6 at hcw
     simp only [Bool.and_eq_true] at hcw
     obtain ⟨F1,H1,h1,S1,O1,J1,h,hr1,hxn1,hxs1,hk1,hs1⟩:=zkL E ops.toList (ld:= []) (st:= []) (λo ho=>List.all_eq_true.1 hcw.2 o ho) hr ⟨λx hx=>by simp at hx,λy hy=>by simp at hy⟩ h
     exact ⟨F1,H1,by simp only [h1],S1,O1,J1,h,hr1,hxn1,hxs1,hk1,hs1⟩
   |false=>
   rw [hcw] at h
   simp only [cond_false] at h⊢
   unfold zlq
   cases hd:zf6 ops (zaK ops.toList []) W with
   |false=>rw [hd] at h;exact h.elim
   |true=>
    rw [hd] at h
    simp only [cond_true] at h⊢
    obtain ⟨F1,H1,h1,S1,O1,J1,h,hr1,hxn1,hxs1,hk1,hs1⟩:=zgM E _ (λo ho=>List.mem_of_mem_take ho) hr h
    obtain ⟨F2,H2,h2,S2,O2,J2,h,hr2,hxn2,hxs2,hk2,hs2⟩:=zdH E _ hr1 h
    refine ⟨F2,H2,by simp only [h1,h2],S2,O2,J2,h,hr2,hxn1.trans hxn2 hk1.nx,hxs1.trans hxs2,hk1.trans hk2, ?_⟩
    exact hs1.trans (hs2.mono (zbJ λo ho=>List.mem_of_mem_drop ho))
end
end Go.Ev
