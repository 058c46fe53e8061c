/- Part of the proof. -/
import Derived.Test.YtdojhafbgoimeaaGreatDoorCoreSeX

namespace Go.Ev
section
variable {base:Nat} {H0:zaa×Sig} {O:Nu} {J:Sig} {S:SS} {F:zab} {H:zaa}
theorem zeZ {C:Ctx} {G:Msk} {srun:zdW} {run:Run} (E:Env C G srun run) {ops:Array Oper}:∀(l:List Oper) {S:SS} {F:zab} {H:zaa} {O:Nu} {J:Sig} {Ks:SS->Prop},SR C.P base H0 O J S F H->zj6 C srun ops l S Ks->
  ∃F' H',zbx (zfa C.P G run) C.P ops l F H=some (F',H')/\∃S' O' J',Ks S'/\SR C.P base H0 O' J' S' F' H'/\XNn S.nx O O'/\XS J J'/\zaz S S'/\zdg (zlw ops l) S S'
 | [],S,F,H,O,J,Ks,hr,h=>⟨F,H,rfl,S,O,J,h,hr,.refl _,.refl _,.refl _,.refl _ _⟩
 |o::l,S,F,H,O,J,Ks,hr,h=>by
  obtain ⟨S1,hr1,hk1,hs1,h|h⟩:=zeo hr (show zcD S ops o (λS=>ziK C srun o.op S λv S1=>S1.put o.dst (some v) λS2=>zj6 C srun ops l S2 Ks) (λS=>S.put o.dst (some (.val undef)) λS2=>zj6 C srun ops l S2 Ks) from h)
  .obtain ⟨hf,h⟩:=h
   obtain ⟨v',H2,hop,v,S2,O2,J2,h,hr2,hv,hxn,hxs,hfr,hk2⟩:=ziL E (type:=o.type) hr1 h
   obtain ⟨F3,S3,hput,h,hr3,hk3,hs3⟩:=SS.put_ok hr2 h (v':=v') (λu hu=>by cases hu;exact hv)
   obtain ⟨F4,H4,hst,S4,O4,J4,h,hr4,hxn4,hxs4,hk4,hs4⟩:=zeZ E l hr3 h
   refine ⟨F4,H4, ?_,S4,O4,J4,h,hr4,(hxn.mono hk1.nx).trans hxn4 (Nat.le_trans hk1.nx (Nat.le_trans hk2.nx hk3.nx)),hxs.trans hxs4,hk1.trans (hk2.trans (hk3.trans hk4)), ?_⟩
   .simp only [zbx,hf,cond_true,hop,za8,hput,hst]
   .refine (hs1.mono (zhK List.mem_cons_self)).trans (.trans (λt _=>by rw [hfr]) ((hs3.mono (zcE List.mem_cons_self)).trans (hs4.mono (ze2 λo ho=>List.mem_cons_of_mem _ ho))))
  .obtain ⟨hf,h⟩:=h
   obtain ⟨F3,S3,hput,h,hr3,hk3,hs3⟩:=SS.put_ok hr1 h (v':=undef) (λu hu=>by cases hu;exact .undef)
   obtain ⟨F4,H4,hst,S4,O4,J4,h,hr4,hxn4,hxs4,hk4,hs4⟩:=zeZ E l hr3 h
   refine ⟨F4,H4, ?_,S4,O4,J4,h,hr4,hxn4.mono (Nat.le_trans hk1.nx hk3.nx),hxs4,hk1.trans (hk3.trans hk4), ?_⟩
   .simp only [zbx,hf,cond_false,hput,hst]
   .refine (hs1.mono (zhK List.mem_cons_self)).trans ((hs3.mono (zcE List.mem_cons_self)).trans (hs4.mono (ze2 λo ho=>List.mem_cons_of_mem _ ho)))
theorem SR.unbase {P:Program} (hr:SR P base H0 O J S F H) {O2:Nu} {J2:Sig} {S2:SS} {F2:zab} {H2:zaa} (hr2:SR P H.next (H,J) O2 J2 S2 F2 H2) (hxn:XNn S.nx O O2) (hk:zaz {S with ro:=S.nx} S2) {wl:Nat} (hwl:base<=wl):
  SR P base H0 O2 J2 {S2 with ro:=S.ro} F2 {H2 with wlow:=wl}/\zaz S {S2 with ro:=S.ro}:=by
 refine ⟨?_,⟨hk.nx,hk.sz,rfl,hk.fl,hk.wr,hk.hp,λb _ hb=>hk.rb b hb hb⟩⟩
 have hnn:base<=H2.next:=Nat.le_trans hr.nxt hr2.nxt
 have hat:∀x k,At {S2 with ro:=S.ro} x k->At S2 x k:=λx k h=>by cases x<;>exact h
 -- what may be turned is of before, or of the region
 have hwr:∀x k i z,At S2 x k->Wr {S2 with ro:=S.ro} x->O2 x=some (i,z)->(Wr S2 x)\/((∃k0,At S x k0)/\Wr S x/\O x=some (i,z)):=λx k i z a hw h=>by
  cases x with
  |top b=>
   rcases Nat.lt_or_ge b S.nx with hlt|hge
   .right
    have hkb:S.hp.get b=some k:=by rw [<-hk.rb b hlt hlt];exact a
    exact ⟨⟨k,hkb⟩,hw,by rw [<-hxn (.top b) hlt];exact h⟩
   .left;show S2.ro<=b;rw [hk.ro];exact hge
  |sub v j=>
   obtain ⟨b,e,e',l,h1,h2⟩:=hw
   rcases Nat.lt_or_ge b S.nx with hlt|hge
   .right
    have hkb:S.hp.get b=some (.own v e e' l):=by rw [<-hk.rb b hlt hlt];exact h1
    obtain ⟨b',q1,q2,l',r,g1,g2,g3⟩:=a
    have:b'=b:=hr2.vers.1 _ _ _ _ _ _ _ _ _ g1 h1
    subst this
    rw [h1] at g1;cases g1
    exact ⟨⟨_,b',e,e',l,r,hkb,g2,g3⟩,⟨b',e,e',l,hkb,h2⟩,by rw [<-hxn (.sub v j) (hr.vers.2 _ _ _ _ _ hkb)];exact h⟩
   .left;exact ⟨b,e,e',l,h1,by rw [hk.ro];exact hge⟩
 refine ⟨hr2.fr,hr2.fsz,hr2.top,hr2.mks,λx k h=>hr2.blk x k (hat x k h),hr2.lt,hr2.dom,λx x' k k' i z z' a1 a2=>hr2.inj x x' k k' i z z' (hat _ _ a1) (hat _ _ a2),λx k i z a hw h=> ?_,hr2.sig,λx k i z a=>hr2.apart x k i z (hat _ _ a),λx k i z m hk' h hm=> ?_,hwl,λi hi=>(hr2.old i (Nat.lt_of_lt_of_le hi hr.nxt)).trans (hr.old i hi),hnn,Nat.le_trans hr.role hk.nx,⟨λi c hc hi=>hr.sb.1 i c (hr2.sb.1 i c hc (Nat.lt_of_lt_of_le hi hr.nxt)) hi,hr2.sb.2⟩,hr2.vers⟩
 .rcases hwr x k i z (hat _ _ a) hw h with h1| ⟨⟨k0,h1⟩,h2,h3⟩
  .exact Nat.le_trans hr.nxt (hr2.own x k i z (hat _ _ a) h1 h)
  .exact hr.own x k0 i z h1 h2 h3
 .obtain ⟨q1,q2,q3,q4⟩:=hr2.mates x k i z m (hat _ _ hk') h hm
  refine ⟨λhw=> ?_,q2,q3,λx2 k2 z2 a2=>q4 x2 k2 z2 (hat _ _ a2)⟩
  rcases hwr x k i z (hat _ _ hk') hw h with h1| ⟨⟨k0,h1⟩,h2,h3⟩
  .exact Nat.le_trans hr.nxt (q1 h1)
  .have hmb:H.mate i=some m:=by
    rw [<-hm]
    refine (zaa.mate_congr ?_)
    exact (hr2.old i (hr.lt x i z h3)).symm
   exact (hr.mates x k0 i z m h1 h3 hmb).1 h2
theorem zlm {C:Ctx} {G:Msk} {srun:zdW} {run:Run} (E:Env C G srun run) {o:Op} {type:TypeId} {K:V->SS->Prop} (hr:SR C.P base H0 O J S F H) (h:ziK C srun o {S with ro:=S.nx} K):
  ∃v' H2,opA (zfa C.P G run) C.P F o type {H with wlow:=H.next}=some (v',H2)/\H.next<=H2.wlow/\∃v S2 O2 J2,K v S2/\SR C.P base H0 O2 J2 {S2 with ro:=S.ro} F {H2 with wlow:=H.wlow}/\zam C.P J2 O2 v v'/\XNn S.nx O O2/\XS J J2/\S2.fr=S.fr/\zaz S {S2 with ro:=S.ro}:=by
 obtain ⟨v',H2,hop,v,S2,O2,J2,h,hr2,hv,hxn,hxs,hfr,hk⟩:=ziL E (type:=type) (hr.rebase (Nat.le_refl _)) h
 obtain ⟨h1,h2⟩:=hr.unbase hr2 hxn hk hr.wl
 exact ⟨v',H2,hop,hr2.wl,v,S2,O2,J2,h,h1,hv,hxn,hxs,hfr,h2⟩
theorem zcU {P:Program} {ops:Array Oper} {ts:List TypeId}:∀(l:List (Nat×Operand)) {S:SS} {J:Sig} {K:SS->Prop},SR P base H0 O J S F H->zep P ops ts l S K->
  ∃S1 J1,K S1/\SR P base H0 O J1 S1 F H/\XS J J1/\zaz S S1/\S1.nx=S.nx/\zdg (zlw ops ops.toList) S S1
 | [],S,J,K,hr,h=>⟨S,J,h,hr,.refl _,.refl _,rfl,.refl _ _⟩
 |x::l,S,J,K,hr,h=>by
  unfold zep at h
  split at h
  .rename_i t hx
   split at h
   .rename_i b o n c hfr
    split at h
    .rename_i ty ts'
     cases hd:(ops.toList.any (zm1 t)) with
     |false=>rw [hd] at h;exact h.elim
     |true=>
      rw [hd] at h
      simp only [cond_true] at h
      obtain ⟨u,S1,J1,h,f1,hu⟩:=zcY hr h (hr.fr t _ hfr)
      have hr1:=f1.1.setFr (t:=t) hu
      obtain ⟨S2,J2,h2,hr2,hx2,hk2,hn2,hs2⟩:=zcU l hr1 h
      refine ⟨S2,J2,h2,hr2,f1.2.1.trans hx2,(f1.2.2.2.2.trans (zaz.fr S1 _)).trans hk2,hn2.trans f1.2.2.2.1,λt' ht'=> ?_⟩
      rw [hs2 t' ht']
      show (S1.fr.put t (some u)).get t'=_
      have hne:t'≠t:=λe=>ht' (by
       subst e
       obtain ⟨q,hq,hqd⟩:=List.any_eq_true.1 hd
       refine zcE hq t' ?_
       unfold zm1 at hqd
       cases hdst:q.dst with
       |none=>rw [hdst] at hqd;cases hqd
       |some d=>rw [hdst] at hqd;rw [Nat.eq_of_beq_eq_true hqd];simp)
      rw [T.get_put,if_neg hne,f1.2.2.1]
    .exact zcU l hr h
   .exact zcU l hr h
  .exact zcU l hr h
theorem zdR {P:Program} {ops:Array Oper}:∀(l:List (Tmp×TypeId)) {S:SS} {J:Sig} {K:SS->Prop},SR P base H0 O J S F H->zfr P ops l S K->
  ∃S1 J1,K S1/\SR P base H0 O J1 S1 F H/\XS J J1/\zaz S S1/\S1.nx=S.nx/\zdg (zlw ops ops.toList) S S1
 | [],S,J,K,hr,h=>⟨S,J,h,hr,.refl _,.refl _,rfl,.refl _ _⟩
 |x::l,S,J,K,hr,h=>by
  unfold zfr at h
  cases hd:(ops.toList.any (zm1 x.1)) with
  |false=>rw [hd] at h;exact h.elim
  |true=>
   rw [hd] at h
   simp only [cond_true] at h
   have hne:∀t',t'∉zlw ops ops.toList->t'≠x.1:=λt' ht' e=>ht' (by
    subst e
    obtain ⟨q,hq,hqd⟩:=List.any_eq_true.1 hd
    refine zcE hq x.1 ?_
    unfold zm1 at hqd
    cases hdst:q.dst with
    |none=>rw [hdst] at hqd;cases hqd
    |some d=>rw [hdst] at hqd;rw [Nat.eq_of_beq_eq_true hqd];simp)
   split at h
   .rename_i b o n c hfr
    obtain ⟨u,S1,J1,h,f1,hu⟩:=zcY hr h (hr.fr x.1 _ hfr)
    have hr1:=f1.1.setFr (t:=x.1) hu
    obtain ⟨S2,J2,h2,hr2,hx2,hk2,hn2,hs2⟩:=zdR l hr1 h
    refine ⟨S2,J2,h2,hr2,f1.2.1.trans hx2,(f1.2.2.2.2.trans (zaz.fr S1 _)).trans hk2,hn2.trans f1.2.2.2.1,λt' ht'=> ?_⟩
    rw [hs2 t' ht']
    show (S1.fr.put x.1 (some u)).get t'=_
    rw [T.get_put,if_neg (hne t' ht'),f1.2.2.1]
   .rename_i hfr
    cases hc:(zai P x.2&&zay P x.2 1) with
    |false=>rw [hc] at h;exact h.elim
    |true=>
     rw [hc] at h
     simp only [Bool.and_eq_true] at hc
     obtain ⟨e,hu⟩:∃e,P.underlying x.2=some (.slice e):=by have:=hc.1;unfold zai at this;split at this<;>simp_all
     have hv:=hr.fr x.1 _ hfr
     have hnil:F.get x.1= .slice none 0 0:=by
      generalize F.get x.1=q at hv
      cases hv with|val _=>rfl
     have hr1:=hr.setFr (t:=x.1) (v:= .dat x.2 .nil) (by rw [hnil];exact .dat hu (.nil hu (zaw hc.2)))
     obtain ⟨S2,J2,h2,hr2,hx2,hk2,hn2,hs2⟩:=zdR l hr1 h
     refine ⟨S2,J2,h2,hr2,hx2,(zaz.fr S _).trans hk2,hn2,λt' ht'=> ?_⟩
     rw [hs2 t' ht']
     show (S.fr.put x.1 _).get t'=_
     rw [T.get_put,if_neg (hne t' ht')]
   .exact zdR l hr h
   .exact h.elim
theorem zr3 {P:Program} (hr:SR P base H0 O J S F H) {t:TypeId} {v:V} {v':Value} {K:V->SS->Prop} (h:zuv P S t v K) (hv:zam P J O v v'):
  ∃u S1 J1,K u S1/\FzR P base H0 O J S F H J1 S1/\zam P J1 O u v':=by
 unfold zuv at h
 split at h
 .cases hc:(zai P t&&zay P t 1) with
  |false=>rw [hc] at h;exact h.elim
  |true=>
   rw [hc] at h
   simp only [Bool.and_eq_true] at hc
   obtain ⟨e,hu⟩:∃e,P.underlying t=some (.slice e):=by have:=hc.1;unfold zai at this;split at this<;>simp_all
   have hnil:v'= .slice none 0 0:=by cases hv with|val _=>rfl
   exact ⟨_,S,J,h,.refl hr,by rw [hnil];exact .dat hu (.nil hu (zaw hc.2))⟩
 .exact zcY hr h hv
theorem zhF {P:Program}:∀(l:List (Tmp×Nat×TypeId)) {S:SS} {J:Sig} {K:SS->Prop},SR P base H0 O J S F H->ziG P l S K->∃S1 J1,K S1/\FzR P base H0 O J S F H J1 S1
 | [],S,J,K,hr,h=>⟨S,J,h,FzR.refl hr⟩
 |x::l,S,J,K,hr,h=>by
  simp only [ziG] at h
  split at h
  .rename_i b hfr
   split at h
   .rename_i be cs hb
    split at h
    .rename_i v hv
     cases hro:Nat.ble S.ro b with
     |false=>rw [hro] at h;exact h.elim
     |true=>
      rw [hro] at h
      simp only [cond_true] at h
      have hro:=Nat.le_of_ble_eq_true hro
      obtain ⟨i,z,hν,hB⟩:=hr.blkT _ _ hb
      obtain ⟨cs',m,hg,hl⟩:=hB
      obtain ⟨v',hv',hvr⟩:=hl.get hv
      obtain ⟨u,S1,J1,h,f1,hu⟩:=zr3 hr h hvr
      split at h
      .rename_i be1 cs1 hb1
       obtain ⟨i1,z1,hν1,hB1⟩:=f1.1.blkT _ _ hb1
       rw [hν] at hν1;cases hν1
       obtain ⟨cs2,m1,hg1,hl1⟩:=hB1
       rw [hg] at hg1
       injection hg1 with hg1
       injection hg1 with q1 q2 q3 q4 q5
       subst q1
       have hro1:S1.ro<=b:=by have:=f1.2.2.2.2.ro;rw [this];exact hro
       have hg2:=f1.1.ghost (k':= .box be1 (cs1.set x.2.1 u)) hb1 hν ⟨cs',m,by rw [hg,q2],by simpa using hl1.1,λj w w' hw hw'=>by
        rw [List.getElem?_set] at hw
        split at hw
        .rename_i e
         split at hw
         .cases hw
          rw [<-e,hv'] at hw';cases hw'
          exact hu
         .cases hw
        .exact hl1.2 j w w' hw hw'⟩
       obtain ⟨S2,J2,h,f2⟩:=zhF l hg2 h
       exact ⟨S2,J2,h,f1.trans (FzR.trans ⟨hg2,.refl _,rfl,rfl,.write _ _ _ hro1⟩ f2)⟩
      .exact h.elim
    .exact h.elim
   .exact h.elim
  .exact h.elim
theorem zdS {P:Program} {ws:List Tmp}:∀(l:List (Tmp×TypeId)) {S:SS} {J:Sig} {K:SS->Prop},SR P base H0 O J S F H->zfs P ws l S K->
  ∃S1 J1,K S1/\SR P base H0 O J1 S1 F H/\XS J J1/\zaz S S1/\S1.nx=S.nx/\zdg (ws) S S1
 | [],S,J,K,hr,h=>⟨S,J,h,hr,.refl _,.refl _,rfl,.refl _ _⟩
 |x::l,S,J,K,hr,h=>by
  unfold zfs at h
  cases hd:(ws.any (Nat.beq x.1)) with
  |false=>rw [hd] at h;exact h.elim
  |true=>
   rw [hd] at h
   simp only [cond_true] at h
   have hne:∀t',t'∉ws->t'≠x.1:=λt' ht' e=>ht' (by
    subst e
    obtain ⟨q,hq,hqd⟩:=List.any_eq_true.1 hd
    rw [Nat.eq_of_beq_eq_true hqd];exact hq)
   split at h
   .rename_i b o n c hfr
    obtain ⟨u,S1,J1,h,f1,hu⟩:=zcY hr h (hr.fr x.1 _ hfr)
    have hr1:=f1.1.setFr (t:=x.1) hu
    obtain ⟨S2,J2,h2,hr2,hx2,hk2,hn2,hs2⟩:=zdS l hr1 h
    refine ⟨S2,J2,h2,hr2,f1.2.1.trans hx2,(f1.2.2.2.2.trans (zaz.fr S1 _)).trans hk2,hn2.trans f1.2.2.2.1,λt' ht'=> ?_⟩
    rw [hs2 t' ht']
    show (S1.fr.put x.1 (some u)).get t'=_
    rw [T.get_put,if_neg (hne t' ht'),f1.2.2.1]
   .rename_i hfr
    cases hc:(zai P x.2&&zay P x.2 1) with
    |false=>rw [hc] at h;exact h.elim
    |true=>
     rw [hc] at h
     simp only [Bool.and_eq_true] at hc
     obtain ⟨e,hu⟩:∃e,P.underlying x.2=some (.slice e):=by have:=hc.1;unfold zai at this;split at this<;>simp_all
     have hv:=hr.fr x.1 _ hfr
     have hnil:F.get x.1= .slice none 0 0:=by
      generalize F.get x.1=q at hv
      cases hv with|val _=>rfl
     have hr1:=hr.setFr (t:=x.1) (v:= .dat x.2 .nil) (by rw [hnil];exact .dat hu (.nil hu (zaw hc.2)))
     obtain ⟨S2,J2,h2,hr2,hx2,hk2,hn2,hs2⟩:=zdS l hr1 h
     refine ⟨S2,J2,h2,hr2,hx2,(zaz.fr S _).trans hk2,hn2,λt' ht'=> ?_⟩
     rw [hs2 t' ht']
     show (S.fr.put x.1 _).get t'=_
     rw [T.get_put,if_neg (hne t' ht')]
   .exact zdS l hr h
   .exact h.elim
theorem znD {P:Program} {ops:Array Oper} {o:Op} {S:SS} {J:Sig} {K:SS->Prop} (hr:SR P base H0 O J S F H) (h:ziM P ops o S K):
  ∃S1 J1,K S1/\SR P base H0 O J1 S1 F H/\XS J J1/\zaz S S1/\S1.nx=S.nx/\zdg (zlw ops ops.toList) S S1:=by
 unfold ziM at h
 split at h
 .exact zcU _ hr h
 .exact ⟨S,J,h,hr,.refl _,.refl _,rfl,.refl _ _⟩
theorem zg1 {C:Ctx} {G:Msk} {srun:zdW} {run:Run} (E:Env C G srun run) {ops:Array Oper}:∀(l:List Oper) {S:SS} {F:zab} {H:zaa} {O:Nu} {J:Sig} {Ks:SS->Prop},(∀o,o∈l->o∈ops.toList)->SR C.P base H0 O J S F H->zmJ C srun ops l S Ks->
  ∃F' H',zd5 (zfa C.P G run) C.P ops l F H=some (F',H')/\∃S' O' J',Ks S'/\SR C.P base H0 O' J' S' F' H'/\XNn S.nx O O'/\XS J J'/\zaz S S'/\zdg (zlw ops ops.toList) S S'
 | [],S,F,H,O,J,Ks,_,hr,h=>⟨F,H,rfl,S,O,J,h,hr,.refl _,.refl _,.refl _,.refl _ _⟩
 |o::l,S,F,H,O,J,Ks,hsub,hr,h=>by
  obtain ⟨S1,hr1,hk1,hs1,h|h⟩:=zeo hr (show zcD S ops o (λS=>ziM C.P ops o.op S λS=>ziK C srun o.op {S with ro:=S.nx} λv S1=>SS.put {S1 with ro:=S.ro} o.dst (some v) λS2=>zmJ C srun ops l S2 Ks) (λS=>S.put o.dst (some (.val undef)) λS2=>zmJ C srun ops l S2 Ks) from h)
  .obtain ⟨hf,h⟩:=h
   obtain ⟨Sf,σf,h,hrf,hxf,hkf,hnf,hsf⟩:=znD hr1 h
   obtain ⟨v',H2,hop,hw,v,S2,O2,J2,h,hr2,hv,hxn,hxs,hfr,hk2⟩:=zlm E (type:=o.type) hrf h
   obtain ⟨F3,S3,hput,h,hr3,hk3,hs3⟩:=SS.put_ok hr2 h (v':=v') (λu hu=>by cases hu;exact hv)
   obtain ⟨F4,H4,hst,S4,O4,J4,h,hr4,hxn4,hxs4,hk4,hs4⟩:=zg1 E l (λq hq=>hsub q (List.mem_cons_of_mem _ hq)) hr3 h
   have hk1:=hk1.trans hkf
   refine ⟨F4,H4, ?_,S4,O4,J4,h,hr4,(hxn.mono hk1.nx).trans hxn4 (Nat.le_trans hk1.nx (Nat.le_trans hk2.nx hk3.nx)),(hxf.trans hxs).trans hxs4,hk1.trans (hk2.trans (hk3.trans hk4)), ?_⟩
   .simp only [zd5,hf,cond_true,hop,Nat.ble_eq_true_of_le hw,za8,hput,hst]
   .have hm:=hsub o List.mem_cons_self
    refine (hs1.mono (zhK hm)).trans (hsf.trans (.trans (λt _=>by show S2.fr.get t=_;rw [hfr]) ((hs3.mono (zcE hm)).trans hs4)))
  .obtain ⟨hf,h⟩:=h
   obtain ⟨F3,S3,hput,h,hr3,hk3,hs3⟩:=SS.put_ok hr1 h (v':=undef) (λu hu=>by cases hu;exact .undef)
   obtain ⟨F4,H4,hst,S4,O4,J4,h,hr4,hxn4,hxs4,hk4,hs4⟩:=zg1 E l (λq hq=>hsub q (List.mem_cons_of_mem _ hq)) hr3 h
   refine ⟨F4,H4, ?_,S4,O4,J4,h,hr4,hxn4.mono (Nat.le_trans hk1.nx hk3.nx),hxs4,hk1.trans (hk3.trans hk4), ?_⟩
   .simp only [zd5,hf,cond_false,hput,hst]
   .have hm:=hsub o List.mem_cons_self
    refine (hs1.mono (zhK hm)).trans ((hs3.mono (zcE hm)).trans hs4)
theorem znx {P:Program} {o:Op} {K:List Nat->List Nat->Prop} (hr:SR P base H0 O J S F H) (h:ziF S o K):∃l1 s1 l s,K l1 s1/\zdZ F H o=some (l,s)/\
  (∀x,x∈l->∃b,b∈l1/\(∃z,O b=some (x,z))/\zcd S b=true)/\(s= []\/zaq o=true/\∃b i z,b∈s1/\zcd S b=true/\O b=some (i,z)/\s=i::(H.mate i).toList):=by
 have gen:∀{l1 s1:List Nat},K l1 s1->zdZ F H o=some ([],[])->∃l1 s1 l s,K l1 s1/\zdZ F H o=some (l,s)/\
  (∀x,x∈l->∃b,b∈l1/\(∃z,O b=some (x,z))/\zcd S b=true)/\(s= []\/zaq o=true/\∃b i z,b∈s1/\zcd S b=true/\O b=some (i,z)/\s=i::(H.mate i).toList):=
  λhk e=>⟨_,_,[],[],hk,e,λx hx=>by simp at hx,.inl rfl⟩
 have own:∀{x:Operand} {K':Nat->Prop},zkA zr0 S x K'->∃b i z o,K' b/\zcd S b=true/\O b=some (i,z)/\zah F x= .pointer (some ⟨i,o,none⟩):=λ{x K'} h=>by
  unfold zkA at h
  obtain ⟨av,h,ha⟩:=zau hr h
  split at h
  .rename_i b hb
   cases hx:zcd S b with
   |false=>rw [hx] at h;exact h.elim
   |true=>
    rw [hx] at h
    unfold zr0 at hb
    split at hb
    .simp only [Option.some.injEq] at hb;subst hb
     generalize zah F x=av' at ha
     cases ha with
     |ptr hν=>exact ⟨_,_,_,_,h,hx,hν,rfl⟩
    .simp only [Option.some.injEq] at hb;subst hb
     generalize zah F x=av' at ha
     cases ha with
     |ept hν=>exact ⟨_,_,_,_,h,hx,hν,rfl⟩
    .simp only [Option.some.injEq] at hb;subst hb
     generalize zah F x=av' at ha
     cases ha with
     |epf hν _ _=>exact ⟨_,_,_,_,h,hx,hν,rfl⟩
    .cases hb
  .exact h.elim
 have ownS:∀{x:Operand} {K':Nat->Prop},zkA zut S x K'->∃b i z o n c,K' b/\zcd S b=true/\O b=some (i,z)/\zah F x= .slice (some ⟨i,o,none⟩) n c:=λ{x K'} h=>by
  unfold zkA at h
  obtain ⟨av,h,ha⟩:=zau hr h
  split at h
  .rename_i b hb
   cases hx:zcd S b with
   |false=>rw [hx] at h;exact h.elim
   |true=>
    rw [hx] at h
    unfold zut at hb
    split at hb
    .simp only [Option.some.injEq] at hb;subst hb
     generalize zah F x=av' at ha
     cases ha with
     |slcU hν=>exact ⟨_,_,_,_,_,_,h,hx,hν,rfl⟩
     |slc hν _ _ _=>exact ⟨_,_,_,_,_,_,h,hx,hν,rfl⟩
    .cases hb
  .exact h.elim
 have ztn:∀{b i z:Nat},zcd S b=true->O b=some (i,z)->∃cs e w m,H.get i=some (.cells cs e w m false):=λ{b i z} hb hν=>by
  unfold zcd at hb
  split at hb
  .rename_i k hg
   obtain ⟨i',z',hν',hB⟩:=hr.blkT _ _ hg
   rw [hν] at hν';cases hν'
   cases k with
   |box e cs=>obtain ⟨cs',m,hgi,_⟩:=hB;exact ⟨_,_,_,_,hgi⟩
   |arr e l=>obtain ⟨cs',m,hgi,_⟩:=hB;exact ⟨_,_,_,_,hgi⟩
   |grd a e l=>obtain ⟨cs',m,hgi,_⟩:=hB;exact ⟨_,_,_,_,hgi⟩
   |own v e e' l=>obtain ⟨cs',m,hgi,_⟩:=hB;exact ⟨_,_,_,_,hgi⟩
   |lp _ _ _ _ _ _ _=>cases hb
   |dfr=>cases hb
  .cases hb
 unfold ziF at h
 split at h
 .rename_i t a
  obtain ⟨b,i,z,o,h,hb,hν,e⟩:=own h
  exact ⟨[b],[],[i],[],h,by simp only [zdZ,e],λx hx=>⟨b,by simp,⟨z,by rw [List.mem_singleton.1 hx];exact hν⟩,hb⟩,.inl rfl⟩
 .rename_i t a x
  obtain ⟨b,i,z,o,h,hb,hν,hv⟩:=own h
  obtain ⟨cs,e,w,m,hg⟩:=ztn hb hν
  refine ⟨[],[b],[],i::m.toList,h,by simp only [zdZ,hv,hg],λx hx=>(by simp at hx),.inr ⟨rfl,b,i,z,by simp,hb,hν, ?_⟩⟩
  unfold zaa.mate
  rw [hg]
 .rename_i s d x
  obtain ⟨xv,h,hx⟩:=zau hr h
  split at h
  .rename_i kn hk
   refine gen h ?_
   cases xv with
   |int k n=>cases hxe:zah F x<;>rw [hxe] at hx<;>first| (cases hx;done)|simp only [zdZ,hxe]
   |val v=>
    cases v with
    |int k n=>cases hxe:zah F x<;>rw [hxe] at hx<;>first| (cases hx;done)|simp only [zdZ,hxe]
    |_=>cases hk
   |_=>cases hk
  .exact h.elim
 .rename_i t x lo hi mx
  obtain ⟨b,i,z,o,n,c,h,hb,hν,e⟩:=ownS h
  exact ⟨[b],[],[i],[],h,by simp only [zdZ,e],λx hx=>⟨b,by simp,⟨z,by rw [List.mem_singleton.1 hx];exact hν⟩,hb⟩,.inl rfl⟩
 .rename_i h1 h2 h3 h4
  refine gen h ?_
  cases o<;>first|rfl|exact absurd rfl (h1 _ _)|exact absurd rfl (h2 _ _ _)|exact absurd rfl (h3 _ _ _)|exact absurd rfl (h4 _ _ _ _ _)
structure zvS (O:Nu) (H:zaa) (l1 s1 l s:List Nat):Prop where
 ld:∀x,x∈l->∃b,b∈l1/\∃z,O b=some (x,z)
 st:∀y,y∈s->(∃b,b∈s1/\∃z,O b=some (y,z))\/(H.get y=none/\∀x,x∈l->x≠y)
theorem zlb {C:Ctx} {G:Msk} {srun:zdW} {run:Run} (E:Env C G srun run) {ops:Array Oper}:∀(l:List Oper) {S:SS} {F:zab} {H:zaa} {O:Nu} {J:Sig} {Ks:SS->Prop} {ld1 st1 ld st:List Nat},(∀o,o∈l->zeJ o.op=true)->SR C.P base H0 O J S F H->zvS O H ld1 st1 ld st->zxD C srun ops l S ld1 st1 Ks->
  ∃F' H',zgR (zfa C.P G run) C.P ops l F H ld st=some (F',H')/\∃S' O' J',Ks S'/\SR C.P base H0 O' J' S' F' H'/\XNn S.nx O O'/\XS J J'/\zaz S S'/\zdg (zlw ops l) S S'
 | [],S,F,H,O,J,Ks,ld1,st1,ld,st,_,hr,hft,h=>by
  have h:cond ((ld1.all λb=>st1.all λb'=> !Nat.beq b b')&&(ld1.all λb=>zcd S b)&&(st1.all λb=>zcd S b)) (Ks S) False:=h
  cases hc0:((ld1.all λb=>st1.all λb'=> !Nat.beq b b')&&(ld1.all λb=>zcd S b)&&(st1.all λb=>zcd S b)) with
  |false=>rw [hc0] at h;exact h.elim
  |true=>
   rw [hc0] at h
   simp only [Bool.and_eq_true] at hc0
   obtain ⟨⟨hc,hbl⟩,hbs⟩:=hc0
   have live:∀b,zcd S b=true->∃k,At S (.top b) k:=λb hb=>by
    unfold zcd at hb
    split at hb
    .rename_i k hg;exact ⟨k,hg⟩
    .cases hb
   refine ⟨F,H, ?_,S,O,J,h,hr,.refl _,.refl _,.refl _,.refl _ _⟩
   have:(ld.all λi=>st.all λj=> !Nat.beq i j)=true:=by
    refine List.all_eq_true.2 λx hx=>List.all_eq_true.2 λy hy=> ?_
    have hne:x≠y:=by
     rcases hft.st y hy with ⟨b',hb',z',hν'⟩| ⟨_,h2⟩
     .obtain ⟨b,hb,z,hν⟩:=hft.ld x hx
      intro e
      subst e
      obtain ⟨k1,a1⟩:=live b (List.all_eq_true.1 hbl b hb)
      obtain ⟨k2,a2⟩:=live b' (List.all_eq_true.1 hbs b' hb')
      have hbb:=Bid.top_inj (hr.inj (.top b) (.top b') k1 k2 x z z' a1 a2 hν hν')
      have:=List.all_eq_true.1 (List.all_eq_true.1 hc b hb) b' hb'
      rw [hbb,Nat.beq_refl] at this;cases this
     .exact h2 x hx
    rw [ziY hne];rfl
   simp only [zgR,this,cond_true]
 |o::l,S,F,H,O,J,Ks,ld1,st1,ld,st,hpl,hr,hft,h=>by
  obtain ⟨S1,hr1,hk1,hs1,h|h⟩:=zeo hr (show zcD S ops o (λS=>cond (ld1.all λb=>zcd S b) (ziF S o.op λl1 s1=>ziK C srun o.op S λv S1=>S1.put o.dst (some v) λS2=>zxD C srun ops l S2 (l1++ld1) (s1++st1) Ks) False) (λS=>S.put o.dst (some (.val undef)) λS2=>zxD C srun ops l S2 ld1 st1 Ks) from h)
  .obtain ⟨hf,h⟩:=h
   cases hbx:(ld1.all λb=>zcd S1 b) with
   |false=>rw [hbx] at h;exact h.elim
   |true=>
   rw [hbx] at h
   simp only [cond_true] at h
   obtain ⟨l1,s1,l0,s0,h,hfoot,hfl,hfs⟩:=znx hr1 h
   obtain ⟨v',H2,hop,v,S2,O2,J2,h,hr2,hv,hxn,hxs,hfr,hk2⟩:=ziL E (type:=o.type) hr1 h
   obtain ⟨F3,S3,hput,h,hr3,hk3,hs3⟩:=SS.put_ok hr2 h (v':=v') (λu hu=>by cases hu;exact hv)
   obtain ⟨_,e2,e3,_,e5⟩:=zgJ (hpl o List.mem_cons_self) hfoot hop
   have nu2:∀b x z,O b=some (x,z)->O2 b=some (x,z):=λb x z hz=>by
    by_cases hb:b.id<S1.nx
    .rw [hxn b hb];exact hz
    .have:=hr1.dom b (by omega);rw [this] at hz;cases hz
   have boxed:∀b,zcd S1 b=true->∃k,S1.hp.get b=some k/\∀x z,O b=some (x,z)->H.get x≠none:=λb hb=>by
    unfold zcd at hb
    split at hb
    .rename_i kk hg
     refine ⟨_,hg,λx z hz=> ?_⟩
     obtain ⟨i,z',hν',hB⟩:=hr1.blkT _ _ hg
     rw [hz] at hν';cases hν'
     cases kk with
     |box e cs=>obtain ⟨cs',m,hgi,_⟩:=hB;rw [hgi];simp
     |arr e l=>obtain ⟨cs',m,hgi,_⟩:=hB;rw [hgi];simp
     |grd a e l=>obtain ⟨cs',m,hgi,_⟩:=hB;rw [hgi];simp
     |own v e e' l=>obtain ⟨cs',m,hgi,_⟩:=hB;rw [hgi];simp
     |lp _ _ _ _ _ _ _=>cases hb
     |dfr=>cases hb
    .cases hb
   have hld:∀x,x∈l0++ld->∃b,b∈l1++ld1/\(∃z,O b=some (x,z))/\zcd S1 b=true:=λx hx=>by
    rcases List.mem_append.1 hx with h1|h1
    .obtain ⟨b,q1,q2,q3⟩:=hfl x h1;exact ⟨b,List.mem_append_left _ q1,q2,q3⟩
    .obtain ⟨b,q1,q2⟩:=hft.ld x h1;exact ⟨b,List.mem_append_right _ q1,q2,List.all_eq_true.1 hbx b q1⟩
   have hft3:zvS O2 H2 (l1++ld1) (s1++st1) (l0++ld) (s0++st):=by
    refine ⟨λx hx=> ?_,λy hy=> ?_⟩
    .obtain ⟨b,q1,⟨z,q2⟩,q3⟩:=hld x hx
     exact ⟨b,q1,z,nu2 b x z q2⟩
    .rcases List.mem_append.1 hy with h1|h1
     .rcases hfs with e| ⟨hso,b,i,z,q1,q2,q3,q4⟩
      .rw [e] at h1;simp at h1
      .obtain ⟨k,hg,_⟩:=boxed b q2
       by_cases hyi:y=i
       .subst hyi;exact .inl ⟨b,List.mem_append_left _ q1,z,nu2 b y z q3⟩
       .have hym:y∈(H.mate i).toList:=by
         rw [q4] at h1
         rcases List.mem_cons.1 h1 with e|e
         .exact absurd e hyi
         .exact e
        obtain ⟨_,_,_,q8⟩:=hr1.mates (.top b) _ i z y hg q3 (by simpa using hym)
        refine .inr ⟨e5 hso i _ q4 y hym hyi,λx hx e=> ?_⟩
        obtain ⟨b',_,⟨z',hz'⟩,hbb⟩:=hld x hx
        obtain ⟨k',hg',_⟩:=boxed b' hbb
        exact q8 (.top b') _ z' hg' (by rw [<-e];exact hz')
     .rcases hft.st y h1 with ⟨b,q1,z,q2⟩| ⟨q1,q2⟩
      .exact .inl ⟨b,List.mem_append_right _ q1,z,nu2 b y z q2⟩
      .refine .inr ⟨e3 y q1,λx hx e=> ?_⟩
       obtain ⟨b,_,⟨z,q5⟩,q6⟩:=hld x hx
       obtain ⟨_,_,q7⟩:=boxed b q6
       exact q7 x z q5 (by rw [e];exact q1)
   obtain ⟨F4,H4,hst,S4,O4,J4,h,hr4,hxn4,hxs4,hk4,hs4⟩:=zlb E l (λo ho=>hpl o (List.mem_cons_of_mem _ ho)) hr3 hft3 h
   refine ⟨F4,H4, ?_,S4,O4,J4,h,hr4,(hxn.mono hk1.nx).trans hxn4 (Nat.le_trans hk1.nx (Nat.le_trans hk2.nx hk3.nx)),hxs.trans hxs4,hk1.trans (hk2.trans (hk3.trans hk4)), ?_⟩
   .simp only [zgR,hf,cond_true,hfoot,hop,za8,hput,hst]
   .refine (hs1.mono (zhK List.mem_cons_self)).trans (.trans (λt _=>by rw [hfr]) ((hs3.mono (zcE List.mem_cons_self)).trans (hs4.mono (ze2 λo ho=>List.mem_cons_of_mem _ ho))))
  .obtain ⟨hf,h⟩:=h
   obtain ⟨F3,S3,hput,h,hr3,hk3,hs3⟩:=SS.put_ok hr1 h (v':=undef) (λu hu=>by cases hu;exact .undef)
   obtain ⟨F4,H4,hst,S4,O4,J4,h,hr4,hxn4,hxs4,hk4,hs4⟩:=zlb E l (λo ho=>hpl o (List.mem_cons_of_mem _ ho)) hr3 hft h
   refine ⟨F4,H4, ?_,S4,O4,J4,h,hr4,hxn4.mono (Nat.le_trans hk1.nx hk3.nx),hxs4,hk1.trans (hk3.trans hk4), ?_⟩
   .simp only [zgR,hf,cond_false,hput,hst]
   .refine (hs1.mono (zhK List.mem_cons_self)).trans ((hs3.mono (zcE List.mem_cons_self)).trans (hs4.mono (ze2 λo ho=>List.mem_cons_of_mem _ ho)))
theorem zj8 {C:Ctx} {G:Msk} {srun:zdW} {run:Run} (E:Env C G srun run) {ops:Array Oper} {draw:Bool} {Q:SQ} (hr:SR C.P base H0 O J S F H) (h:zg2 C srun ops draw S Q):
  ∃F' H',zeE C.P G run ops draw F H=some (.normal,F',H')/\∃S' O' J',Q .normal S'/\SR C.P base H0 O' J' S' F' H'/\XNn S.nx O O'/\XS J J'/\zaz S S'/\zdg (zlw ops ops.toList) S S':=by
 unfold zg2 at h
 unfold zeE
 cases draw with
 |false=>
  obtain ⟨F',H',h1,S',O',J',h2⟩:=zeZ E ops.toList hr h
  exact ⟨F',H',by simp only [cond_false,h1],S',O',J',h2⟩
 |true=>
  simp only [cond_true] at h⊢
  generalize zbK (zfE ops) (zaX ops.toList []) ops.size=W at h⊢
  unfold zqJ at h
  unfold zhV
  generalize zbK (zfL ops) (zaX ops.toList []) W=T at h⊢
  cases hb:zsR ops T W with
  |true=>
   rw [hb] at h
   simp only [cond_true] at h⊢
  |false=>
   rw [hb] at h
   simp only [cond_false] at h⊢
   cases hcw:zly ops W with
   |true=>
    rw [hcw] at h
    simp only [cond_true] at h⊢
    unfold zhU
    cases hd:zgo ops (zaX ops.toList []) with
    |false=>rw [hd] at h;exact h.elim
    |true=>
     rw [hd] at h
     simp only [cond_true] at h⊢
     unfold zly at hcw
     simp only [Bool.and_eq_true] at hcw
     obtain ⟨F1,H1,h1,S1,O1,J1,h,hr1,hxn1,hxs1,hk1,hs1⟩:=zlb E ops.toList (ld:= []) (st:= []) (λo ho=>List.all_eq_true.1 hcw.2 o ho) hr ⟨λx hx=>by simp at hx,λy hy=>by simp at hy⟩ h
     exact ⟨F1,H1,by simp only [h1],S1,O1,J1,h,hr1,hxn1,hxs1,hk1,hs1⟩
   |false=>
   rw [hcw] at h
   simp only [cond_false] at h⊢
   unfold zlV
   cases hd:zgn ops (zaX ops.toList []) W with
   |false=>rw [hd] at h;exact h.elim
   |true=>
    rw [hd] at h
    simp only [cond_true] at h⊢
    obtain ⟨F1,H1,h1,S1,O1,J1,h,hr1,hxn1,hxs1,hk1,hs1⟩:=zg1 E _ (λo ho=>List.mem_of_mem_take ho) hr h
    obtain ⟨F2,H2,h2,S2,O2,J2,h,hr2,hxn2,hxs2,hk2,hs2⟩:=zeZ E _ hr1 h
    refine ⟨F2,H2,by simp only [h1,h2],S2,O2,J2,h,hr2,hxn1.trans hxn2 hk1.nx,hxs1.trans hxs2,hk1.trans hk2, ?_⟩
    exact hs1.trans (hs2.mono (ze2 λo ho=>List.mem_of_mem_drop ho))
end
end Go.Ev
