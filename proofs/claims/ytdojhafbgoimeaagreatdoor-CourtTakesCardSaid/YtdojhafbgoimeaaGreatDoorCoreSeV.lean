/- Part of the proof. -/
import Derived.Test.YtdojhafbgoimeaaGreatDoorCoreSeU

namespace Go.Ev
section
variable {P:Program} {base:Nat} {H0:zaa×Sig} {O:Nu} {J:Sig} {S:SS} {F:zab} {H:zaa} {K:V->SS->Prop} {Kv:V->Prop}
theorem zcg {x:Option V} {x':Option Value} {d y:Nat} {i:Int} {n N:NL} {D:Int} (hd:D=d/\N.v=d) (h:bnd x (D,N)=some (i,n)) (hx:zsX P J O x x') (h0:0<=i) (hy:i<=y):
  zb6 x' y d=some n.v/\i=n.v/\(x'.all Ev.flat)=true/\((x'=none/\n.v=d)\/∃k,x'=some (.int k n.v)):=by
 cases x with
 |none=>
  cases x' with
  |some _=>exact hx.elim
  |none=>
   simp only [bnd,Option.some.injEq,Prod.mk.injEq] at h
   obtain ⟨rfl,rfl⟩:=h
   exact ⟨by simp only [zb6,hd.2],by rw [hd.1,hd.2],rfl,.inl ⟨rfl,hd.2⟩⟩
 |some v=>
  cases x' with
  |none=>exact hx.elim
  |some v'=>
   obtain ⟨⟨k,rfl⟩,hn⟩:=zdu h hx
   have e:i=((n.v:Nat):Int):=by omega
   refine ⟨?_,e,rfl,.inr ⟨k,by rw [e]⟩⟩
   rw [e]
   show (match some (Value.int k (.ofNat n.v)) with|none=>some d|some (.int _ (.ofNat n))=>cond (Nat.ble n y) (some n) none|_=>none)=_
   simp only [Nat.ble_eq_true_of_le (show n.v<=y by omega),cond_true]
theorem zhJ {t:TypeId} {e:TypeDesc} (hu:P.underlying t=some e):(Go.underlying t).val? P=some e:=by
 unfold Go.underlying
 rw [zac]
 have:(Go.program).val? P=some P:=rfl
 rw [this]
 simp only [Option.bind_some,hu];rfl
theorem ze9 {b:Bool} {len y l h:Nat} {lo hi:Option Value} (hl:(lo=none/\l=0)\/∃k,lo=some (.int k (l:Nat))) (hh:(hi=none/\h=len)\/∃k,hi=some (.int k (h:Nat))) (h1:l<=h) (h2:h<=y):
  (Instr.sliceBounds b len y lo hi none).val? P=some (l,h,y):=by
 have sb:∀k n y c,n<=y->(Instr.sliceBound (.int k (n:Nat)) y c).val? P=some n:=λk n y c hle=>by
  unfold Instr.sliceBound
  rw [zac]
  have:(asIntOf (.int k (n:Nat))).val? P=some (k,(n:Int)):=rfl
  rw [this]
  simp only [Option.bind_some]
  rw [if_pos ⟨by omega,by omega⟩]
  rfl
 unfold Instr.sliceBounds
 rw [zac,show ((pure y:Sem Nat).val? P)=some y from rfl,Option.bind_some]
 rcases hh with ⟨rfl,rfl⟩| ⟨k,rfl⟩<;>rcases hl with ⟨rfl,rfl⟩| ⟨k',rfl⟩
 .rfl
 .dsimp only
  rw [zac,show ((pure h:Sem Nat).val? P)=some h from rfl,Option.bind_some,zac,sb k' l h _ h1];rfl
 .dsimp only
  rw [zac,sb k h y _ h2,Option.bind_some,zac,show ((pure 0:Sem Nat).val? P)=some 0 from rfl];rfl
 .dsimp only
  rw [zac,sb k h y _ h2,Option.bind_some,zac,sb k' l h _ h1];rfl
theorem zhA {e:TypeId} {s:Nat} (hs:zaj P e=some s):(sizeOf e).val? P=some s:=by
 unfold zaj at hs
 unfold sizeOf typeInfo
 rw [zac,zac]
 have:(Go.program).val? P=some P:=rfl
 rw [this]
 cases hi:P.info? e with
 |none=>rw [hi] at hs;cases hs
 |some inf=>
  rw [hi] at hs
  simp only [Option.map_some,Option.some.injEq] at hs
  subst hs
  simp only [Option.bind_some,hi]
  rfl
theorem zsE {t e:TypeId} {lo' hi':Option Value} {se l h:Nat} (hu:P.underlying t=some (.slice e)) (hse:zaj P e=some se) (a3:(lo'.all Ev.flat)=true) (b3:(hi'.all Ev.flat)=true)
  (a4:(lo'=none/\l=0)\/∃k,lo'=some (.int k l)) (b4:(hi'=none/\h=0)\/∃k,hi'=some (.int k h)) (hn0:h=0) (ln0:l=0) (H:zaa):zch P t (.slice none 0 0) lo' hi' none H=some (.slice none 0 0,H):=by
 have hA:zbR P H t (.slice none 0 0) lo' hi' none=none:=by unfold zbR;simp only [hu]
 have hA2:za3 P H t (.slice none 0 0) lo' hi' none=none:=by unfold za3;simp only [hu]
 have hv:(Instr.sliceAt t (.slice none 0 0) lo' hi' none).val? P=some (.slice none 0 0):=by
  unfold Instr.sliceAt
  rw [zac,zhJ hu]
  simp only [Option.bind_some]
  unfold Instr.slice
  rw [zac,zhJ hu]
  simp only [Option.bind_some]
  rw [zac,ze9 (P:=P) (l:=l) (h:=h) a4 (by rw [hn0] at b4⊢;exact b4) (by omega) (by omega)]
  simp only [Option.bind_some]
  rw [zac,zhA hse]
  simp only [Option.bind_some,hn0,ln0]
  rfl
 have fl:Ev.flat (.slice none 0 0)=true:=rfl
 unfold zch
 simp only [hA,hA2,fl,a3,b3,Bool.and_self,Option.all_none,cond_true,zaA,hv]
theorem zlp {t:TypeId} {x:V} {x':Value} {lo hi mx:Option V} {lo' hi' mx':Option Value} (hr:SR P base H0 O J S F H) (h:ziO P S t x lo hi mx Kv) (hx:zam P J O x x') (hlo:zsX P J O lo lo') (hhi:zsX P J O hi hi') (hmx:zsX P J O mx mx'):
  VOK P J O H (zch P t x' lo' hi' mx' H) Kv:=by
 unfold ziO at h
 split at h
 .rename_i e hu
  have hm0:mx'=none:=by cases mx' with|none=>rfl|some _=>exact hmx.elim
  subst hm0
  split at h
  .rename_i b o n c
   split at h
   .rename_i l ln hh hn e' L hbl hbh hb
    cases he:Nat.beq e e' with
    |false=>rw [he] at h;exact h.elim
    |true=>
     have:=Nat.eq_of_beq_eq_true he
     subst this
     rw [he] at h
     obtain ⟨q1,q2,q3,h⟩:=h
     obtain ⟨i,z,hν,hB⟩:=hr.blkT _ _ hb
     obtain ⟨cs,m,hg,hsz,hz0,hlen,hrd⟩:=hB
     have hesz:zfd H i z=true:=by unfold zfd;rw [hg];exact Nat.beq_refl z
     cases hx with
     |slcU hν'=>
      rw [hν] at hν';cases hν'
      simp only [zt7] at q3
      obtain ⟨b1,b2,_,_⟩:=zcg (y:=n.v) (d:=n.v) ⟨rfl,rfl⟩ hbh hhi (by omega) q3
      obtain ⟨a1,a2,_,_⟩:=zcg (y:=hn.v) (d:=0) ⟨rfl,rfl⟩ hbl hlo q1 (by omega)
      refine ⟨_,.slice (some ⟨i,o.v*z+ln.v*z,none⟩) (hn.v-ln.v) UNK, ?_,h, ?_⟩
      .unfold zch zbR
       simp only [hu,hsz,hesz,Bool.true_or,cond_true,Nat.beq_refl UNK,b1,a1]
      .have:=zam.slcU (P:=P) (J:=J) (O:=O) (o:=o.add ln) (n:=hn.sub ln) hν
       rw [NL.v_add,NL.v_sub,Nat.add_mul] at this
       exact this
     |slc hν' hcu hnc ho=>
      rename_i zq off c0
      rw [hν] at hν';cases hν'
      simp only [zt7] at q3
      obtain ⟨b1,b2,_,_⟩:=zcg (y:=c0.v) (d:=n.v) ⟨rfl,rfl⟩ hbh hhi (by omega) q3
      obtain ⟨a1,a2,_,_⟩:=zcg (y:=hn.v) (d:=0) ⟨rfl,rfl⟩ hbl hlo q1 (by omega)
      have hcu':Nat.beq c0.v UNK=false:=ziY (by omega)
      have hcu2:Nat.blt c0.v UNK=true:=Nat.ble_eq_true_of_le hcu
      refine ⟨_,.slice (some ⟨i,cond (Nat.beq c0.v ln.v) off (off+ln.v*z),none⟩) (hn.v-ln.v) (c0.v-ln.v), ?_,h, ?_⟩
      .unfold zch zbR
       simp only [hu,hsz,hesz,Bool.true_or,cond_true,hcu',hcu2,cond_false]
       have:zb6 none c0.v c0.v=some c0.v:=rfl
       simp only [this,b1,a1]
      .have key:cond (Nat.beq c0.v ln.v) off (off+ln.v*z)=(o.v+ln.v)*z\/(c0.v-ln.v=0/\cond (Nat.beq c0.v ln.v) off (off+ln.v*z)<=(o.v+ln.v)*z):=by
        rw [Nat.add_mul]
        cases hcl:Nat.beq c0.v ln.v with
        |true=>
         have:=Nat.eq_of_beq_eq_true hcl
         simp only [cond_true]
         rcases ho with ho|ho
         .exact .inr ⟨by omega,by omega⟩
         .exact .inr ⟨by omega,by omega⟩
        |false=>
         simp only [cond_false]
         rcases ho with ho|ho
         .exact .inl (by omega)
         .have:c0.v≠ln.v:=λe=>by rw [e,Nat.beq_refl] at hcl;cases hcl
          omega
       have:=zam.slc (P:=P) (J:=J) (O:=O) (o:=o.add ln) (n:=hn.sub ln) (c:=c0.sub ln) (off:=cond (Nat.beq c0.v ln.v) off (off+ln.v*z)) hν (by rw [NL.v_sub];omega) (by rw [NL.v_sub,NL.v_sub];omega) (by rw [NL.v_add,NL.v_sub];exact key)
       rw [NL.v_sub,NL.v_sub] at this
       exact this
   .exact h.elim
  .rename_i t' d
   split at h
   .rename_i l ln hh hn hbl hbh
    cases ht:(Nat.beq t t'&&zkl P e) with
    |false=>rw [ht] at h;exact h.elim
    |true=>
     rw [ht] at h
     simp only [Bool.and_eq_true] at ht
     have:=Nat.eq_of_beq_eq_true ht.1
     subst this
     obtain ⟨q1,q2,q3,h⟩:=h
     obtain ⟨se,hse⟩:∃s,zaj P e=some s:=by have:=ht.2;unfold zkl at this;split at this;exact ⟨_,by assumption⟩;cases this
     cases hx with
     |dat htt hrd=>
      have hst:zaj P t=some 1:=hrd.size
      rcases hrd.sliceInv hu with ⟨rfl,hcs⟩| ⟨L,i,o,c,sz,cs',rfl,hcs,hsz,⟨zz,hσ,hzz⟩,hle,hcc,hel⟩
      .cases hcs
       simp only [zuN] at q3
       obtain ⟨b1,b2,b3,b4⟩:=zcg (y:=0) (d:=0) ⟨rfl,rfl⟩ hbh hhi (by omega) (by omega)
       obtain ⟨a1,a2,a3,a4⟩:=zcg (y:=hn.v) (d:=0) ⟨rfl,rfl⟩ hbl hlo q1 (by omega)
       have hn0:hn.v=0:=by omega
       have ln0:ln.v=0:=by omega
       refine ⟨_,.slice none 0 0, ?_,h,.dat hu (.nil hu hst)⟩
       have hA:zbR P H t (.slice none 0 0) lo' hi' none=none:=by unfold zbR;simp only [hu]
       have hA2:za3 P H t (.slice none 0 0) lo' hi' none=none:=by unfold za3;simp only [hu]
       have hv:(Instr.sliceAt t (.slice none 0 0) lo' hi' none).val? P=some (.slice none 0 0):=by
        unfold Instr.sliceAt
        rw [zac,zhJ hu]
        simp only [Option.bind_some]
        unfold Instr.slice
        rw [zac,zhJ hu]
        simp only [Option.bind_some]
        rw [zac,ze9 (P:=P) (l:=ln.v) (h:=hn.v) (by rw [ln0] at a4⊢;exact a4) (by rw [hn0] at b4⊢;exact b4) (by omega) (by omega)]
        simp only [Option.bind_some]
        rw [zac,zhA hse]
        simp only [Option.bind_some,hn0,ln0]
        rfl
       have fl:Ev.flat (.slice none 0 0)=true:=rfl
       unfold zch
       simp only [hA,hA2,fl,a3,b3,Bool.and_self,Option.all_none,cond_true,zaA,hv]
      .cases hcs
       simp only [zsc] at q3
       obtain ⟨_,e1,m,ro,hg⟩:=hr.sig _ _ hσ
       have hesz:(zfd H i sz||zcK H i sz o c)=true:=by
        rcases hzz with rfl| ⟨rfl,k1,k2⟩
        .have:zfd H i zz=true:=by unfold zfd;rw [hg];exact Nat.beq_refl zz
         rw [this,Bool.true_or]
        .have:zcK H i sz o c=true:=by
          unfold zcK;rw [hg]
          show (Nat.ble (o+c*sz) cs'.length&&Nat.blt c UNK)=true
          rw [Nat.ble_eq_true_of_le k2,show Nat.blt c UNK=true from Nat.ble_eq_true_of_le k1];rfl
         rw [this,Bool.or_true]
       have hb0:=(zcg (P:=P) (J:=J) (O:=O) (y:=L.length) (d:=L.length) ⟨rfl,rfl⟩ hbh hhi (by omega) q3).2.1
       have ha0:=(zcg (P:=P) (J:=J) (O:=O) (y:=hn.v) (d:=0) ⟨rfl,rfl⟩ hbl hlo q1 (by omega)).2.1
       have hmul:(ln.v+(hn.v-ln.v))*sz<=L.length*sz:=Nat.mul_le_mul_right _ (by omega)
       rw [Nat.add_mul] at hmul
       have read:∀off c',(off=o+ln.v*sz\/(hn.v-ln.v=0/\off<=cs'.length))->(c'=UNK\/(hn.v-ln.v<=c'/\c'<UNK))->(zz=sz\/(zz=0/\c'<UNK/\off+c'*sz<=cs'.length))->zam P J O (.dat t (.list ((L.drop ln.v).take (hn.v-ln.v)))) (.slice (some ⟨i,off,none⟩) (hn.v-ln.v) c'):=by
        intro off c' ho hc' hz'
        have hll:((L.drop ln.v).take (hn.v-ln.v)).length=hn.v-ln.v:=by rw [List.length_take,List.length_drop];omega
        have:=zan.list (P:=P) (J:=J) (t:=t) (l:=(L.drop ln.v).take (hn.v-ln.v)) (o:=off) (c:=c') hu hst hsz hσ (by rw [hll];rcases ho with ho|ho;rw [ho];omega;rw [ho.1,Nat.zero_mul];omega) (by rw [hll];exact hc') hz' (λj d hj=>by
         have hjl:j<hn.v-ln.v:=by have:=(List.getElem?_eq_some_iff.1 hj).1;omega
         rw [List.getElem?_take,if_pos hjl,List.getElem?_drop] at hj
         rcases ho with ho|ho
         .have:=hel _ _ hj
          rw [ho,show o+ln.v*sz+j*sz=o+(ln.v+j)*sz by rw [Nat.add_mul];omega]
          exact this
         .omega)
        rw [hll] at this
        exact .dat hu this
       have hsub:(D.list L).sub ln.v (hn.sub ln).v= .list ((L.drop ln.v).take (hn.v-ln.v)):=by rw [NL.v_sub];rfl
       rw [hsub] at h
       obtain ⟨a1,a2,_,_⟩:=zcg (y:=hn.v) (d:=0) ⟨rfl,rfl⟩ hbl hlo q1 (by have:=(zcg (P:=P) (J:=J) (O:=O) (y:=L.length) (d:=L.length) ⟨rfl,rfl⟩ hbh hhi (by omega) q3).2.1;omega)
       rcases hcc with rfl| ⟨hc1,hc2⟩
       .obtain ⟨b1,b2,_,_⟩:=zcg (y:=L.length) (d:=L.length) ⟨rfl,rfl⟩ hbh hhi (by omega) q3
        refine ⟨_,.slice (some ⟨i,o+ln.v*sz,none⟩) (hn.v-ln.v) UNK, ?_,h,read _ _ (.inl rfl) (.inl rfl) (.inl (hzz.resolve_right λk=>absurd k.2.1 (Nat.lt_irrefl _)))⟩
        unfold zch zbR
        simp only [hu,hsz,hesz,Bool.true_or,cond_true,Nat.beq_refl UNK,b1,a1]
       .obtain ⟨b1,b2,_,_⟩:=zcg (y:=c) (d:=L.length) ⟨rfl,rfl⟩ hbh hhi (by omega) (by omega)
        have hcu':Nat.beq c UNK=false:=ziY (by omega)
        have hcu2:Nat.blt c UNK=true:=Nat.ble_eq_true_of_le hc2
        refine ⟨_,.slice (some ⟨i,cond (Nat.beq c ln.v) o (o+ln.v*sz),none⟩) (hn.v-ln.v) (c-ln.v), ?_,h,read _ _ ?_ (.inr ⟨by omega,by omega⟩) (hzz.imp id λk=>⟨k.1,by omega, ?_⟩)⟩
        .unfold zch zbR
         simp only [hu,hsz,hesz,Bool.true_or,cond_true,hcu',hcu2,cond_false]
         have:zb6 none c c=some c:=rfl
         simp only [this,b1,a1]
        .cases hcl:Nat.beq c ln.v with
         |true=>
          have:=Nat.eq_of_beq_eq_true hcl
          refine .inr ⟨by omega, ?_⟩
          simp only [cond_true];omega
         |false=>exact .inl rfl
        .have k1:=k.2.2
         have k2:=Nat.sub_mul c ln.v sz
         have k3:ln.v*sz<=c*sz:=Nat.mul_le_mul_right _ (by omega)
         cases Nat.beq c ln.v<;>simp only [cond_true,cond_false]<;>omega
   .exact h.elim
  .split at h
   .rename_i l ln hh hn hbl hbh
    cases ht:zkl P e with
    |false=>rw [ht] at h;exact h.elim
    |true=>
     rw [ht] at h
     obtain ⟨q1,q2,q3,h⟩:=h
     obtain ⟨se,hse⟩:∃s,zaj P e=some s:=by unfold zkl at ht;split at ht;exact ⟨_,by assumption⟩;cases ht
     obtain ⟨b1,b2,b3,b4⟩:=zcg (y:=0) (d:=0) ⟨rfl,rfl⟩ hbh hhi (by omega) (by omega)
     obtain ⟨a1,a2,a3,a4⟩:=zcg (y:=hn.v) (d:=0) ⟨rfl,rfl⟩ hbl hlo q1 (by omega)
     cases hx with
     |val _=>exact ⟨_,.slice none 0 0,zsE hu hse a3 b3 a4 b4 (by omega) (by omega) H,h,.val rfl⟩
   .exact h.elim
  .exact h.elim
 .rename_i hu
  have hm0:mx'=none:=by cases mx' with|none=>rfl|some _=>exact hmx.elim
  subst hm0
  split at h
  .rename_i s hs
   split at h
   .rename_i l ln hh hn hbl hbh
    obtain ⟨q1,q2,q3,h⟩:=h
    rw [zc6 hs hx]
    obtain ⟨b1,b2,b3,b4⟩:=zcg (y:=s.length) (d:=s.length) ⟨rfl,rfl⟩ hbh hhi (by omega) q3
    obtain ⟨a1,a2,a3,a4⟩:=zcg (y:=hn.v) (d:=0) ⟨rfl,rfl⟩ hbl hlo q1 (by omega)
    have hA:zbR P H t (.string ⟨⟨s⟩⟩) lo' hi' none=none:=by unfold zbR;simp only [hu]
    have hA2:za3 P H t (.string ⟨⟨s⟩⟩) lo' hi' none=none:=by unfold za3;simp only [hu]
    have hv:(Instr.sliceAt t (.string ⟨⟨s⟩⟩) lo' hi' none).val? P=some (.string ⟨⟨(s.drop ln.v).take (hn.v-ln.v)⟩⟩):=by
     unfold Instr.sliceAt
     rw [zac,zhJ hu]
     simp only [Option.bind_some]
     unfold Instr.slice
     rw [zac,zhJ hu]
     simp only [Option.bind_some]
     have hbv:=ze9 (P:=P) (b:=false) (len:=(⟨⟨s⟩⟩:ByteArray).size) (y:=(⟨⟨s⟩⟩:ByteArray).size) (l:=ln.v) (h:=hn.v) a4 b4 (by omega) (by show hn.v<=s.length;omega)
     have hext:(⟨⟨s⟩⟩:ByteArray).extract ln.v hn.v=⟨⟨(s.drop ln.v).take (hn.v-ln.v)⟩⟩:=by
      apply ByteArray.ext
      simp [List.extract_eq_take_drop]
     simp only [Option.isSome_none,Bool.false_eq_true,if_false]
     rw [zac,hbv]
     simp only [Option.bind_some,hext]
     rfl
    have fl:∀b,Ev.flat (.string b)=true:=λ_=>rfl
    refine ⟨_,.string ⟨⟨(s.drop ln.v).take (hn.v-ln.v)⟩⟩, ?_,h,by rw [NL.v_sub];exact .str⟩
    unfold zch
    simp only [hA,hA2,fl,a3,b3,Bool.and_self,Option.all_none,cond_true,zaA,hv]
   .exact h.elim
  .exact h.elim
 .exact h.elim
theorem SR.asVar (hr:SR P base H0 O J S F H) {b i z s:Nat} {k k':SB} (hb:S.hp.get b=some k) (hro:S.ro<=b) (hν:O (Bid.top b)=some (i,z)) (hk':k'.isOwn=false) (hB:zdf P J O s k' (H.get i)):
  ∃O1,O1 (Bid.top S.nx)=some (i,s)/\XN O O1/\XNn S.nx O O1/\SR P base H0 O1 J ((S.write b none).alloc k') F H:=by
 let O1:Nu:=λx=>if x=Bid.top S.nx then some (i,s) else O x
 have hx:XN O O1:=λx c hx=>by
  by_cases e1:x= .top S.nx
  .subst e1;rw [hr.dom _ (Nat.le_refl _)] at hx;cases hx
  .show (if x=Bid.top S.nx then _ else _)=_
   rw [if_neg e1];exact hx
 have hxn:XNn S.nx O O1:=λx hx=>if_neg (λe1=>by subst e1;exact Nat.lt_irrefl _ hx)
 have hblt:b<S.nx:=by
  rcases Nat.lt_or_ge b S.nx with hl|hl
  .exact hl
  .rw [hr.dom (.top b) hl] at hν;cases hν
 have hg:∀c,((S.write b none).alloc k').hp.get c=if c=S.nx then some k' else if c=b then none else S.hp.get c:=λc=>by
  show T.get (T.put (T.put S.hp b _) S.nx _) c=_
  rw [T.get_put,T.get_put]
 let f:Bid->Bid:=λx=>if x=Bid.top S.nx then .top b else x
 have hno:∀v e e' l,k'≠ .own v e e' l:=λv e e' l h=>by subst h;cases hk'
 have hat:∀x k2,At ((S.write b none).alloc k') x k2->(x= .top S.nx/\k2=k')\/(x≠ .top S.nx/\x≠ .top b/\At S x k2/\(Wr ((S.write b none).alloc k') x->Wr S x)):=λx k2 h=>by
  cases x with
  |top c=>
   have h1:((S.write b none).alloc k').hp.get c=some k2:=h
   rw [hg] at h1
   by_cases ec:c=S.nx
   .rw [if_pos ec] at h1;exact .inl ⟨by rw [ec],by cases h1;rfl⟩
   .rw [if_neg ec] at h1
    by_cases ec2:c=b
    .rw [if_pos ec2] at h1;cases h1
    .rw [if_neg ec2] at h1
     exact .inr ⟨Bid.top_ne ec,Bid.top_ne ec2,h1,λh=>h⟩
  |sub w j=>
   obtain ⟨c,q1,q2,l1,r1,h1,h2,h3⟩:=h
   rw [hg] at h1
   by_cases ec:c=S.nx
   .rw [if_pos ec] at h1;exact absurd (Option.some.inj h1) (hno _ _ _ _)
   .rw [if_neg ec] at h1
    by_cases ec2:c=b
    .rw [if_pos ec2] at h1;cases h1
    .rw [if_neg ec2] at h1
     refine .inr ⟨λh=>(by cases h),λh=>(by cases h),⟨c,q1,q2,l1,r1,h1,h2,h3⟩,λ⟨c2,a1,a2,a3,w1,w2⟩=> ?_⟩
     rw [hg] at w1
     by_cases ec:c2=S.nx
     .rw [if_pos ec] at w1;exact absurd (Option.some.inj w1) (hno _ _ _ _)
     .rw [if_neg ec] at w1
      by_cases ec2:c2=b
      .rw [if_pos ec2] at w1;cases w1
      .rw [if_neg ec2] at w1;exact ⟨c2,a1,a2,a3,w1,w2⟩
 have hfb:f (.top S.nx)= .top b:=if_pos rfl
 have hfx:∀x,x≠ .top S.nx->f x=x:=λx h=>if_neg h
 have hνx:∀x,x≠ .top S.nx->O1 x=O x:=λx h=>if_neg h
 refine ⟨O1,if_pos rfl,hx,hxn,hr.remap0 (λt u h=>(hr.fr t u h).mono (.refl _) hx) rfl f (λx k2 h=> ?_) (λx x' k1 k2 h h' he=> ?_) (λx i1 z1 h=> ?_) (λx hx2=> ?_) (Nat.le_succ_of_le hr.role) ⟨λc c' w e1 e2 l1 e3 e4 l2 q1 q2=> ?_,λc w e1 e2 l1 q=> ?_⟩ (hr.mks.mono hx)⟩
 .rcases hat x k2 h with ⟨rfl,rfl⟩| ⟨h1,h2,h3,h4⟩
  .rw [hfb]
   exact ⟨k,hb,λ_=>hro,λi1 z1 e=>⟨z,by have e:some (i,s)=some (i1,z1):=(if_pos rfl).symm.trans e;cases e;exact hν⟩,i,s,if_pos rfl,hB.mono (.refl _) hx⟩
  .rw [hfx x h1]
   obtain ⟨i1,z1,h5,h6⟩:=hr.blk _ _ h3
   exact ⟨k2,h3,h4,λi2 z2 e=>⟨z2,by rw [<-hνx x h1];exact e⟩,i1,z1,(hνx x h1).trans h5,h6.mono (.refl _) hx⟩
 .rcases hat x k1 h with ⟨rfl,rfl⟩| ⟨h1,h2,h3,h4⟩
  .rcases hat x' k2 h' with ⟨rfl,rfl⟩| ⟨g1,g2,g3,g4⟩
   .rfl
   .rw [hfb,hfx x' g1] at he;exact absurd he.symm g2
  .rcases hat x' k2 h' with ⟨rfl,rfl⟩| ⟨g1,g2,g3,g4⟩
   .rw [hfb,hfx x h1] at he;exact absurd he h2
   .rw [hfx x h1,hfx x' g1] at he;exact he
 .by_cases e1:x= .top S.nx
  .subst e1
   have h:some (i,s)=some (i1,z1):=(if_pos rfl).symm.trans h
   cases h
   exact hr.lt _ _ _ hν
  .exact hr.lt x i1 z1 (by rw [<-hνx x e1];exact h)
 .have hx2:S.nx+1<=x.id:=hx2
  rw [hνx x (λe1=>by subst e1;exact absurd hx2 (Nat.not_succ_le_self _))]
  exact hr.dom x (Nat.le_of_succ_le hx2)
 .have key:∀c w e1 e2 l1,((S.write b none).alloc k').hp.get c=some (.own w e1 e2 l1)->S.hp.get c=some (.own w e1 e2 l1):=λc w e1 e2 l1 q=>by
   rw [hg] at q
   by_cases ec:c=S.nx
   .rw [if_pos ec] at q;exact absurd (Option.some.inj q) (hno _ _ _ _)
   .rw [if_neg ec] at q
    by_cases ec2:c=b
    .rw [if_pos ec2] at q;cases q
    .rw [if_neg ec2] at q;exact q
  exact hr.vers.1 _ _ _ _ _ _ _ _ _ (key _ _ _ _ _ q1) (key _ _ _ _ _ q2)
 .rw [hg] at q
  by_cases ec:c=S.nx
  .rw [if_pos ec] at q;exact absurd (Option.some.inj q) (hno _ _ _ _)
  .rw [if_neg ec] at q
   by_cases ec2:c=b
   .rw [if_pos ec2] at q;cases q
   .rw [if_neg ec2] at q;exact Nat.lt_succ_of_lt (hr.vers.2 _ _ _ _ _ q)
theorem zod {e:TypeId} {s:Nat} (hs:zaj P e=some s):∀(n:Nat) (cs:List V) (l:List D) (cs':List Value),chD P e s n cs=some l->zaN P J O cs cs'->cs.length=n*s->zbb P J e s l cs'/\l.length=n
 |0,cs,l,cs',h,hl,hn=>by
  simp only [chD,Option.some.injEq] at h
  subst h
  have:cs= []:=List.length_eq_zero_iff.1 (by rw [hn];omega)
  subst this
  rw [hl.nil_inv]
  exact ⟨.nil,rfl⟩
 |n+1,cs,l,cs',h,hl,hn=>by
  unfold chD at h
  split at h
  .rename_i d ds hd hds
   cases h
   rw [Nat.succ_mul] at hn
   have hR:=zb0 _ _ _ _ _ hd (hl.take s)
   have hlen:(cs'.take s).length=s:=by rw [List.length_take,<-hl.1];omega
   obtain ⟨h1,h2⟩:=zod hs n (cs.drop s) ds (cs'.drop s) hds (hl.drop s) (by rw [List.length_drop];omega)
   have:=(zbb.single hR hlen).append h1
   rw [List.take_append_drop] at this
   exact ⟨this,by simp [h2]⟩
  .cases h
theorem zka {t:TypeId} {x:V} {x':Value} {lo hi mx:Option V} {lo' hi' mx':Option Value} (hr:SR P base H0 O J S F H) (h:zg3 P S t x lo hi mx K) (hx:zam P J O x x') (hlo:zsX P J O lo lo') (hhi:zsX P J O hi hi') (hmx:zsX P J O mx mx'):
  OpR P base H0 O J S F (zch P t x' lo' hi' mx' H) K:=by
 unfold zg3 at h
 split at h
 .rename_i b
  have e1:lo'=none:=by cases lo' with|none=>rfl|some _=>exact hlo.elim
  have e2:hi'=none:=by cases hi' with|none=>rfl|some _=>exact hhi.elim
  have e3:mx'=none:=by cases mx' with|none=>rfl|some _=>exact hmx.elim
  subst e1 e2 e3
  split at h
  .rename_i n e a cs hu hb
   split at h
   .rename_i s hs
    split at h
    .rename_i l hl
     cases hc:(Nat.beq a t&&Nat.ble S.ro b&&Nat.blt 0 s&&Nat.blt 0 n&&Nat.ble n 16777216&&Nat.beq cs.length (n*s)) with
     |false=>rw [hc] at h;exact h.elim
     |true=>
      rw [hc] at h
      simp only [cond_true] at h
      simp only [Bool.and_eq_true] at hc
      obtain ⟨⟨⟨⟨⟨c1,c2⟩,c3⟩,c4⟩,c5⟩,c6⟩:=hc
      have hro:=Nat.le_of_ble_eq_true c2
      have hs0:0<s:=zbg c3
      have hn0:0<n:=zbg c4
      have hn:=Nat.le_of_ble_eq_true c5
      have hlen:=Nat.eq_of_beq_eq_true c6
      have hnU:n<UNK:=Nat.lt_of_le_of_lt hn (by unfold UNK;decide)
      obtain ⟨i,z,hν,cs',m,hg,hL⟩:=hr.blkT _ _ hb
      obtain ⟨⟨hcl,hrow⟩,hll⟩:=zod hs n cs l cs' hl hL hlen
      have hB:zdf P J O s (.grd a e l) (H.get i):=⟨cs',m,hg,hs,hs0,hcl,hrow⟩
      obtain ⟨O1,q1,q2,q3,q4⟩:=hr.asVar hb hro hν (k':= .grd a e l) rfl hB
      cases hx with
      |ptr hν'=>
       rw [hν] at hν';cases hν'
       have hA:zbR P H t (.pointer (some ⟨i,0,none⟩)) none none none=none:=by unfold zbR;simp only [hu]
       have hA2:za3 P H t (.pointer (some ⟨i,0,none⟩)) none none none=some (.slice (some ⟨i,0,none⟩) n n):=by
        unfold za3
        have b1:zb6 none n n=some n:=rfl
        have b2:zb6 none n 0=some 0:=rfl
        have b3:Nat.ble (0+n*s) cs'.length=true:=Nat.ble_eq_true_of_le (by rw [hcl,hll];omega)
        have b4:Nat.blt n UNK=true:=Nat.ble_eq_true_of_le hnU
        have b5:Nat.blt 0 n=true:=Nat.ble_eq_true_of_le hn0
        simp only [hu,hs,hg,b1,b2,b3,b4,b5,Bool.and_self,cond_true,Nat.zero_mul,Nat.sub_zero,Nat.add_zero]
       have hO:zch P t (.pointer (some ⟨i,0,none⟩)) none none none H=some (.slice (some ⟨i,0,none⟩) n n,H):=by
        unfold zch
        simp only [hA,hA2]
       refine ⟨_,H,hO,_,_,O1,J,h,q4, ?_,q3,.refl _,rfl,(zaz.write _ _ _ hro).trans (zaz.alloc _ _)⟩
       have:=zam.slc (P:=P) (J:=J) (O:=O1) (b:=S.nx) (o:= .lit 0) (n:= .lit n) (c:= .lit n) (off:=0) q1 hnU (Nat.le_refl _) (.inl (Nat.zero_mul _).symm)
       exact this
    .exact h.elim
   .exact h.elim
  .exact h.elim
 .obtain ⟨v,v',e,h2,h3⟩:=zlp hr h hx hlo hhi hmx
  rw [e]
  exact OpR.pure hr h3 h2
theorem znr {e:TypeId} {x:V} {x':Value} (hr:SR P base H0 O J S F H) (h:zk9 P S e x K) (hx:zam P J O x x'):OpR P base H0 O J S F (zt5 e x' H) K:=by
 unfold zk9 at h
 split at h
 .split at h
  .rename_i s hs
   split at h
   .rename_i l hl
    cases hc:(x.cells.all V.one&&Nat.blt 0 s&&Nat.beq x.cells.length (_*s)) with
    |false=>rw [hc] at h;exact h.elim
    |true=>
     rw [hc] at h
     simp only [cond_true] at h
     simp only [Bool.and_eq_true] at hc
     have hxc:=hx.cells
     unfold zt5
     rw [za2 (hxc.one hc.1.1)]
     obtain ⟨⟨hcl,hrow⟩,_⟩:=zod hs _ x.cells l _ hl hxc (Nat.eq_of_beq_eq_true hc.2)
     refine ⟨_,_,rfl,_,_,_,J,h,hr.alloc (z:=s) (k:= .grd e _ l) (λO' hν=>⟨_,none,rfl,hs,zbg hc.1.2,hcl,hrow⟩),.ptr (if_pos rfl),zfy _ _ _,.refl _,rfl,.alloc _ _⟩
   .exact h.elim
  .exact h.elim
 .exact h.elim
end
end Go.Ev
