/- Part of the proof. -/
import Derived.Test.YtdojhafbgoimeaaGreatDoorCoreSeU

namespace Go.Ev
section
variable {P:Program} {base:Nat} {H0:zaa×Sig} {O:Nu} {σ:Sig} {S:SS} {F:zab} {H:zaa} {K:V->SS->Prop} {Kv:V->Prop}
theorem zct {x:Option V} {x':Option Value} {d y:Nat} {i:Int} {n N:NL} {D:Int} (hd:D=d/\N.v=d) (h:bnd x (D,N)=some (i,n)) (hx:zwC P σ O x x') (h0:0<=i) (hy:i<=y):
  zcG x' y d=some n.v/\i=n.v/\(x'.all Ev.flat)=true/\((x'=none/\n.v=d)\/∃k,x'=some (.int k n.v)):=by
 cases x with
 |none=>
  cases x' with
  |some _=>exact hx.elim
  |none=>
   simp only [bnd,Option.some.injEq,Prod.mk.injEq] at h
   obtain ⟨rfl,rfl⟩:=h
   exact ⟨by simp only [zcG,hd.2],by rw [hd.1,hd.2],rfl,.inl ⟨rfl,hd.2⟩⟩
 |some v=>
  cases x' with
  |none=>exact hx.elim
  |some v'=>
   obtain ⟨⟨k,rfl⟩,hn⟩:=zd2 h hx
   have e:i=((n.v:Nat):Int):=by omega
   refine ⟨?_,e,rfl,.inr ⟨k,by rw [e]⟩⟩
   rw [e]
   show (match some (Value.int k (.ofNat n.v)) with|none=>some d|some (.int _ (.ofNat n))=>cond (Nat.ble n y) (some n) none|_=>none)=_
   simp only [Nat.ble_eq_true_of_le (show n.v<=y by omega),cond_true]
theorem zhR {t:TypeId} {e:TypeDesc} (hu:P.underlying t=some e):(Go.underlying t).val? P=some e:=by
 unfold Go.underlying
 rw [zad]
 have:(Go.program).val? P=some P:=rfl
 rw [this]
 simp only [Option.bind_some,hu];rfl
theorem zfO {b:Bool} {len y l h:Nat} {lo hi:Option Value} (hl:(lo=none/\l=0)\/∃k,lo=some (.int k (l:Nat))) (hh:(hi=none/\h=len)\/∃k,hi=some (.int k (h:Nat))) (h1:l<=h) (h2:h<=y):
  (Instr.sliceBounds b len y lo hi none).val? P=some (l,h,y):=by
 have sb:∀k n y c,n<=y->(Instr.sliceBound (.int k (n:Nat)) y c).val? P=some n:=λk n y c hle=>by
  unfold Instr.sliceBound
  rw [zad]
  have:(asIntOf (.int k (n:Nat))).val? P=some (k,(n:Int)):=rfl
  rw [this]
  simp only [Option.bind_some]
  rw [if_pos ⟨by omega,by omega⟩]
  rfl
 unfold Instr.sliceBounds
 rw [zad,show ((pure y:Sem Nat).val? P)=some y from rfl,Option.bind_some]
 rcases hh with ⟨rfl,rfl⟩| ⟨k,rfl⟩<;>rcases hl with ⟨rfl,rfl⟩| ⟨k',rfl⟩
 .rfl
 .dsimp only
  rw [zad,show ((pure h:Sem Nat).val? P)=some h from rfl,Option.bind_some,zad,sb k' l h _ h1];rfl
 .dsimp only
  rw [zad,sb k h y _ h2,Option.bind_some,zad,show ((pure 0:Sem Nat).val? P)=some 0 from rfl];rfl
 .dsimp only
  rw [zad,sb k h y _ h2,Option.bind_some,zad,sb k' l h _ h1];rfl
theorem zhZ {e:TypeId} {s:Nat} (hs:zak P e=some s):(sizeOf e).val? P=some s:=by
 unfold zak at hs
 unfold sizeOf typeInfo
 rw [zad,zad]
 have:(Go.program).val? P=some P:=rfl
 rw [this]
 cases hi:P.info? e with
 |none=>rw [hi] at hs;cases hs
 |some inf=>
  rw [hi] at hs
  simp only [Option.map_some,Option.some.injEq] at hs
  subst hs
  simp only [Option.bind_some,hi]
  rfl
theorem zr9 {t e:TypeId} {lo' hi':Option Value} {se l h:Nat} (hu:P.underlying t=some (.slice e)) (hse:zak P e=some se) (a3:(lo'.all Ev.flat)=true) (b3:(hi'.all Ev.flat)=true)
  (a4:(lo'=none/\l=0)\/∃k,lo'=some (.int k l)) (b4:(hi'=none/\h=0)\/∃k,hi'=some (.int k h)) (hn0:h=0) (ln0:l=0) (H:zaa):zdd P t (.slice none 0 0) lo' hi' none H=some (.slice none 0 0,H):=by
 have hA:zcs P H t (.slice none 0 0) lo' hi' none=none:=by unfold zcs;simp only [hu]
 have hA2:zbn P H t (.slice none 0 0) lo' hi' none=none:=by unfold zbn;simp only [hu]
 have hv:(Instr.sliceAt t (.slice none 0 0) lo' hi' none).val? P=some (.slice none 0 0):=by
  unfold Instr.sliceAt
  rw [zad,zhR hu]
  simp only [Option.bind_some]
  unfold Instr.slice
  rw [zad,zhR hu]
  simp only [Option.bind_some]
  rw [zad,zfO (P:=P) (l:=l) (h:=h) a4 (by rw [hn0] at b4⊢;exact b4) (by omega) (by omega)]
  simp only [Option.bind_some]
  rw [zad,zhZ hse]
  simp only [Option.bind_some,hn0,ln0]
  rfl
 have fl:Ev.flat (.slice none 0 0)=true:=rfl
 unfold zdd
 simp only [hA,hA2,fl,a3,b3,Bool.and_self,Option.all_none,cond_true,zaB,hv]
theorem zk9 {t:TypeId} {x:V} {x':Value} {lo hi mx:Option V} {lo' hi' mx':Option Value} (hr:SR P base H0 O σ S F H) (h:zja P S t x lo hi mx Kv) (hx:zao P σ O x x') (hlo:zwC P σ O lo lo') (hhi:zwC P σ O hi hi') (hmx:zwC P σ O mx mx'):
  VOK P σ O H (zdd P t x' lo' hi' mx' H) Kv:=by
 unfold zja at h
 split at h
 .rename_i e hu
  have hm0:mx'=none:=by cases mx' with|none=>rfl|some _=>exact hmx.elim
  subst hm0
  split at h
  .rename_i b o n c
   split at h
   .rename_i l ln hh hn e' L hbl hbh hb
    cases he:Nat.beq e e' with
    |false=>rw [he] at h;exact h.elim
    |true=>
     have:=Nat.eq_of_beq_eq_true he
     subst this
     rw [he] at h
     obtain ⟨q1,q2,q3,h⟩:=h
     obtain ⟨i,z,hν,hB⟩:=hr.blkT _ _ hb
     obtain ⟨cs,m,hg,hsz,hz0,hlen,hrd⟩:=hB
     have hesz:zhA H i z=true:=by unfold zhA;rw [hg];exact Nat.beq_refl z
     cases hx with
     |slcU hν'=>
      rw [hν] at hν';cases hν'
      simp only [zvt] at q3
      obtain ⟨b1,b2,_,_⟩:=zct (y:=n.v) (d:=n.v) ⟨rfl,rfl⟩ hbh hhi (by omega) q3
      obtain ⟨a1,a2,_,_⟩:=zct (y:=hn.v) (d:=0) ⟨rfl,rfl⟩ hbl hlo q1 (by omega)
      refine ⟨_,.slice (some ⟨i,o.v*z+ln.v*z,none⟩) (hn.v-ln.v) UNK, ?_,h, ?_⟩
      .unfold zdd zcs
       simp only [hu,hsz,hesz,cond_true,Nat.beq_refl UNK,b1,a1]
      .have:=zao.slcU (P:=P) (σ:=σ) (O:=O) (o:=o.add ln) (n:=hn.sub ln) hν
       rw [NL.v_add,NL.v_sub,Nat.add_mul] at this
       exact this
     |slc hν' hcu hnc ho=>
      rename_i zq off c0
      rw [hν] at hν';cases hν'
      simp only [zvt] at q3
      obtain ⟨b1,b2,_,_⟩:=zct (y:=c0.v) (d:=n.v) ⟨rfl,rfl⟩ hbh hhi (by omega) q3
      obtain ⟨a1,a2,_,_⟩:=zct (y:=hn.v) (d:=0) ⟨rfl,rfl⟩ hbl hlo q1 (by omega)
      have hcu':Nat.beq c0.v UNK=false:=zjy (by omega)
      have hcu2:Nat.blt c0.v UNK=true:=Nat.ble_eq_true_of_le hcu
      refine ⟨_,.slice (some ⟨i,cond (Nat.beq c0.v ln.v) off (off+ln.v*z),none⟩) (hn.v-ln.v) (c0.v-ln.v), ?_,h, ?_⟩
      .unfold zdd zcs
       simp only [hu,hsz,hesz,cond_true,hcu',hcu2,cond_false]
       have:zcG none c0.v c0.v=some c0.v:=rfl
       simp only [this,b1,a1]
      .have key:cond (Nat.beq c0.v ln.v) off (off+ln.v*z)=(o.v+ln.v)*z\/(c0.v-ln.v=0/\cond (Nat.beq c0.v ln.v) off (off+ln.v*z)<=(o.v+ln.v)*z):=by
        rw [Nat.add_mul]
        cases hcl:Nat.beq c0.v ln.v with
        |true=>
         have:=Nat.eq_of_beq_eq_true hcl
         simp only [cond_true]
         rcases ho with ho|ho
         .exact .inr ⟨by omega,by omega⟩
         .exact .inr ⟨by omega,by omega⟩
        |false=>
         simp only [cond_false]
         rcases ho with ho|ho
         .exact .inl (by omega)
         .have:c0.v≠ln.v:=λe=>by rw [e,Nat.beq_refl] at hcl;cases hcl
          omega
       have:=zao.slc (P:=P) (σ:=σ) (O:=O) (o:=o.add ln) (n:=hn.sub ln) (c:=c0.sub ln) (off:=cond (Nat.beq c0.v ln.v) off (off+ln.v*z)) hν (by rw [NL.v_sub];omega) (by rw [NL.v_sub,NL.v_sub];omega) (by rw [NL.v_add,NL.v_sub];exact key)
       rw [NL.v_sub,NL.v_sub] at this
       exact this
   .exact h.elim
  .rename_i t' d
   split at h
   .rename_i l ln hh hn hbl hbh
    cases ht:(Nat.beq t t'&&zkM P e) with
    |false=>rw [ht] at h;exact h.elim
    |true=>
     rw [ht] at h
     simp only [Bool.and_eq_true] at ht
     have:=Nat.eq_of_beq_eq_true ht.1
     subst this
     obtain ⟨q1,q2,q3,h⟩:=h
     obtain ⟨se,hse⟩:∃s,zak P e=some s:=by have:=ht.2;unfold zkM at this;split at this;exact ⟨_,by assumption⟩;cases this
     cases hx with
     |dat htt hrd=>
      have hst:zak P t=some 1:=hrd.size
      rcases hrd.sliceInv hu with ⟨rfl,hcs⟩| ⟨L,i,o,c,sz,cs',rfl,hcs,hsz,hσ,hle,hcc,hel⟩
      .cases hcs
       simp only [zup] at q3
       obtain ⟨b1,b2,b3,b4⟩:=zct (y:=0) (d:=0) ⟨rfl,rfl⟩ hbh hhi (by omega) (by omega)
       obtain ⟨a1,a2,a3,a4⟩:=zct (y:=hn.v) (d:=0) ⟨rfl,rfl⟩ hbl hlo q1 (by omega)
       have hn0:hn.v=0:=by omega
       have ln0:ln.v=0:=by omega
       refine ⟨_,.slice none 0 0, ?_,h,.dat hu (.nil hu hst)⟩
       have hA:zcs P H t (.slice none 0 0) lo' hi' none=none:=by unfold zcs;simp only [hu]
       have hA2:zbn P H t (.slice none 0 0) lo' hi' none=none:=by unfold zbn;simp only [hu]
       have hv:(Instr.sliceAt t (.slice none 0 0) lo' hi' none).val? P=some (.slice none 0 0):=by
        unfold Instr.sliceAt
        rw [zad,zhR hu]
        simp only [Option.bind_some]
        unfold Instr.slice
        rw [zad,zhR hu]
        simp only [Option.bind_some]
        rw [zad,zfO (P:=P) (l:=ln.v) (h:=hn.v) (by rw [ln0] at a4⊢;exact a4) (by rw [hn0] at b4⊢;exact b4) (by omega) (by omega)]
        simp only [Option.bind_some]
        rw [zad,zhZ hse]
        simp only [Option.bind_some,hn0,ln0]
        rfl
       have fl:Ev.flat (.slice none 0 0)=true:=rfl
       unfold zdd
       simp only [hA,hA2,fl,a3,b3,Bool.and_self,Option.all_none,cond_true,zaB,hv]
      .cases hcs
       simp only [zrT] at q3
       obtain ⟨_,e1,m,ro,hg⟩:=hr.sig _ _ hσ
       have hesz:zhA H i sz=true:=by unfold zhA;rw [hg];exact Nat.beq_refl sz
       have hb0:=(zct (P:=P) (σ:=σ) (O:=O) (y:=L.length) (d:=L.length) ⟨rfl,rfl⟩ hbh hhi (by omega) q3).2.1
       have ha0:=(zct (P:=P) (σ:=σ) (O:=O) (y:=hn.v) (d:=0) ⟨rfl,rfl⟩ hbl hlo q1 (by omega)).2.1
       have hmul:(ln.v+(hn.v-ln.v))*sz<=L.length*sz:=Nat.mul_le_mul_right _ (by omega)
       rw [Nat.add_mul] at hmul
       have read:∀off c',(off=o+ln.v*sz\/(hn.v-ln.v=0/\off<=cs'.length))->(c'=UNK\/(hn.v-ln.v<=c'/\c'<UNK))->zao P σ O (.dat t (.list ((L.drop ln.v).take (hn.v-ln.v)))) (.slice (some ⟨i,off,none⟩) (hn.v-ln.v) c'):=by
        intro off c' ho hc'
        have hll:((L.drop ln.v).take (hn.v-ln.v)).length=hn.v-ln.v:=by rw [List.length_take,List.length_drop];omega
        have:=zaq.list (P:=P) (σ:=σ) (t:=t) (l:=(L.drop ln.v).take (hn.v-ln.v)) (o:=off) (c:=c') hu hst hsz hσ (by rw [hll];rcases ho with ho|ho;rw [ho];omega;rw [ho.1,Nat.zero_mul];omega) (by rw [hll];exact hc') (λj d hj=>by
         have hjl:j<hn.v-ln.v:=by have:=(List.getElem?_eq_some_iff.1 hj).1;omega
         rw [List.getElem?_take,if_pos hjl,List.getElem?_drop] at hj
         rcases ho with ho|ho
         .have:=hel _ _ hj
          rw [ho,show o+ln.v*sz+j*sz=o+(ln.v+j)*sz by rw [Nat.add_mul];omega]
          exact this
         .omega)
        rw [hll] at this
        exact .dat hu this
       have hsub:(D.list L).sub ln.v (hn.sub ln).v= .list ((L.drop ln.v).take (hn.v-ln.v)):=by rw [NL.v_sub];rfl
       rw [hsub] at h
       obtain ⟨a1,a2,_,_⟩:=zct (y:=hn.v) (d:=0) ⟨rfl,rfl⟩ hbl hlo q1 (by have:=(zct (P:=P) (σ:=σ) (O:=O) (y:=L.length) (d:=L.length) ⟨rfl,rfl⟩ hbh hhi (by omega) q3).2.1;omega)
       rcases hcc with rfl| ⟨hc1,hc2⟩
       .obtain ⟨b1,b2,_,_⟩:=zct (y:=L.length) (d:=L.length) ⟨rfl,rfl⟩ hbh hhi (by omega) q3
        refine ⟨_,.slice (some ⟨i,o+ln.v*sz,none⟩) (hn.v-ln.v) UNK, ?_,h,read _ _ (.inl rfl) (.inl rfl)⟩
        unfold zdd zcs
        simp only [hu,hsz,hesz,cond_true,Nat.beq_refl UNK,b1,a1]
       .obtain ⟨b1,b2,_,_⟩:=zct (y:=c) (d:=L.length) ⟨rfl,rfl⟩ hbh hhi (by omega) (by omega)
        have hcu':Nat.beq c UNK=false:=zjy (by omega)
        have hcu2:Nat.blt c UNK=true:=Nat.ble_eq_true_of_le hc2
        refine ⟨_,.slice (some ⟨i,cond (Nat.beq c ln.v) o (o+ln.v*sz),none⟩) (hn.v-ln.v) (c-ln.v), ?_,h,read _ _ ?_ (.inr ⟨by omega,by omega⟩)⟩
        .unfold zdd zcs
         simp only [hu,hsz,hesz,cond_true,hcu',hcu2,cond_false]
         have:zcG none c c=some c:=rfl
         simp only [this,b1,a1]
        .cases hcl:Nat.beq c ln.v with
         |true=>
          have:=Nat.eq_of_beq_eq_true hcl
          refine .inr ⟨by omega, ?_⟩
          simp only [cond_true];omega
         |false=>exact .inl rfl
   .exact h.elim
  .split at h
   .rename_i l ln hh hn hbl hbh
    cases ht:zkM P e with
    |false=>rw [ht] at h;exact h.elim
    |true=>
     rw [ht] at h
     obtain ⟨q1,q2,q3,h⟩:=h
     obtain ⟨se,hse⟩:∃s,zak P e=some s:=by unfold zkM at ht;split at ht;exact ⟨_,by assumption⟩;cases ht
     obtain ⟨b1,b2,b3,b4⟩:=zct (y:=0) (d:=0) ⟨rfl,rfl⟩ hbh hhi (by omega) (by omega)
     obtain ⟨a1,a2,a3,a4⟩:=zct (y:=hn.v) (d:=0) ⟨rfl,rfl⟩ hbl hlo q1 (by omega)
     cases hx with
     |val _=>exact ⟨_,.slice none 0 0,zr9 hu hse a3 b3 a4 b4 (by omega) (by omega) H,h,.val rfl⟩
   .exact h.elim
  .exact h.elim
 .rename_i hu
  have hm0:mx'=none:=by cases mx' with|none=>rfl|some _=>exact hmx.elim
  subst hm0
  split at h
  .rename_i s hs
   split at h
   .rename_i l ln hh hn hbl hbh
    obtain ⟨q1,q2,q3,h⟩:=h
    rw [zds hs hx]
    obtain ⟨b1,b2,b3,b4⟩:=zct (y:=s.length) (d:=s.length) ⟨rfl,rfl⟩ hbh hhi (by omega) q3
    obtain ⟨a1,a2,a3,a4⟩:=zct (y:=hn.v) (d:=0) ⟨rfl,rfl⟩ hbl hlo q1 (by omega)
    have hA:zcs P H t (.string ⟨⟨s⟩⟩) lo' hi' none=none:=by unfold zcs;simp only [hu]
    have hA2:zbn P H t (.string ⟨⟨s⟩⟩) lo' hi' none=none:=by unfold zbn;simp only [hu]
    have hv:(Instr.sliceAt t (.string ⟨⟨s⟩⟩) lo' hi' none).val? P=some (.string ⟨⟨(s.drop ln.v).take (hn.v-ln.v)⟩⟩):=by
     unfold Instr.sliceAt
     rw [zad,zhR hu]
     simp only [Option.bind_some]
     unfold Instr.slice
     rw [zad,zhR hu]
     simp only [Option.bind_some]
     have hbv:=zfO (P:=P) (b:=false) (len:=(⟨⟨s⟩⟩:ByteArray).size) (y:=(⟨⟨s⟩⟩:ByteArray).size) (l:=ln.v) (h:=hn.v) a4 b4 (by omega) (by show hn.v<=s.length;omega)
     have hext:(⟨⟨s⟩⟩:ByteArray).extract ln.v hn.v=⟨⟨(s.drop ln.v).take (hn.v-ln.v)⟩⟩:=by
      apply ByteArray.ext
      simp [List.extract_eq_take_drop]
     simp only [Option.isSome_none,Bool.false_eq_true,if_false]
     rw [zad,hbv]
     simp only [Option.bind_some,hext]
     rfl
    have fl:∀b,Ev.flat (.string b)=true:=λ_=>rfl
    refine ⟨_,.string ⟨⟨(s.drop ln.v).take (hn.v-ln.v)⟩⟩, ?_,h,by rw [NL.v_sub];exact .str⟩
    unfold zdd
    simp only [hA,hA2,fl,a3,b3,Bool.and_self,Option.all_none,cond_true,zaB,hv]
   .exact h.elim
  .exact h.elim
 .exact h.elim
end
end Go.Ev
