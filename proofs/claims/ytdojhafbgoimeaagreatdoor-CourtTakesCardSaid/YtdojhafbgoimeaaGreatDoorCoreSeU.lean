/- Part of the proof. -/
import Derived.Test.YtdojhafbgoimeaaGreatDoorCoreSeT

namespace Go.Ev
section
variable {P:Program} {base:Nat} {H0:zaa×Sig} {O:Nu} {J:Sig} {S:SS} {F:zab} {H:zaa} {K:V->SS->Prop} {Kv:V->Prop}
theorem zgZ {t:TypeId} {x ix:V} {x' ix':Value} (hr:SR P base H0 O J S F H) (h:zdB P S t x ix Kv) (hx:zam P J O x x') (hi:zam P J O ix ix'):VOK P J O H (zdE (zav P t x' ix') H) Kv:=by
 unfold zdB at h
 split at h
 .rename_i i n e hn hu
  obtain ⟨⟨k,rfl⟩,hnv⟩:=zdu hn hi
  split at h
  .rename_i b o l c
   split at h
   .rename_i e' ll hb
    cases he:Nat.beq e e' with
    |false=>rw [he] at h;exact h.elim
    |true=>
     have:=Nat.eq_of_beq_eq_true he
     subst this
     rw [he] at h
     obtain ⟨h0,h1,h⟩:=h
     obtain ⟨i',z,hν,hB⟩:=hr.blkT _ _ hb
     obtain ⟨cs,m,hg,hsz,hz0,hlen,hrd⟩:=hB
     have ei:i=((n.v:Nat):Int):=by omega
     have hlt:n.v<l.v:=by omega
     have key:∀off cap,off=o.v*z->VOK P J O H (zdE (zav P t (.slice (some ⟨i',off,none⟩) l.v cap) (.int k i)) H) Kv:=by
      intro off cap ho
      refine ⟨_,.pointer (some ⟨i',off+n.v*z,none⟩), ?_,h, ?_⟩
      .rw [ei]
       show zdE (zav P t _ (.int k (.ofNat n.v))) H=_
       simp only [zav,hu,hsz,show Nat.blt n.v l.v=true from Nat.ble_eq_true_of_le hlt,cond_true,zdE]
      .have:=zam.ept (P:=P) (J:=J) (O:=O) (n:=o.add n) hν
       rw [NL.v_add,Nat.add_mul] at this
       rw [ho];exact this
     cases hx with
     |slcU hν'=>rw [hν] at hν';cases hν';exact key _ _ rfl
     |slc hν' hc hnc ho=>
      rw [hν] at hν';cases hν'
      exact key _ _ (by rcases ho with ho|ho;exact ho;omega)
   .rename_i w e' e0 ll hb
    cases he:Nat.beq e e' with
    |false=>rw [he] at h;exact h.elim
    |true=>
     have:=Nat.eq_of_beq_eq_true he
     subst this
     rw [he] at h
     obtain ⟨h0,h1,h⟩:=h
     obtain ⟨i',z,hν,hB⟩:=hr.blkT _ _ hb
     obtain ⟨cs,m,hg,hsz,hz0,hlen,hone,hrd⟩:=hB
     have ei:i=((n.v:Nat):Int):=by omega
     have hlt:n.v<l.v:=by omega
     have key:∀off cap,off=o.v*z->VOK P J O H (zdE (zav P t (.slice (some ⟨i',off,none⟩) l.v cap) (.int k i)) H) Kv:=by
      intro off cap ho
      refine ⟨_,.pointer (some ⟨i',off+n.v*z,none⟩), ?_,h, ?_⟩
      .rw [ei]
       show zdE (zav P t _ (.int k (.ofNat n.v))) H=_
       simp only [zav,hu,hsz,show Nat.blt n.v l.v=true from Nat.ble_eq_true_of_le hlt,cond_true,zdE]
      .have:=zam.ept (P:=P) (J:=J) (O:=O) (n:=o.add n) hν
       rw [NL.v_add,Nat.add_mul] at this
       rw [ho];exact this
     cases hx with
     |slcU hν'=>rw [hν] at hν';cases hν';exact key _ _ rfl
     |slc hν' hc hnc ho=>
      rw [hν] at hν';cases hν'
      exact key _ _ (by rcases ho with ho|ho;exact ho;omega)
   .exact h.elim
  .rename_i t' d
   cases hc:(Nat.beq t t'&&zkl P e) with
   |false=>rw [hc] at h;exact h.elim
   |true=>
    rw [hc] at h
    simp only [Bool.and_eq_true] at hc
    have:=Nat.eq_of_beq_eq_true hc.1
    subst this
    obtain ⟨h0,h1,h⟩:=h
    cases hx with
    |dat ht hrd=>
     rcases hrd.sliceInv hu with ⟨rfl,hcs⟩| ⟨l,i',o,c,sz,cs',rfl,hcs,hsz,⟨zz,hσ,hzz⟩,hle,hcc,hel⟩
     .simp [D.len,D.asList] at h1;omega
     .cases hcs
      have hlt:n.v<l.length:=by simp only [D.len,D.asList] at h1;omega
      have hs0:0<sz:=by
       have:=hc.2
       unfold zkl at this
       rw [hsz] at this
       exact zbg this
      have ei:i=((n.v:Nat):Int):=by omega
      have hm:(n.v+1)*sz<=l.length*sz:=Nat.mul_le_mul_right _ hlt
      rw [Nat.succ_mul] at hm
      refine ⟨_,.pointer (some ⟨i',o+n.v*sz,none⟩), ?_,h, ?_⟩
      .rw [ei]
       show zdE (zav P t _ (.int k (.ofNat n.v))) H=_
       simp only [zav,hu,hsz,show Nat.blt n.v l.length=true from Nat.ble_eq_true_of_le hlt,cond_true,zdE]
      .have hel':=hel n.v (zad l n.v) (by simp [zad,hlt])
       exact .dpt hσ hsz hs0 (by omega) hel'
  .rename_i b v j l
   split at h
   .rename_i v' q1 e' ll hb
    cases he:(Nat.beq v v'&&Nat.beq e e') with
    |false=>rw [he] at h;exact h.elim
    |true=>
     rw [he] at h
     simp only [Bool.and_eq_true] at he
     have e1:=Nat.eq_of_beq_eq_true he.1
     have e2:=Nat.eq_of_beq_eq_true he.2
     subst e1 e2
     obtain ⟨h0,h1,hj,hjl,h⟩:=h
     have hd:ll[j.v]? =some (zad ll j.v):=by simp [zad,hj]
     obtain ⟨r,hr1⟩:∃r,zad ll j.v= .list r:=by
      cases hc:zad ll j.v<;>rw [hc] at hjl<;>first|exact ⟨_,rfl⟩| (simp [D.len,D.asList] at hjl;omega)
     rw [hr1] at hd
     cases hx with
     |osl hν' hcap=>
     rename_i q z c
     obtain ⟨i',z',hν,hB⟩:=hr.blk (.sub v j.v) (.arr e r) ⟨b,q1,e,ll,r,hb,hd,rfl⟩
     rw [hν'] at hν;cases hν
     obtain ⟨cs,m,hg,hsz,hz0,hlen,hrd⟩:=hB
     have ei:i=((n.v:Nat):Int):=by omega
     have hlt:n.v<l.v:=by omega
     refine ⟨_,.pointer (some ⟨q,0+n.v*z,none⟩), ?_,h,by rw [Nat.zero_add];exact .oel hν'⟩
     rw [ei]
     show zdE (zav P t _ (.int k (.ofNat n.v))) H=_
     simp only [zav,hu,hsz,show Nat.blt n.v l.v=true from Nat.ble_eq_true_of_le hlt,cond_true,zdE]
   .exact h.elim
  .exact h.elim
 .rename_i i n len e hn hu
  obtain ⟨⟨k,rfl⟩,hnv⟩:=zdu hn hi
  have key:∀(b i' z o:Nat) (m:NL) (s:Nat),zaj P e=some s->O b=some (i',z)->z=1->o=m.v->0<=i->i<(len:Int)->Kv (.ept b (m.add (n.mulK s)))->VOK P J O H (zdE (zav P t (.pointer (some ⟨i',o,none⟩)) (.int k i)) H) Kv:=by
   intro b i' z o m s hsz hν hz ho h0 h1 h
   have ei:i=((n.v:Nat):Int):=by omega
   have hlt:n.v<len:=by omega
   refine ⟨_,.pointer (some ⟨i',o+n.v*s,none⟩), ?_,h, ?_⟩
   .rw [ei]
    show zdE (zav P t _ (.int k (.ofNat n.v))) H=_
    simp only [zav,hu,hsz,show Nat.blt n.v len=true from Nat.ble_eq_true_of_le hlt,cond_true,zdE]
   .have:=zam.ept (P:=P) (J:=J) (O:=O) (n:=m.add (n.mulK s)) hν
    rw [NL.v_add,NL.v_mulK,hz,Nat.mul_one] at this
    rw [ho];exact this
  split at h
  .rename_i b o
   split at h
   .rename_i a' e' l s hb hs
    cases hc:zay P e' 1 with
    |false=>rw [hc] at h;exact h.elim
    |true=>
     rw [hc] at h
     obtain ⟨h0,h1,h⟩:=h
     obtain ⟨i',z,hν,hB⟩:=hr.blkT _ _ hb
     obtain ⟨cs,m,hg,hsz,hz0,hlen,hrd⟩:=hB
     have hz:z=1:=by rw [zaw hc] at hsz;exact (Option.some.inj hsz).symm
     cases hx with
     |ptr hν'=>
      rw [hν] at hν';cases hν'
      exact key b i' z o (.lit o) s hs hν hz rfl h0 h1 h
   .rename_i be cs0 s hb hs
    split at h
    .rename_i n
     obtain ⟨h0,h1,h⟩:=h
     cases hx with
     |ptr hν'=>
      have hnv':i=((n:Nat):Int):=by have:(NL.lit n).v=n:=rfl;omega
      have hlt:n<len:=by omega
      rename_i i' z
      refine ⟨_,.pointer (some ⟨i',o+n*s,none⟩), ?_,h,.ptr hν'⟩
      rw [hnv']
      show zdE (zav P t _ (.int k (.ofNat n))) H=_
      simp only [zav,hu,hs,show Nat.blt n len=true from Nat.ble_eq_true_of_le hlt,cond_true,zdE]
    .exact h.elim
   .exact h.elim
  .rename_i b m
   split at h
   .rename_i a' e' l s hb hs
    cases hc:zay P e' 1 with
    |false=>rw [hc] at h;exact h.elim
    |true=>
     rw [hc] at h
     obtain ⟨h0,h1,h⟩:=h
     obtain ⟨i',z,hν,hB⟩:=hr.blkT _ _ hb
     obtain ⟨cs,mm,hg,hsz,hz0,hlen,hrd⟩:=hB
     have hz:z=1:=by rw [zaw hc] at hsz;exact (Option.some.inj hsz).symm
     cases hx with
     |ept hν'=>
      rw [hν] at hν';cases hν'
      exact key b i' z (m.v*z) m s hs hν hz (by rw [hz,Nat.mul_one]) h0 h1 h
   .exact h.elim
  .exact h.elim
 .exact h.elim
theorem zph {e:TypeId} {s:Nat} (hs:zaj P e=some s):∀(n:Nat) (cs:List Value) (l:List D),zwo P e s n cs=some l->cs.all zaD=true->l.length=n/\∀(j:Nat) (d:D),l[j]? =some d->zan P J e d ((cs.drop (j*s)).take s)
 |0,cs,l,h,_=>by simp only [zwo,Option.some.injEq] at h;subst h;exact ⟨rfl,λj d hj=>by simp at hj⟩
 |n+1,cs,l,h,hf=>by
  simp only [zwo] at h
  split at h
  .rename_i d ds h1 h2
   simp only [Option.some.injEq] at h
   subst h
   have hfd:(cs.drop s).all zaD=true:=List.all_eq_true.2 λv hv=>List.all_eq_true.1 hf v (List.mem_of_mem_drop hv)
   obtain ⟨q1,q2⟩:=zph hs n (cs.drop s) ds h2 hfd
   refine ⟨by simp [q1],λj d' hj=> ?_⟩
   cases j with
   |zero=>
    simp only [List.getElem?_cons_zero,Option.some.injEq] at hj
    subst hj
    have:=zb0 (P:=P) (J:=J) (O:=λ_=>none) _ _ _ _ _ h1 (zaN.vals (l:=cs.take s) (List.all_eq_true.2 λv hv=>List.all_eq_true.1 hf v (List.mem_of_mem_take hv)))
    simpa using this
   |succ j=>
    have:=q2 j d' (by simpa using hj)
    rw [List.drop_drop] at this
    rw [Nat.succ_mul,Nat.add_comm];exact this
  .cases h
theorem zny {t:TypeId} {g:Nat} {ix:V} {ix':Value} (hr:SR P base H0 O J S F H) (h:zlj P t g ix Kv) (hi:zam P J O ix ix'):VOK P J O H (zdE (zav P t (.pointer (some ⟨g,0,none⟩)) ix') H) Kv:=by
 unfold zlj at h
 split at h
 .rename_i i n len e x hn hu hg
  obtain ⟨⟨k,rfl⟩,hnv⟩:=zdu hn hi
  split at h
  .rename_i s hs
   split at h
   .rename_i l hl
    cases hc:(Nat.blt 0 s&&x.cs.all zaD&&Nat.beq x.cs.length (len*s)) with
    |false=>rw [hc] at h;exact h.elim
    |true=>
     rw [hc] at h
     simp only [Bool.and_eq_true] at hc
     obtain ⟨⟨c1,c2⟩,c3⟩:=hc
     obtain ⟨h0,h1,h⟩:=h
     unfold zzu at hg
     have hm:=List.mem_of_find?_eq_some hg
     have hxg:x.g=g:=Nat.eq_of_beq_eq_true (List.find?_some (p:=λp:zmR=>Nat.beq p.g g) hg)
     have hσ:=hr.sb.2 x hm
     rw [hxg] at hσ
     obtain ⟨q1,q2⟩:=zph (J:=J) hs len x.cs l hl c2
     have ei:i=((n.v:Nat):Int):=by omega
     have hlt:n.v<len:=by omega
     have hmul:(n.v+1)*s<=len*s:=Nat.mul_le_mul_right _ hlt
     rw [Nat.succ_mul] at hmul
     have hlen:=Nat.eq_of_beq_eq_true c3
     refine ⟨_,.pointer (some ⟨g,0+n.v*s,none⟩), ?_,h, ?_⟩
     .rw [ei]
      show zdE (zav P t _ (.int k (.ofNat n.v))) H=_
      simp only [zav,hu,hs,show Nat.blt n.v len=true from Nat.ble_eq_true_of_le hlt,cond_true,zdE]
     .have:=q2 n.v (zad l n.v) (by simp [zad,q1,hlt])
      refine .dpt hσ hs (zbg c1) (by rw [Nat.zero_add,hlen];omega) ?_
      rw [Nat.zero_add];exact this
   .exact h.elim
  .exact h.elim
 .exact h.elim
theorem zqO {ats:Array TypeId} {type:TypeId} {cb:Array Bool} {x:V} {x':Value} {t:TypeId} (ht:ats[0]? =some t) (h:zqN P t x Kv) (hx:zam P J O x x') (H:zaa):VOK P J O H (zsb P ats type cb #[x'] H) Kv:=by
 have e0:(#[x']:Array Value)[0]? =some x':=rfl
 have und:∀e,P.underlying t=some e->(Go.underlying t).val? P=some e:=λe hu=>by
  unfold Go.underlying
  rw [zac]
  have:(Go.program).val? P=some P:=rfl
  rw [this]
  simp only [Option.bind_some,hu];rfl
 have nil:zai P t=true->zsb P ats type cb #[.slice none 0 0] H=some (.int .i64 0,H):=λhs=>by
  obtain ⟨e,hu⟩:∃e,P.underlying t=some (.slice e):=by unfold zai at hs;split at hs<;>simp_all
  have flb:(builtin .len ats type cb #[Value.slice none 0 0]).val? P=some (.value (.int .i64 0)):=by
   show (do pure (Next.value (<-Builtin.len_ ats type #[Value.slice none 0 0])):Sem Next).val? P=_
   have:(Builtin.len_ ats type #[Value.slice none 0 0]).val? P=some (.int .i64 0):=by
    unfold Builtin.len_
    simp only [ht]
    show (do match<-underlying t,Value.slice none 0 0 with|_,_=>_:Sem Value).val? P=_
    rw [zac,und _ hu];rfl
   rw [zac,this];rfl
  unfold zsb
  simp only [ht]
  show zcX P .len ats type cb #[.slice none 0 0] H=_
  unfold zcX
  rw [flb];rfl
 have str:zhq P t=true->∀b:ByteArray,zsb P ats type cb #[.string b] H=some (.int .i64 b.size,H):=λhs b=>by
  have hu:P.underlying t=some .string:=by unfold zhq at hs;split at hs<;>simp_all
  have fls:(builtin .len ats type cb #[Value.string b]).val? P=some (.value (.int .i64 b.size)):=by
   show (do pure (Next.value (<-Builtin.len_ ats type #[Value.string b])):Sem Next).val? P=_
   have:(Builtin.len_ ats type #[Value.string b]).val? P=some (.int .i64 b.size):=by
    unfold Builtin.len_
    simp only [ht]
    show (do match<-underlying t,Value.string b with|_,_=>_:Sem Value).val? P=_
    rw [zac,und _ hu];rfl
   rw [zac,this];rfl
  unfold zsb
  simp only [ht]
  show zcX P .len ats type cb #[.string b] H=_
  unfold zcX
  rw [fls];rfl
 have some_:∀i o n c,zai P t=true->zsb P ats type cb #[.slice (some ⟨i,o,none⟩) n c] H=some (.int .i64 n,H):=λi o n c hs=>by
  obtain ⟨e,hu⟩:∃e,P.underlying t=some (.slice e):=by unfold zai at hs;split at hs<;>simp_all
  unfold zsb
  simp only [ht]
  show (match P.underlying t with|some (.slice _)=>some (Value.int .i64 n,H)|_=>none)=_
  rw [hu]
 unfold zqN at h
 split at h
 .rename_i b o n c
  cases hs:zai P t with
  |false=>rw [hs] at h;exact h.elim
  |true=>
   rw [hs] at h
   have hl:∃i off cap,x'= .slice (some ⟨i,off,none⟩) n.v cap:=by cases hx with|slcU _=>exact ⟨_,_,_,rfl⟩|slc _ _ _ _=>exact ⟨_,_,_,rfl⟩
   obtain ⟨i,off,cap,rfl⟩:=hl
   simp only [cond_true] at h
   split at h
   .exact ⟨_,_,some_ _ _ _ _ hs,h,.val rfl⟩
   .exact ⟨_,_,some_ _ _ _ _ hs,h,.int⟩
 .rename_i b v j n
  cases hs:zai P t with
  |false=>rw [hs] at h;exact h.elim
  |true=>
   rw [hs] at h
   cases hx with
   |osl _ _=>
   simp only [cond_true] at h
   split at h
   .exact ⟨_,_,some_ _ _ _ _ hs,h,.val rfl⟩
   .exact ⟨_,_,some_ _ _ _ _ hs,h,.int⟩
 .rename_i t' d
  cases hs:zai P t with
  |false=>rw [hs] at h;exact h.elim
  |true=>
   rw [hs] at h
   cases hx with
   |dat htt hrd=>
    rcases hrd.sliceInv htt with ⟨rfl,hcs⟩| ⟨l,i',o,c,sz,cs',rfl,hcs,_⟩
    .cases hcs;exact ⟨.int .i64 ((D.nil.len:Nat):Int),_,nil hs,h,.int⟩
    .cases hcs;exact ⟨_,_,some_ _ _ _ _ hs,h,.int⟩
 .cases hs:zai P t with
  |false=>rw [hs] at h;exact h.elim
  |true=>
   rw [hs] at h
   cases hx with
   |val _=>exact ⟨_,_,nil hs,h,.val rfl⟩
 .cases hs:zhq P t with
  |false=>rw [hs] at h;exact h.elim
  |true=>
   rw [hs] at h
   cases hx with
   |str=>exact ⟨_,_,str hs _,h,.int⟩
 .cases hs:zhq P t with
  |false=>rw [hs] at h;exact h.elim
  |true=>
   rw [hs] at h
   cases hx with
   |val _=>exact ⟨_,_,str hs _,h,.val rfl⟩
 .exact h.elim
theorem zqH {ats:Array TypeId} {type:TypeId} {cb:Array Bool} {x:V} {x':Value} {t:TypeId} (ht:ats[0]? =some t) (h:zqG P t x Kv) (hx:zam P J O x x') (H:zaa):VOK P J O H (zcX P .cap ats type cb #[x'] H) Kv:=by
 have und:∀e,P.underlying t=some e->(Go.underlying t).val? P=some e:=λe hu=>by
  unfold Go.underlying
  rw [zac]
  have:(Go.program).val? P=some P:=rfl
  rw [this]
  simp only [Option.bind_some,hu];rfl
 unfold zqG at h
 split at h
 .cases hs:zai P t with
  |false=>rw [hs] at h;exact h.elim
  |true=>
   rw [hs] at h
   cases hx with
   |val _=>
    obtain ⟨e,hu⟩:∃e,P.underlying t=some (.slice e):=by unfold zai at hs;split at hs<;>simp_all
    have flb:(builtin .cap ats type cb #[Value.slice none 0 0]).val? P=some (.value (.int .i64 0)):=by
     show (do pure (Next.value (<-Builtin.cap_ ats type #[Value.slice none 0 0])):Sem Next).val? P=_
     have:(Builtin.cap_ ats type #[Value.slice none 0 0]).val? P=some (.int .i64 0):=by
      unfold Builtin.cap_
      simp only [ht]
      show (do match<-underlying t,Value.slice none 0 0 with|_,_=>_:Sem Value).val? P=_
      rw [zac,und _ hu];rfl
     rw [zac,this];rfl
    refine ⟨_,.int .i64 0, ?_,h,.val rfl⟩
    unfold zcX
    rw [flb];rfl
 .exact h.elim
def mnI (p q:Int):Int:=if q<p then q else p
theorem zfM {ats:Array TypeId} {type:TypeId} {cb:Array Bool} {mx:Bool} {args:List V} {args':List Value} (h:zeY mx args Kv) (hl:zaN P J O args args') (H:zaa):VOK P J O H (zcX P (cond mx .max .min) ats type cb ⟨args'⟩ H) Kv:=by
 unfold zeY at h
 split at h
 .rename_i a b
  obtain ⟨a',r,rfl,ha,hl⟩:=hl.cons_inv
  obtain ⟨b',r,rfl,hb,hl⟩:=hl.cons_inv
  rw [hl.nil_inv]
  split at h
  .rename_i k x k' y hx hy
   rw [zaL hx ha,zaL hy hb]
   cases hk:(k==k') with
   |false=>rw [hk] at h;exact h.elim
   |true=>
    have:=eq_of_beq hk
    subst this
    rw [hk] at h
    cases mx with
    |true=>
     refine ⟨_,.int k (if y>x then y else x), ?_,h, ?_⟩
     .show zcX P .max ats type cb _ H=_
      unfold zcX
      have hv:(builtin .max ats type cb ⟨[.int k x,.int k y]⟩).val? P=some (.value (.int k (if y>x then y else x))):=rfl
      rw [hv];rfl
     .have:(if y>x then y else x)=max x y:=by split<;>omega
      rw [this];exact .int
    |false=>
     refine ⟨_,.int k (if y<x then y else x), ?_,h, ?_⟩
     .show zcX P .min ats type cb _ H=_
      unfold zcX
      have hv:(builtin .min ats type cb ⟨[.int k x,.int k y]⟩).val? P=some (.value (.int k (if y<x then y else x))):=rfl
      rw [hv];rfl
     .have:(if y<x then y else x)=min x y:=by split<;>omega
      rw [this];exact .int
  .exact h.elim
 .rename_i a b c
  obtain ⟨a',r,rfl,ha,hl⟩:=hl.cons_inv
  obtain ⟨b',r,rfl,hb,hl⟩:=hl.cons_inv
  obtain ⟨c',r,rfl,hc,hl⟩:=hl.cons_inv
  rw [hl.nil_inv]
  split at h
  .rename_i k x k' y k'' z hx hy hz
   rw [zaL hx ha,zaL hy hb,zaL hz hc]
   cases hk:(mx&&(k==k'&&k==k'')) with
   |false=>rw [hk] at h;exact h.elim
   |true=>
    rw [hk] at h
    simp only [Bool.and_eq_true] at hk
    obtain ⟨rfl,h1,h2⟩:=hk
    have:=eq_of_beq h1
    subst this
    have:=eq_of_beq h2
    subst this
    refine ⟨_,.int k (if z>(if y>x then y else x) then z else (if y>x then y else x)), ?_,h, ?_⟩
    .show zcX P .max ats type cb _ H=_
     unfold zcX
     have hv:(builtin .max ats type cb ⟨[.int k x,.int k y,.int k z]⟩).val? P=some (.value (.int k (if z>(if y>x then y else x) then z else (if y>x then y else x)))):=rfl
     rw [hv];rfl
    .have:(if z>(if y>x then y else x) then z else (if y>x then y else x))=max (max x y) z:=by split<;>split<;>omega
     rw [this];exact .int
  .exact h.elim
 .rename_i a b c d e f
  obtain ⟨a',r,rfl,ha,hl⟩:=hl.cons_inv
  obtain ⟨b',r,rfl,hb,hl⟩:=hl.cons_inv
  obtain ⟨c',r,rfl,hc,hl⟩:=hl.cons_inv
  obtain ⟨d',r,rfl,hd,hl⟩:=hl.cons_inv
  obtain ⟨e',r,rfl,he,hl⟩:=hl.cons_inv
  obtain ⟨f',r,rfl,hf,hl⟩:=hl.cons_inv
  rw [hl.nil_inv]
  split at h
  .rename_i k x k1 y k2 z k3 u k4 v k5 w hx hy hz hu hv hw
   rw [zaL hx ha,zaL hy hb,zaL hz hc,zaL hu hd,zaL hv he,zaL hw hf]
   cases hk:(!mx&&(k==k1&&(k==k2&&(k==k3&&(k==k4&&k==k5))))) with
   |false=>rw [hk] at h;exact h.elim
   |true=>
    rw [hk] at h
    simp only [Bool.and_eq_true,Bool.not_eq_true'] at hk
    obtain ⟨rfl,h1,h2,h3,h4,h5⟩:=hk
    cases eq_of_beq h1
    cases eq_of_beq h2
    cases eq_of_beq h3
    cases eq_of_beq h4
    cases eq_of_beq h5
    have em:∀p q:Int,(if q<p then q else p)=min p q:=λp q=>by split<;>omega
    refine ⟨_,.int k (mnI (mnI (mnI (mnI (mnI x y) z) u) v) w), ?_,h, ?_⟩
    .show zcX P .min ats type cb _ H=_
     unfold zcX
     have hv:(builtin .min ats type cb ⟨[.int k x,.int k y,.int k z,.int k u,.int k v,.int k w]⟩).val? P=some (.value (.int k (mnI (mnI (mnI (mnI (mnI x y) z) u) v) w))):=rfl
     rw [hv];rfl
    .have e2:∀p q:Int,mnI p q=min p q:=em
     rw [e2,e2,e2,e2,e2];exact .int
  .exact h.elim
 .exact h.elim
theorem zjN:∀(fs:List Field) (ps:List (Nat×Nat)),zeS P fs=some ps->(fs.mapM λf=>(do pure (f.offset,<-sizeOf f.type):Sem (Nat×Nat))).val? P=some ps
 | [],ps,h=>by simp only [zeS,Option.some.injEq] at h;subst h;rfl
 |f::fs,ps,h=>by
  simp only [zeS] at h
  split at h
  .rename_i s ps' hs hps
   simp only [Option.some.injEq] at h
   subst h
   rw [List.mapM_cons,zac]
   have hsz:(sizeOf f.type).val? P=some s:=by
    unfold zaj at hs
    unfold sizeOf typeInfo
    rw [zac,zac]
    have:(Go.program).val? P=some P:=rfl
    rw [this]
    cases hi:P.info? f.type with
    |none=>rw [hi] at hs;cases hs
    |some inf=>
     rw [hi] at hs
     simp only [Option.map_some,Option.some.injEq] at hs
     subst hs
     simp only [Option.bind_some,hi]
     rfl
   have h1:(do pure (f.offset,<-sizeOf f.type):Sem (Nat×Nat)).val? P=some (f.offset,s):=by rw [zac,hsz];rfl
   rw [h1]
   simp only [Option.bind_some]
   rw [zac,zjN fs ps' hps]
   rfl
  .cases h
theorem zeg {places:List (Nat×Nat)}:∀(ps:List (Nat×V)) (ps':List (Nat×Value)) (cs r:List V) (cs':Array Value),zm4 places ps cs=some r->ps.map (·.1)=ps'.map (·.1)->zaN P J O (ps.map (·.2)) (ps'.map (·.2))->zaN P J O cs cs'.toList->
  ∃r',Instr.fill (λi=>places[i]?) cs' ps'=some r'/\zaN P J O r r'.toList
 | [],ps',cs,r,cs',h,hm,_,hl=>by
  simp only [zm4,Option.some.injEq] at h
  subst h
  have:ps'= []:=by cases ps' with|nil=>rfl|cons a b=>simp at hm
  subst this
  exact ⟨cs',rfl,hl⟩
 | (i,v)::ps,[],cs,r,cs',h,hm,_,_=>by simp at hm
 | (i,v)::ps,(i',v')::ps',cs,r,cs',h,hm,hv,hl=>by
  simp only [List.map_cons,List.cons.injEq] at hm
  obtain ⟨rfl,hm⟩:=hm
  simp only [List.map_cons] at hv
  obtain ⟨u,q,he,hv1,hv2⟩:=hv.cons_inv
  cases he
  simp only [zm4] at h
  cases hp:places[i]? with
  |none=>rw [hp] at h;cases h
  |some x=>
   obtain ⟨o,s⟩:=x
   rw [hp] at h
   simp only at h
   cases hc:(Nat.beq v.cells.length s&&Nat.ble (o+s) cs.length) with
   |false=>rw [hc] at h;cases h
   |true=>
    rw [hc] at h
    simp only [cond_true] at h
    simp only [Bool.and_eq_true] at hc
    have c1:=Nat.eq_of_beq_eq_true hc.1
    have c2:=Nat.le_of_ble_eq_true hc.2
    have hvc:=hv1.cells
    have hvl:v'.cells.toList.length=s:=by rw [<-hvc.1,c1]
    have hvs:v'.cells.size=s:=by rw [<-hvl];simp
    have hcl:cs'.size=cs.length:=by rw [<-Array.length_toList,hl.1]
    have hfold:=zkz o v'.cells.toList 0 cs' (by rw [hvl,hcl];omega)
    simp only [Nat.add_zero] at hfold
    simp only [Instr.fill,hp]
    rw [if_neg (by rw [hvs,hcl];simp;omega),zda]
    refine zeg ps ps' _ r _ h hm hv2 ?_
    rw [hfold,<-hvc.1]
    exact ((hl.take o).append hvc).append (hl.drop _)
theorem ziW {t:TypeId} {z:Value} (hz:zct P t=some z):(zeroValue t).val? P=some z:=by
 unfold zct at hz
 unfold zeroValue typeInfo
 rw [zac,zac]
 have:(Go.program).val? P=some P:=rfl
 rw [this]
 cases hi:P.info? t with
 |none=>rw [hi] at hz;cases hz
 |some inf=>
  rw [hi] at hz
  simp only [Option.bind_some] at hz
  simp only [Option.bind_some,hi]
  rw [show ((pure inf:Sem TypeInfo).val? P)=some inf from rfl]
  simp only [Option.bind_some,hz];rfl
theorem zhh {t:TypeId} {k} (hu:P.underlying t=some k):(underlying t).val? P=some k:=by
 unfold Go.underlying
 rw [zac]
 have:(Go.program).val? P=some P:=rfl
 rw [this]
 simp only [Option.bind_some,hu];rfl
theorem zk4 {e:TypeId} {s:Nat} (hs:zaj P e=some s):(sizeOf e).val? P=some s:=by
 unfold zaj at hs
 unfold sizeOf typeInfo
 rw [zac,zac]
 have:(Go.program).val? P=some P:=rfl
 rw [this]
 cases hi:P.info? e with
 |none=>rw [hi] at hs;cases hs
 |some inf=>
  rw [hi] at hs
  simp only [Option.map_some,Option.some.injEq] at hs
  subst hs
  simp only [Option.bind_some,hi]
  rfl
theorem zjr {f g:Nat->Option (Nat×Nat)} (hfg:∀i x,f i=some x->g i=some x):∀(ps:List (Nat×Value)) (cs r:Array Value),Instr.fill f cs ps=some r->Instr.fill g cs ps=some r
 | [],_,_,h=>h
 | (i,v)::ps,cs,r,h=>by
  simp only [Instr.fill] at h⊢
  cases hf:f i with
  |none=>rw [hf] at h;cases h
  |some x=>
   rw [hf] at h
   rw [hfg i x hf]
   simp only at h⊢
   split at h
   .cases h
   .rename_i hc
    rw [if_neg hc]
    exact zjr hfg ps _ r h
theorem zla {t:TypeId} {parts:Array (Nat×Operand)} {ps:List (Nat×V)} (h:ziA P t ps Kv) (hm:ps.map (·.1)=parts.toList.map (·.1)) (hl:zaN P J O (ps.map (·.2)) (parts.toList.map λx=>zah F x.2)) (H:zaa):
  VOK P J O H (cond (zcV P t) (zdE ((Instr.build t (parts.map λ(i,x)=>(i,zah F x))).val? P) H) none) Kv:=by
 unfold ziA at h
 split at h
 .rename_i fs z hu hz
  split at h
  .rename_i places hpl
   cases hzf:Ev.flat z with
   |false=>rw [hzf] at h;exact h.elim
   |true=>
    rw [hzf] at h
    simp only [cond_true] at h
    have hzf':zcV P t=true:=by unfold zcV;rw [hz];exact hzf
    split at h
    .rename_i cs hf
     obtain ⟨r',h1,h2⟩:=zeg (P:=P) (J:=J) (O:=O) ps (parts.toList.map λx=>(x.1,zah F x.2)) _ cs z.cells hf (by rw [hm,List.map_map];rfl) (by rw [List.map_map];exact hl) (zaN.vals (zbw hzf))
     refine ⟨.agg cs,.agg r', ?_,h, ?_⟩
     .rw [hzf']
      simp only [cond_true]
      have hb:(Instr.build t (parts.map λ(i,x)=>(i,zah F x))).val? P=some (.agg r'):=by
       unfold Instr.build
       have hzv:(zeroValue t).val? P=some z:=by
        unfold zct at hz
        unfold zeroValue typeInfo
        rw [zac,zac]
        have:(Go.program).val? P=some P:=rfl
        rw [this]
        cases hi:P.info? t with
        |none=>rw [hi] at hz;cases hz
        |some inf=>
         rw [hi] at hz
         simp only [Option.bind_some] at hz
         simp only [Option.bind_some,hi]
         rw [show ((pure inf:Sem TypeInfo).val? P)=some inf from rfl]
         simp only [Option.bind_some,hz];rfl
       have huv:(underlying t).val? P=some (.struct fs):=by
        unfold Go.underlying
        rw [zac]
        have:(Go.program).val? P=some P:=rfl
        rw [this]
        simp only [Option.bind_some,hu];rfl
       rw [zac,hzv]
       simp only [Option.bind_some]
       rw [zac,huv]
       simp only [Option.bind_some]
       have hpm:(fs.mapM λf=>(do pure (f.offset,<-sizeOf f.type):Sem (Nat×Nat))).val? P=some places.toArray:=by
        have e:fs=fs.toList.toArray:=by simp
        rw [e,List.mapM_toArray]
        have:=zjN fs.toList places hpl
        have hm':((List.toArray<$>(fs.toList.mapM λf=>(do pure (f.offset,<-sizeOf f.type):Sem (Nat×Nat)))):Sem (Array (Nat×Nat))).val? P=some places.toArray:=by
         have hmb:∀{α β:Type} (f:α->β) (x:Sem α),(f<$>x)=(x>>=λa=>pure (f a)):=λf x=>rfl
         rw [hmb,zac,this];rfl
        exact hm'
       rw [zac,hpm]
       simp only [Option.bind_some]
       have e2:(parts.map λx=>match x with| (i,x)=>(i,zah F x)).toList=parts.toList.map λx=>(x.1,zah F x.2):=by simp
       have e3:(λ(x:Nat)=>places.toArray[x]?)=λ(i:Nat)=>places[i]? :=by funext i;simp
       rw [e2,e3,h1]
       rfl
      rw [hb];rfl
     .exact .agg (cs':=r'.toList) h2.1 h2.2
    .exact h.elim
  .exact h.elim
 .rename_i n e z hu hz
  split at h
  .rename_i s hse
   cases hzf:Ev.flat z with
   |false=>rw [hzf] at h;exact h.elim
   |true=>
    rw [hzf] at h
    simp only [cond_true] at h
    have hzf':zcV P t=true:=by unfold zcV;rw [hz];exact hzf
    split at h
    .rename_i cs hf
     obtain ⟨r',h1,h2⟩:=zeg (P:=P) (J:=J) (O:=O) ps (parts.toList.map λx=>(x.1,zah F x.2)) _ cs z.cells hf (by rw [hm,List.map_map];rfl) (by rw [List.map_map];exact hl) (zaN.vals (zbw hzf))
     refine ⟨.agg cs,.agg r', ?_,h,.agg (cs':=r'.toList) h2.1 h2.2⟩
     rw [hzf']
     simp only [cond_true]
     have hb:(Instr.build t (parts.map λ(i,x)=>(i,zah F x))).val? P=some (.agg r'):=by
      unfold Instr.build
      rw [zac,ziW hz]
      simp only [Option.bind_some]
      rw [zac,zhh hu]
      simp only [Option.bind_some]
      rw [zac,zk4 hse]
      simp only [Option.bind_some]
      have e2:(parts.map λx=>match x with| (i,x)=>(i,zah F x)).toList=parts.toList.map λx=>(x.1,zah F x.2):=by simp
      rw [e2,zjr (λi x hx=> ?_) _ _ _ h1]
      .rfl
      .rw [List.getElem?_map] at hx
       cases hr:(List.range n)[i]? with
       |none=>rw [hr] at hx;cases hx
       |some k=>
        rw [hr] at hx
        have:=(List.getElem?_eq_some_iff.1 hr).2
        simp at this
        subst this
        simpa using hx
     rw [hb];rfl
    .exact h.elim
  .exact h.elim
 .exact h.elim
end
end Go.Ev
