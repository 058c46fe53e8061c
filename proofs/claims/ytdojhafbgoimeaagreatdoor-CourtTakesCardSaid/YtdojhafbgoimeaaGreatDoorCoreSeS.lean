/- Part of the proof. -/
import Derived.Test.YtdojhafbgoimeaaGreatDoorCoreSeQ

namespace Go.Ev
section
variable {P:Program} {base:Nat} {H0:zaa×Sig} {O:Nu} {J:Sig} {S:SS} {F:zab} {H:zaa} {K:V->SS->Prop} {Kv:V->Prop}
theorem ziV {e:TypeId} {d:D} (h:zrc P e=some d) (hz:zcV P e=true):∃z,zct P e=some z/\zan P J e d z.cells.toList:=by
 unfold zrc at h
 unfold zcV at hz
 cases hzt:zct P e with
 |none=>rw [hzt] at h;cases h
 |some z=>
  rw [hzt] at h hz
  exact ⟨z,rfl,zb0 (O:=λ_=>none) _ _ _ _ _ h (zaN.vals (zbw hz))⟩
theorem zh7 {t e:TypeId} {k k':IntKind} {l c:Nat} {inf:TypeInfo} {z:Value} (hu:P.underlying t=some (.slice e)) (hi:P.info? e=some inf) (hz:inf.zero=some z) (hle:l<=c) (hc:c<=16777216) (hb:inf.bytes*c<=281474976710656) (hf:Ev.flat z=true) (hs:z.cells.size=inf.size)
  (h1:(List.replicate c z.cells.toList).flatten.all zar=true) (H:zaa):
  zcm P t (.int k l) (.int k' c) H=some (.slice (some ⟨H.next,0,none⟩) l c,H.alloc (.cells (List.replicate c z.cells.toList).flatten e inf.size none false)):=by
 unfold zcm
 simp only [hu]
 show (match P.info? e with|some i=>_|none=>_)=_
 simp only [hi,hz,Nat.ble_eq_true_of_le hle,Nat.ble_eq_true_of_le hc,Nat.ble_eq_true_of_le hb,hf,hs,Nat.beq_refl,Bool.and_self,cond_true,za2 h1]
theorem zg0 {t:TypeId} {l c:V} {l' c':Value} (hr:SR P base H0 O J S F H) (h:zdD P S t l c K) (hl:zam P J O l l') (hc:zam P J O c c'):OpR P base H0 O J S F (zcm P t l' c' H) K:=by
 unfold zdD at h
 split at h
 .rename_i e hu
  split at h
  .rename_i li ln ci cn z inf h1 h2 h3 h4
   cases hsz:(Nat.blt 0 inf.size&&zcV P e) with
   |false=>rw [hsz] at h;exact h.elim
   |true=>
    rw [hsz] at h
    simp only [Bool.and_eq_true] at hsz
    obtain ⟨q0,q1,q2,q3,h⟩:=h
    obtain ⟨⟨k,rfl⟩,hlv⟩:=zdu h1 hl
    obtain ⟨⟨k',rfl⟩,hcv⟩:=zdu h2 hc
    have hzt:zct P e=inf.zero:=by unfold zct;rw [h4];rfl
    obtain ⟨zv,hz1,hz2⟩:=ziV (J:=J) h3 hsz.2
    have hzz:inf.zero=some zv:=by rw [<-hzt];exact hz1
    have hst:zaj P e=some inf.size:=by unfold zaj;rw [h4];rfl
    have hzl:zv.cells.toList.length=inf.size:=by have:=hz2.size;rw [hst] at this;exact (Option.some.inj this).symm
    have hrow:=zbb.rep hz2 hzl cn.v
    have el:(li:Int)=((ln.v:Nat):Int):=by omega
    have ec:(ci:Int)=((cn.v:Nat):Int):=by omega
    have hms:=zh7 (k:=k) (k':=k') (l:=ln.v) (c:=cn.v) hu h4 hzz (by omega) (by omega) q3 (by have:=hsz.2;unfold zcV at this;rw [hz1] at this;exact this) (by rw [<-hzl];simp) hrow.one H
    rw [el,ec,hms]
    refine ⟨_,_,rfl,_,_,_,J,h,hr.alloc (z:=inf.size) (k:= .arr e _) (λO' hν=> .arr hst (zbg hsz.1) hrow), ?_,zfy _ _ _,.refl _,rfl,.alloc _ _⟩
    exact zam.slc (z:=inf.size) (if_pos rfl) (by unfold UNK;omega) (by omega) (.inl (by simp [NL.v]))
  .exact h.elim
 .exact h.elim
theorem zkz (off:Nat):∀(l:List Value) (k:Nat) (cs:Array Value),off+k+l.length<=cs.size->
  ((l.zipIdx k).foldl (λcs (x:Value×Nat)=>cs.setIfInBounds (off+x.2) x.1) cs).toList=cs.toList.take (off+k)++l++cs.toList.drop (off+k+l.length)
 | [],k,cs,h=>by simp
 |v::l,k,cs,h=>by
  rw [List.zipIdx_cons,List.foldl_cons,zkz off l (k+1) _ (by simp at h⊢;omega)]
  have hlt:off+k<cs.toList.length:=by simp at h⊢;omega
  simp only [Array.toList_setIfInBounds,List.length_cons]
  rw [show off+(k+1)=off+k+1 by omega,List.take_set,List.drop_set_of_lt (by omega)]
  rw [show (List.take (off+k+1) cs.toList).set (off+k) v=List.take (off+k) cs.toList++ [v] by
   rw [List.take_succ_eq_append_getElem hlt,List.set_append_right _ _ (by simp;omega)]
   have hm:(List.take (off+k) cs.toList).length=off+k:=by rw [List.length_take];omega
   rw [hm,Nat.sub_self];simp]
  simp [show off+k+1+l.length=off+k+(l.length+1) by omega]
theorem zhm {e:TypeId} {z:Nat} (hs:zaj P e=some z):∀(ps:List (Nat×V)) (ps':List (Nat×Value)) (j:Nat) (ds:List D) (cs:Array Value),zjl P e ps j=some ds->ps.map (·.1)=ps'.map (·.1)->zaN P J O (ps.map (·.2)) (ps'.map (·.2))->cs.size=(j+ds.length)*z->
  ∃row,Instr.fill (λi=>some (i*z,z)) cs ps'=some ⟨cs.toList.take (j*z)++row⟩/\zbb P J e z ds row
 | [],ps',j,ds,cs,h,hm,hl,hsz=>by
  simp only [zjl,Option.some.injEq] at h
  subst h
  have:ps'= []:=by cases ps' with|nil=>rfl|cons a b=>simp at hm
  subst this
  refine ⟨[], ?_,.nil⟩
  simp only [Instr.fill,Option.some.injEq,List.append_nil]
  rw [List.take_of_length_le (by simp at hsz⊢;omega)]
 | (i,v)::ps,[],j,ds,cs,h,hm,hl,hsz=>by simp at hm
 | (i,v)::ps,(i',v')::ps',j,ds,cs,h,hm,hl,hsz=>by
  simp only [List.map_cons,List.cons.injEq] at hm
  obtain ⟨rfl,hm⟩:=hm
  simp only [List.map_cons] at hl
  obtain ⟨u,r,he,hv,hl⟩:=hl.cons_inv
  cases he
  simp only [zjl] at h
  cases hij:Nat.beq i j with
  |false=>rw [hij] at h;cases h
  |true=>
   have:=Nat.eq_of_beq_eq_true hij
   subst this
   rw [hij] at h
   simp only [cond_true] at h
   split at h
   .rename_i d ds' hd hds
    simp only [Option.some.injEq] at h
    subst h
    have hR:=zb0 _ _ _ _ _ hd hv.cells
    have hvl:v'.cells.toList.length=z:=by have:=hR.size;rw [hs] at this;exact (Option.some.inj this).symm
    have hvs:v'.cells.size=z:=by rw [<-hvl];simp
    have hmul:(i+(d::ds').length)*z=i*z+(z+ds'.length*z):=by simp only [List.length_cons];rw [Nat.add_mul,Nat.succ_mul];omega
    have hfold:=zkz (i*z) v'.cells.toList 0 cs (by rw [hvl,hsz,hmul];omega)
    simp only [Instr.fill]
    rw [if_neg (by rw [hvs,hsz,hmul];simp),zda]
    generalize hc2:((v'.cells.toList.zipIdx 0).foldl (λcs (x:Value×Nat)=>cs.setIfInBounds (i*z+x.2) x.1) cs)=cs2 at hfold⊢
    have hs2:cs2.size=(i+1+ds'.length)*z:=by
     have h1:cs2.toList.length=cs.size:=by rw [hfold];simp only [List.length_append,List.length_take,List.length_drop,Array.length_toList];rw [hsz,hmul];omega
     rw [<-Array.length_toList,h1,hsz,hmul,Nat.add_mul,Nat.succ_mul];omega
    obtain ⟨row,h1,h2⟩:=zhm hs ps ps' (i+1) ds' cs2 hds hm hl hs2
    refine ⟨v'.cells.toList++row, ?_,(zbb.single hR hvl).append h2⟩
    rw [h1]
    have ht:List.take ((i+1)*z) cs2.toList=List.take (i*z) cs.toList++v'.cells.toList:=by
     rw [hfold,Nat.succ_mul]
     have hl1:(List.take (i*z) cs.toList).length=i*z:=by rw [List.length_take,Array.length_toList,hsz,hmul];omega
     simp only [Nat.add_zero]
     rw [List.append_assoc,List.take_append,hl1,List.take_of_length_le (by omega),show i*z+z-i*z=v'.cells.toList.length by rw [hvl];omega,List.take_left]
    rw [ht,List.append_assoc]
   .cases h
theorem zfT {t:TypeId} {len:Nat} {parts:Array (Nat×Operand)} {ps:List (Nat×V)} (hr:SR P base H0 O J S F H) (h:zc7 P S t len ps K) (hm:ps.map (·.1)=parts.toList.map (·.1)) (hl:zaN P J O (ps.map (·.2)) (parts.toList.map λx=>zah F x.2)):
  OpR P base H0 O J S F (zbu P F t len parts H) K:=by
 unfold zc7 at h
 split at h
 .rename_i e hu
  split at h
  .rename_i ds s z0 hds hs hz
   cases hc:(Nat.beq ds.length len&&Nat.ble len 16777216&&Nat.ble (len*Nat.succ s) 16777216&&zcV P e) with
   |false=>rw [hc] at h;exact h.elim
   |true=>
    rw [hc] at h
    simp only [Bool.and_eq_true] at hc
    obtain ⟨⟨⟨c1,c2⟩,c3⟩,c4⟩:=hc
    have c1':=Nat.eq_of_beq_eq_true c1
    obtain ⟨zv,hz1,hz2⟩:=ziV (J:=J) hz c4
    have hzl:zv.cells.toList.length=s+1:=by have:=hz2.size;rw [hs] at this;exact (Option.some.inj this).symm
    have hfl:Ev.flat zv=true:=by unfold zcV at c4;rw [hz1] at c4;exact c4
    have hrep:(List.replicate len zv.cells.toList).flatten.length=len*(s+1):=by rw [zf5 (z:=s+1) (λc hc=>by rw [(List.mem_replicate.1 hc).2,hzl])];simp
    obtain ⟨row,hf,hrow⟩:=zhm hs ps (parts.toList.map λx=>(x.1,zah F x.2)) 0 ds ((List.replicate len zv.cells.toList).flatten.toArray) hds (by rw [hm,List.map_map];rfl) (by rw [List.map_map];exact hl) (by rw [List.size_toArray,hrep,c1',Nat.zero_add])
    have hb:zbu P F t len parts H=some (.slice (some ⟨H.next,0,none⟩) len len,H.alloc (.cells row e (s+1) none false)):=by
     unfold zbu
     simp only [hu,hs,hz1]
     have e1:Nat.beq zv.cells.size (Nat.succ s)=true:=by rw [show zv.cells.size=s+1 by rw [<-hzl];simp];exact Nat.beq_refl _
     simp only [c2,c3,hfl,e1,Bool.and_self,cond_true]
     have e2:(parts.map λ(x:Nat×Operand)=>(x.1,zah F x.2)).toList=parts.toList.map λx=>(x.1,zah F x.2):=by simp
     rw [show (parts.map λx=>match x with| (i,x)=>(i,zah F x)).toList=parts.toList.map λx=>(x.1,zah F x.2) from e2]
     rw [show (λi=>some (i*Nat.succ s,Nat.succ s))=(λi=>some (i*(s+1),s+1)) from rfl,hf]
     simp only [Nat.zero_mul,List.take_zero,List.nil_append,za2 hrow.one]
    rw [hb]
    refine ⟨_,_,rfl,_,_,_,J,h,hr.alloc (z:=s+1) (k:= .arr e ds) (λO' hν=> .arr hs (Nat.succ_pos s) hrow), ?_,zfy _ _ _,.refl _,rfl,.alloc _ _⟩
    have:=Nat.le_of_ble_eq_true c2
    exact zam.slc (z:=s+1) (o:= .lit 0) (n:= .lit len) (c:= .lit len) (if_pos rfl) (by show len<UNK;unfold UNK;omega) (Nat.le_refl _) (.inl (by simp [NL.v]))
  .exact h.elim
 .exact h.elim
theorem SR.blt (hr:SR P base H0 O J S F H) {c:Nat} {k:SB} (h:S.hp.get c=some k):c<S.nx:=by
 obtain ⟨i,z,h1,_⟩:=hr.blkT c k h
 rcases Nat.lt_or_ge c S.nx with hl|hl
 .exact hl
 .rw [hr.dom (.top c) hl] at h1;cases h1
theorem zhf {t:TypeId} {len:Nat} {parts:Array (Nat×Operand)} {ps:List (Nat×V)} (hr:SR P base H0 O J S F H) (h:zgW P S t len ps K) (hm:ps.map (·.1)=parts.toList.map (·.1)) (hl:zaN P J O (ps.map (·.2)) (parts.toList.map λx=>zah F x.2)):
  OpR P base H0 O J S F (zbu P F t len parts H) K:=h.out.elim
end
end Go.Ev
