/- Part of the proof. -/
import Derived.Test.YtdojhafbgoimeaaGreatDoorCoreSeH

namespace Go.Ev
section
variable {P:Program} {base:Nat} {H0:zaa×Sig} {O:Nu} {J:Sig} {S:SS} {F:zab} {H:zaa} {K:V->SS->Prop}
theorem zaw {t:TypeId} {n:Nat} (h:zay P t n=true):zaj P t=some n:=by
 unfold zay at h
 split at h
 .rename_i s hs;rw [hs,Nat.eq_of_beq_eq_true h]
 .cases h
theorem zoW {t:TypeId} {a b c} {v:V} {v':Value} {d:D} (hu:P.underlying t=some (.func a b c)) (hs:zaj P t=some 1) (h:zyi v=some d) (hv:zam P J O v v'):zan P J t d [v']:=by
 unfold zyi at h
 split at h
 .cases h
  cases hv with
  |fndN=>exact .nilf hu hs
  |fnd h1 h2 hp hi hz hf=>exact .fn hu hs h1 h2 hp hi hz hf
 .cases h
  cases hv with
  |val _=>exact .nilf hu hs
 .cases h
  cases hv with
  |fn h1 h2 h3 h4=>
   rename_i fs' cs'
   have e1:=List.eq_nil_of_length_eq_zero h1.symm
   have e2:=List.eq_nil_of_length_eq_zero h3.symm
   subst e1;subst e2
   exact .fn (ii:=λ_=>0) (oo:=λ_=>0) (ss:=λ_=>0) (zz:=λ_=>0) (bb:=λ_=> []) hu hs rfl rfl (λj v h=>by simp at h) (λj h=>by simp at h) (λj t h=>by simp at h) (λj t d h=>by simp at h)
 .cases h
theorem zlS {n:Nat} (ih:∀(t:TypeId) (vs:List V) (d:D) (cs:List Value),zdX P n t vs=some d->zaN P J O vs cs->zan P J t d cs):∀(fs:List Field) (vs:List V) (ds:List D) (cs:List Value),zm8 P (zdX P n) fs vs=some ds->zaN P J O vs cs->
  ∃css:List (List Value),css.flatten=cs/\css.length=fs.length/\ds.length=fs.length/\∀(j:Nat) (f:Field) (d:D) (c:List Value),fs[j]? =some f->ds[j]? =some d->css[j]? =some c->zan P J f.type d c
 | [],[],ds,cs,h,hl=>by
  simp only [zm8,Option.some.injEq] at h
  subst h
  rw [hl.nil_inv]
  exact ⟨[],rfl,rfl,rfl,λj f d c h=>by simp at h⟩
 | [],_::_,ds,cs,h,hl=>by simp [zm8] at h
 |f::fs,vs,ds,cs,h,hl=>by
  simp only [zm8] at h
  split at h
  .cases h
  .rename_i s hs
   cases hle:Nat.ble s vs.length with
   |false=>rw [hle] at h;cases h
   |true=>
    rw [hle] at h
    simp only [cond_true] at h
    split at h
    .rename_i d ds' hd hds
     simp only [Option.some.injEq] at h
     subst h
     obtain ⟨css,h1,h2,h3,h4⟩:=zlS ih fs (vs.drop s) ds' (cs.drop s) hds (hl.drop s)
     refine ⟨cs.take s::css,by rw [List.flatten_cons,h1,List.take_append_drop],by simp [h2],by simp [h3],λj f' d' c' a b c=> ?_⟩
     cases j with
     |zero=>
      simp only [List.getElem?_cons_zero,Option.some.injEq] at a b c
      subst a b c
      exact ih _ _ _ _ hd (hl.take s)
     |succ j=>exact h4 j f' d' c' (by simpa using a) (by simpa using b) (by simpa using c)
    .cases h
theorem zb0:∀(n:Nat) (t:TypeId) (vs:List V) (d:D) (cs:List Value),zdX P n t vs=some d->zaN P J O vs cs->zan P J t d cs
 |0,t,vs,d,cs,h,_=>by unfold zdX at h;cases h
 |n+1,t,vs,d,cs,h,hl=>by
  unfold zdX at h
  cases hsz:zay P t vs.length with
  |false=>rw [hsz] at h;cases h
  |true=>
   have hs:=zaw hsz
   rw [hsz] at h
   simp only [cond_true] at h
   split at h
   .rename_i k v hu
    obtain ⟨v',r,rfl,h1,h2⟩:=hl.cons_inv
    rw [h2.nil_inv]
    split at h
    .rename_i k' m hi
     cases hk:(k==k') with
     |false=>rw [hk] at h;cases h
     |true=>
      rw [hk] at h
      simp only [cond_true,Option.some.injEq] at h
      subst h
      have:=eq_of_beq hk
      subst this
      rw [zaL hi h1]
      exact .int hu hs
    .cases h
   .rename_i v hu
    obtain ⟨v',r,rfl,h1,h2⟩:=hl.cons_inv
    rw [h2.nil_inv]
    cases hp:zd6 v with
    |none=>rw [hp] at h;cases h
    |some p=>rw [hp] at h;simp only [Option.map_some,Option.some.injEq] at h;subst h;rw [zcQ hp h1];exact .bool hu hs
   .rename_i v hu
    obtain ⟨v',r,rfl,h1,h2⟩:=hl.cons_inv
    rw [h2.nil_inv]
    cases hp:zgT v with
    |none=>rw [hp] at h;cases h
    |some p=>rw [hp] at h;simp only [Option.map_some,Option.some.injEq] at h;subst h;rw [zc6 hp h1];exact .str hu hs
   .rename_i e hu
    obtain ⟨v',r,rfl,h1,h2⟩:=hl.cons_inv
    rw [h2.nil_inv]
    simp only [Option.some.injEq] at h
    subst h
    cases h1 with
    |val _=>exact .nil hu hs
   .rename_i e t' d' hu
    obtain ⟨v',r,rfl,h1,h2⟩:=hl.cons_inv
    rw [h2.nil_inv]
    cases ht:Nat.beq t t' with
    |false=>rw [ht] at h;cases h
    |true=>
     have:=Nat.eq_of_beq_eq_true ht
     subst this
     rw [ht] at h
     simp only [cond_true,Option.some.injEq] at h
     subst h
     cases h1 with
     |dat _ h=>exact h
   .rename_i fs hu
    obtain ⟨ds,hg,rfl⟩:=Option.map_eq_some_iff.1 h
    obtain ⟨css,h1,h2,h3,h4⟩:=zlS (zb0 n) _ _ _ _ hg hl
    subst h1
    refine .sct hu (by simpa using h2) (by simpa using h3) (by rw [hs,hl.1]) λj f d c a b c'=>h4 j f d c (by simpa using a) b c'
   .rename_i q1 q2 q3 v hu
    obtain ⟨v',r,rfl,h1,h2⟩:=hl.cons_inv
    rw [h2.nil_inv]
    exact zoW hu hs h h1
   .cases h
theorem zf4 {z:Nat} {css:List (List Value)} (hz:∀c∈css,c.length=z) (j:Nat):(css.flatten.drop (j*z)).take z=(css[j]?).getD []:=by
 induction css generalizing j with
 |nil=>simp
 |cons c css ih=>
  have hc:=hz c (by simp)
  cases j with
  |zero=>simp [List.flatten_cons,<-hc]
  |succ j=>
   rw [List.flatten_cons,show (j+1)*z=c.length+j*z by rw [hc,Nat.succ_mul];omega,List.drop_append,]
   simp only [List.drop_length_add_append,List.getElem?_cons_succ] at*
   rw [show List.drop (c.length+j*z) c= [] from List.drop_eq_nil_of_le (by omega),List.nil_append,show c.length+j*z-c.length=j*z by omega]
   exact ih (λc hc=>hz c (by simp [hc])) j
theorem zf5 {z:Nat} {css:List (List Value)} (hz:∀c∈css,c.length=z):css.flatten.length=css.length*z:=by
 induction css with
 |nil=>simp
 |cons c css ih=>rw [List.flatten_cons,List.length_append,hz c (by simp),ih λc hc=>hz c (by simp [hc]),List.length_cons,Nat.succ_mul];omega
def zbb (P:Program) (J:Sig) (e:TypeId) (z:Nat) (l:List D) (cs:List Value):Prop:=cs.length=l.length*z/\∀(j:Nat) (d:D),l[j]? =some d->zan P J e d ((cs.drop (j*z)).take z)
theorem zbb.mono {J':Sig} {e:TypeId} {z:Nat} {l:List D} {cs:List Value} (h:zbb P J e z l cs) (hx:XS J J'):zbb P J' e z l cs:=⟨h.1,λj d hd=>(h.2 j d hd).mono hx⟩
theorem zbb.nil {e:TypeId} {z:Nat}:zbb P J e z [] []:=⟨by simp,λj d h=>by simp at h⟩
theorem zbb.drop {e:TypeId} {z:Nat} {l:List D} {cs:List Value} (h:zbb P J e z l cs) (n:Nat):zbb P J e z (l.drop n) (cs.drop (n*z)):=by
 refine ⟨by rw [List.length_drop,List.length_drop,h.1,Nat.sub_mul],λj d hd=> ?_⟩
 rw [List.drop_drop,<-Nat.add_mul]
 exact h.2 (n+j) d (by simpa using hd)
theorem zbb.take {e:TypeId} {z:Nat} {l:List D} {cs:List Value} (h:zbb P J e z l cs) (n:Nat):zbb P J e z (l.take n) (cs.take (n*z)):=by
 refine ⟨?_,λj d hd=> ?_⟩
 .rw [List.length_take,List.length_take,h.1]
  rcases Nat.le_total n l.length with hn|hn
  .rw [Nat.min_eq_left hn,Nat.min_eq_left (Nat.mul_le_mul_right z hn)]
  .rw [Nat.min_eq_right hn,Nat.min_eq_right (Nat.mul_le_mul_right z hn)]
 .rw [List.getElem?_take] at hd
  split at hd
  .rename_i hj
   have:=h.2 j d hd
   have hm:j*z+z<=n*z:=by rw [<-Nat.succ_mul];exact Nat.mul_le_mul_right z hj
   rw [List.drop_take,List.take_take,Nat.min_eq_left (by omega)]
   exact this
  .cases hd
theorem zbb.append {e:TypeId} {z:Nat} {l l2:List D} {cs cs2:List Value} (h:zbb P J e z l cs) (k:zbb P J e z l2 cs2):zbb P J e z (l++l2) (cs++cs2):=by
 refine ⟨by rw [List.length_append,List.length_append,h.1,k.1,Nat.add_mul],λj d hd=> ?_⟩
 rw [List.getElem?_append] at hd
 split at hd
 .rename_i hj
  have hm:j*z+z<=l.length*z:=by rw [<-Nat.succ_mul];exact Nat.mul_le_mul_right z hj
  rw [List.drop_append_of_le_length (by rw [h.1];omega),List.take_append_of_le_length (by rw [List.length_drop,h.1];omega)]
  exact h.2 j d hd
 .rename_i hj
  have hm:l.length*z<=j*z:=Nat.mul_le_mul_right z (by omega)
  rw [List.drop_append,List.drop_eq_nil_of_le (by rw [h.1];omega),List.nil_append,h.1,<-Nat.sub_mul]
  exact k.2 _ d hd
theorem zbb.one {e:TypeId} {z:Nat} {l:List D} {cs:List Value} (h:zbb P J e z l cs):cs.all zar=true:=by
 rw [List.all_eq_true]
 intro c hc
 obtain ⟨j,hj⟩:=List.mem_iff_getElem?.1 hc
 have hlt:j<cs.length:=(List.getElem?_eq_some_iff.1 hj).1
 rw [h.1] at hlt
 have hz:0<z:=by rcases Nat.eq_zero_or_pos z with h0|h0;subst h0;simp at hlt;exact h0
 have hq:j/z<l.length:=Nat.div_lt_of_lt_mul (by rw [Nat.mul_comm];exact hlt)
 have:=(h.2 (j/z) l[j/z] (List.getElem?_eq_getElem hq)).one
 refine List.all_eq_true.1 this c (List.mem_of_getElem? (i:=j%z) ?_)
 rw [List.getElem?_take,if_pos (Nat.mod_lt _ hz),List.getElem?_drop,Nat.mul_comm,Nat.div_add_mod]
 exact hj
theorem zbb.rep {e:TypeId} {z:Nat} {d:D} {cs:List Value} (h:zan P J e d cs) (hz:cs.length=z) (n:Nat):zbb P J e z (List.replicate n d) (List.replicate n cs).flatten:=by
 have hall:∀c∈List.replicate n cs,c.length=z:=λc hc=>by rw [(List.mem_replicate.1 hc).2,hz]
 refine ⟨by rw [zf5 hall];simp,λj d' hd=> ?_⟩
 rw [zf4 hall]
 rw [List.getElem?_replicate] at hd
 split at hd
 .rename_i hj
  simp only [Option.some.injEq] at hd
  subst hd
  rw [List.getElem?_replicate,if_pos hj];exact h
 .cases hd
theorem zbb.single {e:TypeId} {z:Nat} {d:D} {cs:List Value} (h:zan P J e d cs) (hz:cs.length=z):zbb P J e z [d] cs:=by
 have:=zbb.rep h hz 1
 simpa using this
theorem zbb.set {e:TypeId} {z:Nat} {l:List D} {cs:List Value} (h:zbb P J e z l cs) {i:Nat} (hi:i<l.length) {d:D} {c:List Value} (hd:zan P J e d c) (hc:c.length=z):
  zbb P J e z (l.set i d) (cs.take (i*z)++c++cs.drop (i*z+c.length)):=by
 have e1:l.set i d=l.take i++([d]++l.drop (i+1)):=by rw [List.set_eq_take_append_cons_drop,if_pos hi];simp
 rw [e1,hc,List.append_assoc,show i*z+z=(i+1)*z by rw [Nat.succ_mul]]
 exact (h.take i).append ((zbb.single hd hc).append (h.drop (i+1)))
theorem zdf.arr {z:Nat} {e:TypeId} {l:List D} {cs:List Value} {m:Option Nat} (hs:zaj P e=some z) (h0:0<z) (h:zbb P J e z l cs):zdf P J O z (.arr e l) (some (.cells cs e z m false)):=⟨cs,m,rfl,hs,h0,h.1,h.2⟩
theorem zdf.grd {z:Nat} {a e:TypeId} {l:List D} {cs:List Value} {m:Option Nat} (hs:zaj P e=some z) (h0:0<z) (h:zbb P J e z l cs):zdf P J O z (.grd a e l) (some (.cells cs a 0 m false)):=⟨cs,m,rfl,hs,h0,h.1,h.2⟩
theorem zaM {i o:Nat} {vs cs:List Value} {e:TypeId} {esz:Nat} {m:Option Nat} (hg:H.get i=some (.cells cs e esz m false)) (hle:o+vs.length<=cs.length) (h1:vs.all zar=true):
  za5 H i o vs=some ((H.kill (H.mate i)).write i (some (.cells (zaZ cs o vs) e esz none false))):=by
 unfold za5
 rw [hg,zdM hg]
 simp only [h1,Nat.ble_eq_true_of_le hle,Bool.and_self,cond_true]
theorem zhk {e:TypeId} (hu:P.underlying e=some .bool) (hs:zaj P e=some 1):∀(vs:List V) (ds:List D) (cs:List Value),zgg vs=some ds->zaN P J O vs cs->zbb P J e 1 ds cs
 | [],ds,cs,h,hl=>by
  simp only [zgg,Option.some.injEq] at h
  subst h
  rw [hl.nil_inv];exact .nil
 |v::vs,ds,cs,h,hl=>by
  simp only [zgg] at h
  split at h
  .rename_i p ds' hp hds
   simp only [Option.some.injEq] at h
   subst h
   obtain ⟨v',r,rfl,hv,hr⟩:=hl.cons_inv
   have h1:zdX P 1 e [v]=some (.bool p):=by
    unfold zdX
    simp only [zay,hs,List.length_singleton,Nat.beq_refl,cond_true,hu,hp,Option.map_some]
   have hR:=zb0 _ _ _ _ [v'] h1 (.cons hv .nil)
   exact (zbb.single hR rfl).append (zhk hu hs vs ds' r hds hr)
  .cases h
theorem zhB {cs:List Value} {n:Nat} {v:Value} (h:n<cs.length):zaZ cs n [v]=cs.set n v:=by
 unfold zaZ
 rw [List.set_eq_take_append_cons_drop,if_pos h]
 simp
theorem zko {cs:List Value} {n:Nat} {v:Value} (h:cs.all zar=true) (hv:zar v=true):(cs.set n v).all zar=true:=by
 rw [List.all_eq_true] at h⊢
 intro x hx
 rcases List.mem_or_eq_of_mem_set hx with h1|h1
 .exact h x h1
 .rw [h1];exact hv
theorem zaz.bump (S:SS):zaz S S.bump:=⟨Nat.le_succ _,rfl,rfl,rfl,λ_ h=>h,λ_ _ _=>rfl,λ_ _ _=>rfl⟩
theorem za7 {t e:TypeId} (h:zax P t e=true):P.underlying t=some (.slice e)/\zaj P t=some 1:=by
 unfold zax at h
 simp only [Bool.and_eq_true] at h
 refine ⟨?_,zaw h.2⟩
 have h1:=h.1
 split at h1
 .rename_i e' hu;rw [hu,Nat.eq_of_beq_eq_true h1]
 .cases h1
theorem SR.ownStore (hr:SR P base H0 O J S F H) {b b' i z n i2 z2 c:Nat} {kb:SB} {e e2:TypeId} {l l2:List D} (hb:S.hp.get b=some kb) (hν:O (Bid.top b)=some (i,z)) (hro:S.ro<=b)
  (hb2:S.hp.get b'=some (.arr e2 l2)) (hν2:O (Bid.top b')=some (i2,z2)) (hro2:S.ro<=b') (hne:b≠b') (hu:P.underlying e=some (.slice e2)) (hs1:zaj P e=some 1) (hn:n<l.length)
  (hk:(∃v e0,kb= .own v e e0 l)\/(kb= .arr e l/\zdl l)) (hc:c=UNK\/(c=l2.length/\c<UNK)):
  ∃cs' m O',H.get i=some (.cells cs' e 1 m false)/\n<cs'.length/\XN O O'/\XNn S.nx O O'/\
   SR P base H0 O' J ((S.write b' none).write b (some (.own S.nx e e2 (l.set n (.list l2))))).bump F ((H.kill (H.mate i)).write i (some (.cells (cs'.set n (.slice (some ⟨i2,0,none⟩) l2.length c)) e 1 none false))):=by
 obtain ⟨i',z',hν',hB⟩:=hr.blkT _ _ hb
 rw [hν] at hν';cases hν'
 -- what the block's cells hold
 have hinfo:∃cs' m,H.get i=some (.cells cs' e 1 m false)/\z=1/\cs'.length=l.length/\cs'.all zar=true/\
   ∀j d,l[j]? =some d->(d= .nil/\cs'[j]? =some (.slice none 0 0))\/(∃n,d= .int n)\/∃v r q y c,kb= .own v e e2 l/\d= .list r/\O (.sub v j)=some (q,y)/\cs'[j]? =some (.slice (some ⟨q,0,none⟩) r.length c)/\(c=UNK\/(c=r.length/\c<UNK)):=by
  rcases hk with ⟨v,e0,rfl⟩| ⟨rfl,hall⟩
  .obtain ⟨cs',m,hg,hs,h0,hlen,hone,hrd⟩:=hB
   have hz:z=1:=by rw [hs1] at hs;exact (Option.some.inj hs).symm
   subst hz
   refine ⟨cs',m,hg,rfl,by rw [hlen,Nat.mul_one],hone,λj d hj=> ?_⟩
   rcases hrd j d hj with ⟨h1,_,h2⟩|h1| ⟨r,q,y,c,h1,_,h3,h4,h5,h6⟩
   .exact .inl ⟨h1,h2 (by unfold zai;rw [hu])⟩
   .exact .inr (.inl h1)
   .have:e0=e2:=by rw [hu] at h3;cases h3;rfl
    subst this
    exact .inr (.inr ⟨v,r,q,y,c,rfl,h1,h4,h5,h6⟩)
  .obtain ⟨cs',m,hg,hs,h0,hlen,hrd⟩:=hB
   have hz:z=1:=by rw [hs1] at hs;exact (Option.some.inj hs).symm
   subst hz
   refine ⟨cs',m,hg,rfl,by rw [hlen,Nat.mul_one],zbb.one (J:=J) (P:=P) (e:=e) (z:=1) (l:=l) ⟨hlen,hrd⟩,λj d hj=> .inl ?_⟩
   have hd:d= .nil:=hall.out d (List.mem_of_getElem? hj)
   subst hd
   refine ⟨rfl, ?_⟩
   have h1:=hrd j _ hj
   have hjl:j<cs'.length:=by have:=(List.getElem?_eq_some_iff.1 hj).1;omega
   rw [Nat.mul_one,List.drop_eq_getElem_cons hjl] at h1
   simp only [List.take_succ_cons,List.take_zero] at h1
   rw [List.getElem?_eq_getElem hjl]
   generalize cs'[j]=w at h1⊢
   cases h1 with
   |nil=>rfl
   |nilf h=>rw [hu] at h;cases h
 obtain ⟨cs',m,hg,hz,hlen,hone,hold⟩:=hinfo
 subst hz
 let g:Nat->Option (Nat×Nat):=λj=>match kb with| .own v _ _ _=>O (.sub v j)|_=>none
 let O':Nu:=λx=>match x with| .sub w j=>if w=S.nx then (if j=n then some (i2,z2) else g j) else O (.sub w j)| .top c=>O (.top c)
 have hsubnx:∀j,O (.sub S.nx j)=none:=λj=>hr.dom (.sub S.nx j) (Nat.le_refl _)
 have hx:XN O O':=λx c hx=>by
  cases x with
  |top c=>exact hx
  |sub w j=>
   by_cases hw:w=S.nx
   .rw [hw,hsubnx] at hx;cases hx
   .show (if w=S.nx then _ else _)=_
    rw [if_neg hw];exact hx
 have hxn:XNn S.nx O O':=λx hx=>by
  cases x with
  |top c=>rfl
  |sub w j=>
   have:w<S.nx:=hx
   show (if w=S.nx then _ else _)=_
   rw [if_neg (by omega)]
 have hnew:∀j,O' (.sub S.nx j)=if j=n then some (i2,z2) else g j:=λj=>by
  show (if S.nx=S.nx then _ else _)=_
  rw [if_pos rfl]
 have hlt':∀x i z,O' x=some (i,z)->i<H.next:=λx i z h=>by
  cases x with
  |top c=>exact hr.lt _ _ _ h
  |sub w j=>
   by_cases hw:w=S.nx
   .subst hw
    rw [hnew] at h
    by_cases hj:j=n
    .rw [if_pos hj] at h;cases h;exact hr.lt _ _ _ hν2
    .rw [if_neg hj] at h
     simp only [g] at h
     split at h
     .exact hr.lt _ _ _ h
     .cases h
   .have h':(if w=S.nx then _ else _)=some (i,z):=h
    rw [if_neg hw] at h';exact hr.lt _ _ _ h'
 have hblt:∀c k,S.hp.get c=some k->c<S.nx:=λc k h=>by
  obtain ⟨i,z,h1,_⟩:=hr.blkT c k h
  rcases Nat.lt_or_ge c S.nx with hl|hl
  .exact hl
  .rw [hr.dom (.top c) hl] at h1;cases h1
 have hdom':∀x:Bid,S.nx+1<=x.id->O' x=none:=λx hx=>by
  cases x with
  |top c=>exact hr.dom (.top c) (by have:S.nx+1<=c:=hx;show S.nx<=c;omega)
  |sub w j=>
   have hw:S.nx+1<=w:=hx
   show (if w=S.nx then _ else _)=_
   rw [if_neg (by omega)]
   exact hr.dom (.sub w j) (by show S.nx<=w;omega)
 -- the element is let go, the rows have new numbers
 let SA:SS:=(S.write b (some (.own S.nx e e2 (l.set n (.int 0))))).bump
 have hgA:∀c,SA.hp.get c=if c=b then some (.own S.nx e e2 (l.set n (.int 0))) else S.hp.get c:=λc=>T.get_put _ _ _ _
 have hlA:∀(w:D) j r,(l.set n w)[j]? =some (.list r)->j≠n->l[j]? =some (.list r):=λw j r h hj=>by
  rw [List.getElem?_set,if_neg (λe=>hj e.symm)] at h;exact h
 have hversA:∀(S2:SS) (w:List D),S2.nx=S.nx+1->(∀c k,S2.hp.get c=some k->(c=b/\k= .own S.nx e e2 w)\/(c≠b/\S.hp.get c=some k))->zki S2:=λS2 w h1 h2=>by
  refine ⟨λc c' v e1 e2' l1 e3 e4 l' q1 q2=> ?_,λc v e1 e2' l1 q=> ?_⟩
  .rcases h2 _ _ q1 with ⟨a1,a2⟩| ⟨a1,a2⟩<;>rcases h2 _ _ q2 with ⟨b1,b2⟩| ⟨b1,b2⟩
   .rw [a1,b1]
   .cases a2;have:=hr.vers.2 _ _ _ _ _ b2;omega
   .cases b2;have:=hr.vers.2 _ _ _ _ _ a2;omega
   .exact hr.vers.1 _ _ _ _ _ _ _ _ _ a2 b2
  .rw [h1]
   rcases h2 _ _ q with ⟨a1,a2⟩| ⟨a1,a2⟩
   .cases a2;omega
   .have:=hr.vers.2 _ _ _ _ _ a2;omega
 have kown:∀j r,l[j]? =some (.list r)->∃v q y,kb= .own v e e2 l/\O (.sub v j)=some (q,y):=λj r h=>by
  rcases hold j _ h with ⟨h1,_⟩| ⟨_,h1⟩| ⟨v,r',q,y,c,h1,_,h3,_⟩
  .cases h1
  .cases h1
  .exact ⟨v,q,y,h1,h3⟩
 let fA:Bid->Bid:=λx=>match x with| .sub w j=>if w=S.nx then (match kb with| .own v _ _ _=> .sub v j|_=> .sub w j) else .sub w j| .top c=> .top c
 have fAold:∀w j,w≠S.nx->fA (.sub w j)= .sub w j:=λw j hw=>by
  show (if w=S.nx then _ else _)=_
  rw [if_neg hw]
 have fAnew:∀v j,kb= .own v e e2 l->fA (.sub S.nx j)= .sub v j:=λv j hv=>by
  show (if S.nx=S.nx then _ else _)=_
  rw [if_pos rfl,hv]
 have gnew:∀v j,kb= .own v e e2 l->g j=O (.sub v j):=λv j hv=>by
  show (match kb with| .own v _ _ _=>O (.sub v j)|_=>none)=_
  rw [hv]
 have atA:∀x k',At SA x k'->(x= .top b/\k'= .own S.nx e e2 (l.set n (.int 0)))\/(∃j r v,x= .sub S.nx j/\j≠n/\l[j]? =some (.list r)/\k'= .arr e2 r/\kb= .own v e e2 l)\/(fA x=x/\O' x=O x/\x≠ .top b/\At S x k'/\(Wr SA x->Wr S x)):=λx k' h=>by
  cases x with
  |top c=>
   have h1:SA.hp.get c=some k':=h
   rw [hgA] at h1
   by_cases ec:c=b
   .rw [if_pos ec] at h1;exact .inl ⟨by rw [ec],by cases h1;rfl⟩
   .rw [if_neg ec] at h1;exact .inr (.inr ⟨rfl,rfl,Bid.top_ne ec,h1,λh=>h⟩)
  |sub w j=>
   obtain ⟨c,q1,q2,l1,r,h1,h2,h3⟩:=h
   rw [hgA] at h1
   by_cases ec:c=b
   .rw [if_pos ec] at h1;cases h1
    have hj:j≠n:=λe=>by subst e;rw [List.getElem?_set_self (by exact hn)] at h2;cases h2
    have h2':=hlA _ _ _ h2 hj
    obtain ⟨v,q,y,hv,_⟩:=kown j r h2'
    exact .inr (.inl ⟨j,r,v,rfl,hj,h2',h3,hv⟩)
   .rw [if_neg ec] at h1
    have hw:w≠S.nx:=by have:=hr.vers.2 _ _ _ _ _ h1;omega
    refine .inr (.inr ⟨fAold w j hw, ?_,λh=>(by cases h),⟨c,q1,q2,l1,r,h1,h2,h3⟩,λhwr=> ?_⟩)
    .show (if w=S.nx then _ else _)=_
     rw [if_neg hw]
    .obtain ⟨c2,a1,a2,a3,w1,w2⟩:=hwr
     rw [hgA] at w1
     by_cases ec2:c2=b
     .rw [if_pos ec2] at w1;cases w1;exact absurd rfl hw
     .rw [if_neg ec2] at w1;exact ⟨c2,a1,a2,a3,w1,w2⟩
 have hrA:SR P base H0 O' J SA F H:=by
  refine hr.remap (λt v h=>(hr.fr t v h).mono (.refl _) hx) rfl fA (λx k' h=> ?_) (λx x' k k' h h' he=> ?_) hlt' hdom' (Nat.le_succ_of_le hr.role) (hversA _ (l.set n (.int 0)) rfl λc k h=> ?_) (hr.mks.mono hx)
  .rcases atA x k' h with ⟨rfl,rfl⟩| ⟨j,r,v,rfl,hj,hjl,rfl,hv⟩| ⟨h1,h2,_,h3,h4⟩
   .refine ⟨kb,hb,rfl,λh=>h,λi1 z1 h1 hB1=> ?_⟩
    have h1':O (.top b)=some (i1,z1):=h1
    rw [hν] at h1';cases h1'
    refine ⟨cs',m,hg,hs1,by omega,by rw [List.length_set,hlen,Nat.mul_one],hone,λj d hj=> ?_⟩
    by_cases e1:n=j
    .subst e1
     rw [List.getElem?_set_self hn] at hj;cases hj
     exact .inr (.inl ⟨_,rfl⟩)
    .rw [List.getElem?_set,if_neg e1] at hj
     rcases hold j d hj with ⟨h1,h2⟩|h1| ⟨v,r,q,y,c,h1,h2,h3,h4,h5⟩
     .exact .inl ⟨h1,rfl,λ_=>h2⟩
     .exact .inr (.inl h1)
     .exact .inr (.inr ⟨r,q,y,c,h2,rfl,hu,by rw [hnew,if_neg (λe=>e1 e.symm),gnew v j h1];exact h3,h4,h5⟩)
   .refine ⟨.arr e2 r, ?_, ?_,λ_=> ?_,λ_ _ _ h=>h.mono (.refl _) hx⟩
    .rw [fAnew v j hv];exact ⟨b,e,e2,l,r,by rw [<-hv];exact hb,hjl,rfl⟩
    .rw [fAnew v j hv,hnew,if_neg hj,gnew v j hv]
    .rw [fAnew v j hv];exact ⟨b,e,e2,l,by rw [<-hv];exact hb,hro⟩
   .rw [h1]
    exact ⟨k',h3,h2,h4,λ_ _ _ h=>h.mono (.refl _) hx⟩
  .rcases atA x k h with ⟨rfl,_⟩| ⟨j,r,v,rfl,hj,hjl,_,hv⟩| ⟨h1,_,_,h3,_⟩<;>rcases atA x' k' h' with ⟨rfl,_⟩| ⟨j',r',v',rfl,hj',hjl',_,hv'⟩| ⟨h1',_,_,h3',_⟩
   .rfl
   .rw [fAnew v' j' hv'] at he;cases he
   .rw [h1'] at he;exact he
   .rw [fAnew v j hv] at he;cases he
   .rw [fAnew v j hv,fAnew v' j' hv'] at he
    cases he;rfl
   .rw [fAnew v j hv,h1'] at he
    subst he
    obtain ⟨c,q1,q2,l1,r1,g1,g2,g3⟩:=h3'
    have:c=b:=hr.vers.1 _ _ _ _ _ _ _ _ _ g1 (by rw [hb,hv])
    -- the old number has gone
    obtain ⟨c',q1',q2',l1',r1',g1',g2',g3'⟩:=h'
    rw [hgA] at g1'
    by_cases ec:c'=b
    .rw [if_pos ec] at g1';cases g1'
     have:=hr.vers.2 _ _ _ _ _ g1;omega
    .rw [if_neg ec] at g1'
     exact absurd (hr.vers.1 _ _ _ _ _ _ _ _ _ g1' g1) (by rw [this];exact ec)
   .rw [h1] at he;exact he
   .rw [h1,fAnew v' j' hv'] at he
    subst he
    obtain ⟨c,q1,q2,l1,r1,g1,g2,g3⟩:=h3
    have:c=b:=hr.vers.1 _ _ _ _ _ _ _ _ _ g1 (by rw [hb,hv'])
    obtain ⟨c',q1',q2',l1',r1',g1',g2',g3'⟩:=h
    rw [hgA] at g1'
    by_cases ec:c'=b
    .rw [if_pos ec] at g1';cases g1'
     have:=hr.vers.2 _ _ _ _ _ g1;omega
    .rw [if_neg ec] at g1'
     exact absurd (hr.vers.1 _ _ _ _ _ _ _ _ _ g1' g1) (by rw [this];exact ec)
   .rw [h1,h1'] at he;exact he
  .rw [hgA] at h
   by_cases ec:c=b
   .rw [if_pos ec] at h;exact .inl ⟨ec,by cases h;rfl⟩
   .rw [if_neg ec] at h;exact .inr ⟨ec,h⟩
 -- the cell is written
 have hbA:At SA (.top b) (.own S.nx e e2 (l.set n (.int 0))):=by
  show SA.hp.get b=_
  rw [hgA,if_pos rfl]
 have hncs:n<cs'.length:=by rw [hlen];exact hn
 have hset:∀j,j≠n->(cs'.set n (.slice (some ⟨i2,0,none⟩) l2.length c))[j]? =cs'[j]? :=λj hj=>by rw [List.getElem?_set,if_neg (λe=>hj e.symm)]
 have hcell:∀j d,l[j]? =some d->j≠n->zvG P O' e e2 1 S.nx j d (cs'.set n (.slice (some ⟨i2,0,none⟩) l2.length c)):=λj d hj hjn=>by
  rcases hold j d hj with ⟨h1,h2⟩|h1| ⟨v,r,q,y,c,h1,h2,h3,h4,h5⟩
  .exact .inl ⟨h1,rfl,λ_=>by rw [hset j hjn];exact h2⟩
  .exact .inr (.inl h1)
  .exact .inr (.inr ⟨r,q,y,c,h2,rfl,hu,by rw [hnew,if_neg hjn,gnew v j h1];exact h3,by rw [hset j hjn];exact h4,h5⟩)
 have hrB:=hrA.writeG (S':=SA) (x:= .top b) (i:=i) (z:=1) hbA (show O' (.top b)=_ from hν) hro (k':= .own S.nx e e2 (l.set n (.int 0))) (cs:=cs'.set n (.slice (some ⟨i2,0,none⟩) l2.length c)) (e:=e) (esz:=1)
  ⟨_,none,rfl,hs1,by omega,by rw [List.length_set,List.length_set,hlen,Nat.mul_one],zko hone rfl,λj d hj=>by
   by_cases e1:n=j
   .subst e1
    rw [List.getElem?_set_self hn] at hj;cases hj
    exact .inr (.inl ⟨_,rfl⟩)
   .rw [List.getElem?_set,if_neg e1] at hj
    exact hcell j d hj λe=>e1 e.symm⟩ rfl rfl (Nat.le_refl _) rfl
  (λy k2 h=>by
   by_cases e1:y= .top b
   .subst e1
    have h':SA.hp.get b=some k2:=h
    have h2:SA.hp.get b=_:=hbA
    rw [h2] at h';cases h'
    exact .inl ⟨rfl,rfl⟩
   .exact .inr ⟨e1,λh=>h,k2,h,λ_ _ h=>h⟩) hrA.vers
 -- the row goes to the element
 refine ⟨cs',m,O',hg,hncs,hx,hxn, ?_⟩
 let SC:SS:=((S.write b' none).write b (some (.own S.nx e e2 (l.set n (.list l2))))).bump
 have hgC:∀c,SC.hp.get c=if c=b then some (.own S.nx e e2 (l.set n (.list l2))) else if c=b' then none else S.hp.get c:=λc=>by
  show T.get (T.put (T.put S.hp b' none) b _) c=_
  rw [T.get_put,T.get_put]
 let fC:Bid->Bid:=λx=>if x= .sub S.nx n then .top b' else x
 have hBnext:∀x i1 z1,O' x=some (i1,z1)->i1<((H.kill (H.mate i)).write i (some (.cells (cs'.set n (.slice (some ⟨i2,0,none⟩) l2.length c)) e 1 none false))).next:=λx i1 z1 h=>by
  rw [show ((H.kill (H.mate i)).write i (some (.cells (cs'.set n (.slice (some ⟨i2,0,none⟩) l2.length c)) e 1 none false))).next=H.next from zaa.next_kill _ _];exact hlt' x i1 z1 h
 have hgetB:((H.kill (H.mate i)).write i (some (.cells (cs'.set n (.slice (some ⟨i2,0,none⟩) l2.length c)) e 1 none false))).get i=some (.cells (cs'.set n (.slice (some ⟨i2,0,none⟩) l2.length c)) e 1 none false):=by rw [zaa.get_write,if_pos rfl]
 have atC:∀x k',At SC x k'->(x= .top b/\k'= .own S.nx e e2 (l.set n (.list l2)))\/(x= .sub S.nx n/\k'= .arr e2 l2)\/(x≠ .sub S.nx n/\x≠ .top b/\x≠ .top b'/\At SA x k'/\(Wr SC x->Wr SA x)):=λx k' h=>by
  cases x with
  |top c=>
   have h1:SC.hp.get c=some k':=h
   rw [hgC] at h1
   by_cases ec:c=b
   .rw [if_pos ec] at h1;exact .inl ⟨by rw [ec],by cases h1;rfl⟩
   .rw [if_neg ec] at h1
    by_cases ec2:c=b'
    .rw [if_pos ec2] at h1;cases h1
    .rw [if_neg ec2] at h1
     exact .inr (.inr ⟨λh=>(by cases h),Bid.top_ne ec,Bid.top_ne ec2,by show SA.hp.get c=_;rw [hgA,if_neg ec];exact h1,λh=>h⟩)
  |sub w j=>
   obtain ⟨c1,q1,q2,l1,r,h1,h2,h3⟩:=h
   rw [hgC] at h1
   by_cases ec:c1=b
   .rw [if_pos ec] at h1;cases h1
    by_cases hj:j=n
    .subst hj
     rw [List.getElem?_set_self hn] at h2;cases h2
     exact .inr (.inl ⟨rfl,h3⟩)
    .refine .inr (.inr ⟨λh=>(by cases h;exact hj rfl),λh=>(by cases h),λh=>(by cases h),⟨b,e,e2,l.set n (.int 0),r,hbA, ?_,h3⟩,λ_=>⟨b,e,e2,l.set n (.int 0),hbA,hro⟩⟩)
     rw [List.getElem?_set,if_neg (λe=>hj e.symm)];exact hlA _ _ _ h2 hj
   .rw [if_neg ec] at h1
    by_cases ec2:c1=b'
    .rw [if_pos ec2] at h1;cases h1
    .rw [if_neg ec2] at h1
     have hw:w≠S.nx:=by have:=hr.vers.2 _ _ _ _ _ h1;omega
     refine .inr (.inr ⟨λh=>(by cases h;exact hw rfl),λh=>(by cases h),λh=>(by cases h),⟨c1,q1,q2,l1,r,by rw [hgA,if_neg ec];exact h1,h2,h3⟩,λhwr=> ?_⟩)
     obtain ⟨c2,a1,a2,a3,w1,w2⟩:=hwr
     rw [hgC] at w1
     by_cases ec3:c2=b
     .rw [if_pos ec3] at w1;cases w1;exact absurd rfl hw
     .rw [if_neg ec3] at w1
      by_cases ec4:c2=b'
      .rw [if_pos ec4] at w1;cases w1
      .rw [if_neg ec4] at w1;exact ⟨c2,a1,a2,a3,by rw [hgA,if_neg ec3];exact w1,w2⟩
 have hb2A:At SA (.top b') (.arr e2 l2):=by
  show SA.hp.get b'=_
  rw [hgA,if_neg (λe=>hne e.symm)];exact hb2
 refine hrB.remap (λt v h=>(hrB.fr t v h)) rfl fC (λx k' h=> ?_) (λx x' k k' h h' he=> ?_) hBnext hdom' (Nat.le_succ_of_le hr.role) (hversA _ (l.set n (.list l2)) rfl λc1 k h=> ?_) hrB.mks
 .rcases atC x k' h with ⟨rfl,rfl⟩| ⟨rfl,rfl⟩| ⟨h1,_,_,h3,h4⟩
  .refine ⟨_,by simp only [fC,reduceCtorEq,if_false];exact hbA,by simp [fC],λh=>(by simp only [fC,reduceCtorEq,if_false];exact h),λi1 z1 h1 _=> ?_⟩
   simp only [fC,reduceCtorEq,if_false] at h1
   have h1':O (.top b)=some (i1,z1):=h1
   rw [hν] at h1';cases h1'
   rw [hgetB]
   refine ⟨_,none,rfl,hs1,by omega,by rw [List.length_set,List.length_set,hlen,Nat.mul_one],zko hone rfl,λj d hj=> ?_⟩
   by_cases e1:n=j
   .subst e1
    rw [List.getElem?_set_self hn] at hj;cases hj
    exact .inr (.inr ⟨l2,i2,z2,c,rfl,rfl,hu,by rw [hnew,if_pos rfl],List.getElem?_set_self hncs,hc⟩)
   .rw [List.getElem?_set,if_neg e1] at hj
    exact hcell j d hj λe=>e1 e.symm
  .refine ⟨.arr e2 l2,by simp only [fC,if_true];exact hb2A, ?_,λ_=>(by simp only [fC,if_true];exact hro2),λ_ _ _ h=>h⟩
   rw [hnew,if_pos rfl]
   simp only [fC,if_true]
   exact hν2.symm
  .have:fC x=x:=if_neg h1
   rw [this]
   exact ⟨k',h3,rfl,h4,λ_ _ _ h=>h⟩
 .have key:∀y k,At SC y k->y≠ .sub S.nx n->y≠ .top b':=λy k h hy=>by
   rcases atC y k h with ⟨rfl,_⟩| ⟨rfl,_⟩| ⟨_,_,h2,_⟩
   .exact Bid.top_ne hne
   .exact absurd rfl hy
   .exact h2
  by_cases e1:x= .sub S.nx n<;>by_cases e2:x'= .sub S.nx n
  .rw [e1,e2]
  .simp only [fC,e1,e2,if_true,if_false] at he
   exact absurd he.symm (key x' k' h' e2)
  .simp only [fC,e1,e2,if_true,if_false] at he
   exact absurd he (key x k h e1)
  .simpa only [fC,e1,e2,if_false] using he
 .rw [hgC] at h
  by_cases ec:c1=b
  .rw [if_pos ec] at h;exact .inl ⟨ec,by cases h;rfl⟩
  .rw [if_neg ec] at h
   by_cases ec2:c1=b'
   .rw [if_pos ec2] at h;cases h
   .rw [if_neg ec2] at h;exact .inr ⟨ec,h⟩
theorem SR.link (hr:SR P base H0 O J S F H) {b b' i z n i2 z2 c:Nat} {kb:SB} {e e2:TypeId} {l l2:List D} (hb:S.hp.get b=some kb) (hν:O (Bid.top b)=some (i,z)) (hro:S.ro<=b)
  (hb2:S.hp.get b'=some (.arr e2 l2)) (hν2:O (Bid.top b')=some (i2,z2)) (hro2:S.ro<=b') (hne:b≠b') (hu:P.underlying e=some (.slice e2)) (hs1:zaj P e=some 1) (hn:n<l.length)
  (hk:(∃v e0,kb= .own v e e0 l)\/(kb= .arr e l/\zdl l)) (hc:c=UNK\/(c=l2.length/\c<UNK))
  (hlk:∀cs' m,H.get i=some (.cells cs' e 1 m false)->cs'[n]? =some (.slice (some ⟨i2,0,none⟩) l2.length c)):
  ∃O',XN O O'/\XNn S.nx O O'/\SR P base H0 O' J ((S.write b' none).write b (some (.own S.nx e e2 (l.set n (.list l2))))).bump F H:=by
 obtain ⟨i',z',hν',hB⟩:=hr.blkT _ _ hb
 rw [hν] at hν';cases hν'
 -- what the block's cells hold
 have hinfo:∃cs' m,H.get i=some (.cells cs' e 1 m false)/\z=1/\cs'.length=l.length/\cs'.all zar=true/\
   ∀j d,l[j]? =some d->(d= .nil/\cs'[j]? =some (.slice none 0 0))\/(∃n,d= .int n)\/∃v r q y c,kb= .own v e e2 l/\d= .list r/\O (.sub v j)=some (q,y)/\cs'[j]? =some (.slice (some ⟨q,0,none⟩) r.length c)/\(c=UNK\/(c=r.length/\c<UNK)):=by
  rcases hk with ⟨v,e0,rfl⟩| ⟨rfl,hall⟩
  .obtain ⟨cs',m,hg,hs,h0,hlen,hone,hrd⟩:=hB
   have hz:z=1:=by rw [hs1] at hs;exact (Option.some.inj hs).symm
   subst hz
   refine ⟨cs',m,hg,rfl,by rw [hlen,Nat.mul_one],hone,λj d hj=> ?_⟩
   rcases hrd j d hj with ⟨h1,_,h2⟩|h1| ⟨r,q,y,c,h1,_,h3,h4,h5,h6⟩
   .exact .inl ⟨h1,h2 (by unfold zai;rw [hu])⟩
   .exact .inr (.inl h1)
   .have:e0=e2:=by rw [hu] at h3;cases h3;rfl
    subst this
    exact .inr (.inr ⟨v,r,q,y,c,rfl,h1,h4,h5,h6⟩)
  .obtain ⟨cs',m,hg,hs,h0,hlen,hrd⟩:=hB
   have hz:z=1:=by rw [hs1] at hs;exact (Option.some.inj hs).symm
   subst hz
   refine ⟨cs',m,hg,rfl,by rw [hlen,Nat.mul_one],zbb.one (J:=J) (P:=P) (e:=e) (z:=1) (l:=l) ⟨hlen,hrd⟩,λj d hj=> .inl ?_⟩
   have hd:d= .nil:=hall.out d (List.mem_of_getElem? hj)
   subst hd
   refine ⟨rfl, ?_⟩
   have h1:=hrd j _ hj
   have hjl:j<cs'.length:=by have:=(List.getElem?_eq_some_iff.1 hj).1;omega
   rw [Nat.mul_one,List.drop_eq_getElem_cons hjl] at h1
   simp only [List.take_succ_cons,List.take_zero] at h1
   rw [List.getElem?_eq_getElem hjl]
   generalize cs'[j]=w at h1⊢
   cases h1 with
   |nil=>rfl
   |nilf h=>rw [hu] at h;cases h
 obtain ⟨cs',m,hg,hz,hlen,hone,hold⟩:=hinfo
 subst hz
 let g:Nat->Option (Nat×Nat):=λj=>match kb with| .own v _ _ _=>O (.sub v j)|_=>none
 let O':Nu:=λx=>match x with| .sub w j=>if w=S.nx then (if j=n then some (i2,z2) else g j) else O (.sub w j)| .top c=>O (.top c)
 have hsubnx:∀j,O (.sub S.nx j)=none:=λj=>hr.dom (.sub S.nx j) (Nat.le_refl _)
 have hx:XN O O':=λx c hx=>by
  cases x with
  |top c=>exact hx
  |sub w j=>
   by_cases hw:w=S.nx
   .rw [hw,hsubnx] at hx;cases hx
   .show (if w=S.nx then _ else _)=_
    rw [if_neg hw];exact hx
 have hxn:XNn S.nx O O':=λx hx=>by
  cases x with
  |top c=>rfl
  |sub w j=>
   have:w<S.nx:=hx
   show (if w=S.nx then _ else _)=_
   rw [if_neg (by omega)]
 have hnew:∀j,O' (.sub S.nx j)=if j=n then some (i2,z2) else g j:=λj=>by
  show (if S.nx=S.nx then _ else _)=_
  rw [if_pos rfl]
 have hlt':∀x i z,O' x=some (i,z)->i<H.next:=λx i z h=>by
  cases x with
  |top c=>exact hr.lt _ _ _ h
  |sub w j=>
   by_cases hw:w=S.nx
   .subst hw
    rw [hnew] at h
    by_cases hj:j=n
    .rw [if_pos hj] at h;cases h;exact hr.lt _ _ _ hν2
    .rw [if_neg hj] at h
     simp only [g] at h
     split at h
     .exact hr.lt _ _ _ h
     .cases h
   .have h':(if w=S.nx then _ else _)=some (i,z):=h
    rw [if_neg hw] at h';exact hr.lt _ _ _ h'
 have hblt:∀c k,S.hp.get c=some k->c<S.nx:=λc k h=>by
  obtain ⟨i,z,h1,_⟩:=hr.blkT c k h
  rcases Nat.lt_or_ge c S.nx with hl|hl
  .exact hl
  .rw [hr.dom (.top c) hl] at h1;cases h1
 have hdom':∀x:Bid,S.nx+1<=x.id->O' x=none:=λx hx=>by
  cases x with
  |top c=>exact hr.dom (.top c) (by have:S.nx+1<=c:=hx;show S.nx<=c;omega)
  |sub w j=>
   have hw:S.nx+1<=w:=hx
   show (if w=S.nx then _ else _)=_
   rw [if_neg (by omega)]
   exact hr.dom (.sub w j) (by show S.nx<=w;omega)
 -- the element is let go, the rows have new numbers
 let SA:SS:=(S.write b (some (.own S.nx e e2 (l.set n (.int 0))))).bump
 have hgA:∀c,SA.hp.get c=if c=b then some (.own S.nx e e2 (l.set n (.int 0))) else S.hp.get c:=λc=>T.get_put _ _ _ _
 have hlA:∀(w:D) j r,(l.set n w)[j]? =some (.list r)->j≠n->l[j]? =some (.list r):=λw j r h hj=>by
  rw [List.getElem?_set,if_neg (λe=>hj e.symm)] at h;exact h
 have hversA:∀(S2:SS) (w:List D),S2.nx=S.nx+1->(∀c k,S2.hp.get c=some k->(c=b/\k= .own S.nx e e2 w)\/(c≠b/\S.hp.get c=some k))->zki S2:=λS2 w h1 h2=>by
  refine ⟨λc c' v e1 e2' l1 e3 e4 l' q1 q2=> ?_,λc v e1 e2' l1 q=> ?_⟩
  .rcases h2 _ _ q1 with ⟨a1,a2⟩| ⟨a1,a2⟩<;>rcases h2 _ _ q2 with ⟨b1,b2⟩| ⟨b1,b2⟩
   .rw [a1,b1]
   .cases a2;have:=hr.vers.2 _ _ _ _ _ b2;omega
   .cases b2;have:=hr.vers.2 _ _ _ _ _ a2;omega
   .exact hr.vers.1 _ _ _ _ _ _ _ _ _ a2 b2
  .rw [h1]
   rcases h2 _ _ q with ⟨a1,a2⟩| ⟨a1,a2⟩
   .cases a2;omega
   .have:=hr.vers.2 _ _ _ _ _ a2;omega
 have kown:∀j r,l[j]? =some (.list r)->∃v q y,kb= .own v e e2 l/\O (.sub v j)=some (q,y):=λj r h=>by
  rcases hold j _ h with ⟨h1,_⟩| ⟨_,h1⟩| ⟨v,r',q,y,c,h1,_,h3,_⟩
  .cases h1
  .cases h1
  .exact ⟨v,q,y,h1,h3⟩
 let fA:Bid->Bid:=λx=>match x with| .sub w j=>if w=S.nx then (match kb with| .own v _ _ _=> .sub v j|_=> .sub w j) else .sub w j| .top c=> .top c
 have fAold:∀w j,w≠S.nx->fA (.sub w j)= .sub w j:=λw j hw=>by
  show (if w=S.nx then _ else _)=_
  rw [if_neg hw]
 have fAnew:∀v j,kb= .own v e e2 l->fA (.sub S.nx j)= .sub v j:=λv j hv=>by
  show (if S.nx=S.nx then _ else _)=_
  rw [if_pos rfl,hv]
 have gnew:∀v j,kb= .own v e e2 l->g j=O (.sub v j):=λv j hv=>by
  show (match kb with| .own v _ _ _=>O (.sub v j)|_=>none)=_
  rw [hv]
 have atA:∀x k',At SA x k'->(x= .top b/\k'= .own S.nx e e2 (l.set n (.int 0)))\/(∃j r v,x= .sub S.nx j/\j≠n/\l[j]? =some (.list r)/\k'= .arr e2 r/\kb= .own v e e2 l)\/(fA x=x/\O' x=O x/\x≠ .top b/\At S x k'/\(Wr SA x->Wr S x)):=λx k' h=>by
  cases x with
  |top c=>
   have h1:SA.hp.get c=some k':=h
   rw [hgA] at h1
   by_cases ec:c=b
   .rw [if_pos ec] at h1;exact .inl ⟨by rw [ec],by cases h1;rfl⟩
   .rw [if_neg ec] at h1;exact .inr (.inr ⟨rfl,rfl,Bid.top_ne ec,h1,λh=>h⟩)
  |sub w j=>
   obtain ⟨c,q1,q2,l1,r,h1,h2,h3⟩:=h
   rw [hgA] at h1
   by_cases ec:c=b
   .rw [if_pos ec] at h1;cases h1
    have hj:j≠n:=λe=>by subst e;rw [List.getElem?_set_self (by exact hn)] at h2;cases h2
    have h2':=hlA _ _ _ h2 hj
    obtain ⟨v,q,y,hv,_⟩:=kown j r h2'
    exact .inr (.inl ⟨j,r,v,rfl,hj,h2',h3,hv⟩)
   .rw [if_neg ec] at h1
    have hw:w≠S.nx:=by have:=hr.vers.2 _ _ _ _ _ h1;omega
    refine .inr (.inr ⟨fAold w j hw, ?_,λh=>(by cases h),⟨c,q1,q2,l1,r,h1,h2,h3⟩,λhwr=> ?_⟩)
    .show (if w=S.nx then _ else _)=_
     rw [if_neg hw]
    .obtain ⟨c2,a1,a2,a3,w1,w2⟩:=hwr
     rw [hgA] at w1
     by_cases ec2:c2=b
     .rw [if_pos ec2] at w1;cases w1;exact absurd rfl hw
     .rw [if_neg ec2] at w1;exact ⟨c2,a1,a2,a3,w1,w2⟩
 have hrA:SR P base H0 O' J SA F H:=by
  refine hr.remap (λt v h=>(hr.fr t v h).mono (.refl _) hx) rfl fA (λx k' h=> ?_) (λx x' k k' h h' he=> ?_) hlt' hdom' (Nat.le_succ_of_le hr.role) (hversA _ (l.set n (.int 0)) rfl λc k h=> ?_) (hr.mks.mono hx)
  .rcases atA x k' h with ⟨rfl,rfl⟩| ⟨j,r,v,rfl,hj,hjl,rfl,hv⟩| ⟨h1,h2,_,h3,h4⟩
   .refine ⟨kb,hb,rfl,λh=>h,λi1 z1 h1 hB1=> ?_⟩
    have h1':O (.top b)=some (i1,z1):=h1
    rw [hν] at h1';cases h1'
    refine ⟨cs',m,hg,hs1,by omega,by rw [List.length_set,hlen,Nat.mul_one],hone,λj d hj=> ?_⟩
    by_cases e1:n=j
    .subst e1
     rw [List.getElem?_set_self hn] at hj;cases hj
     exact .inr (.inl ⟨_,rfl⟩)
    .rw [List.getElem?_set,if_neg e1] at hj
     rcases hold j d hj with ⟨h1,h2⟩|h1| ⟨v,r,q,y,c,h1,h2,h3,h4,h5⟩
     .exact .inl ⟨h1,rfl,λ_=>h2⟩
     .exact .inr (.inl h1)
     .exact .inr (.inr ⟨r,q,y,c,h2,rfl,hu,by rw [hnew,if_neg (λe=>e1 e.symm),gnew v j h1];exact h3,h4,h5⟩)
   .refine ⟨.arr e2 r, ?_, ?_,λ_=> ?_,λ_ _ _ h=>h.mono (.refl _) hx⟩
    .rw [fAnew v j hv];exact ⟨b,e,e2,l,r,by rw [<-hv];exact hb,hjl,rfl⟩
    .rw [fAnew v j hv,hnew,if_neg hj,gnew v j hv]
    .rw [fAnew v j hv];exact ⟨b,e,e2,l,by rw [<-hv];exact hb,hro⟩
   .rw [h1]
    exact ⟨k',h3,h2,h4,λ_ _ _ h=>h.mono (.refl _) hx⟩
  .rcases atA x k h with ⟨rfl,_⟩| ⟨j,r,v,rfl,hj,hjl,_,hv⟩| ⟨h1,_,_,h3,_⟩<;>rcases atA x' k' h' with ⟨rfl,_⟩| ⟨j',r',v',rfl,hj',hjl',_,hv'⟩| ⟨h1',_,_,h3',_⟩
   .rfl
   .rw [fAnew v' j' hv'] at he;cases he
   .rw [h1'] at he;exact he
   .rw [fAnew v j hv] at he;cases he
   .rw [fAnew v j hv,fAnew v' j' hv'] at he
    cases he;rfl
   .rw [fAnew v j hv,h1'] at he
    subst he
    obtain ⟨c,q1,q2,l1,r1,g1,g2,g3⟩:=h3'
    have:c=b:=hr.vers.1 _ _ _ _ _ _ _ _ _ g1 (by rw [hb,hv])
    -- the old number has gone
    obtain ⟨c',q1',q2',l1',r1',g1',g2',g3'⟩:=h'
    rw [hgA] at g1'
    by_cases ec:c'=b
    .rw [if_pos ec] at g1';cases g1'
     have:=hr.vers.2 _ _ _ _ _ g1;omega
    .rw [if_neg ec] at g1'
     exact absurd (hr.vers.1 _ _ _ _ _ _ _ _ _ g1' g1) (by rw [this];exact ec)
   .rw [h1] at he;exact he
   .rw [h1,fAnew v' j' hv'] at he
    subst he
    obtain ⟨c,q1,q2,l1,r1,g1,g2,g3⟩:=h3
    have:c=b:=hr.vers.1 _ _ _ _ _ _ _ _ _ g1 (by rw [hb,hv'])
    obtain ⟨c',q1',q2',l1',r1',g1',g2',g3'⟩:=h
    rw [hgA] at g1'
    by_cases ec:c'=b
    .rw [if_pos ec] at g1';cases g1'
     have:=hr.vers.2 _ _ _ _ _ g1;omega
    .rw [if_neg ec] at g1'
     exact absurd (hr.vers.1 _ _ _ _ _ _ _ _ _ g1' g1) (by rw [this];exact ec)
   .rw [h1,h1'] at he;exact he
  .rw [hgA] at h
   by_cases ec:c=b
   .rw [if_pos ec] at h;exact .inl ⟨ec,by cases h;rfl⟩
   .rw [if_neg ec] at h;exact .inr ⟨ec,h⟩
 -- the cell is written
 have hbA:At SA (.top b) (.own S.nx e e2 (l.set n (.int 0))):=by
  show SA.hp.get b=_
  rw [hgA,if_pos rfl]
 have hncs:n<cs'.length:=by rw [hlen];exact hn
 have hcell:∀j d,l[j]? =some d->j≠n->zvG P O' e e2 1 S.nx j d cs':=λj d hj hjn=>by
  rcases hold j d hj with ⟨h1,h2⟩|h1| ⟨v,r,q,y,c,h1,h2,h3,h4,h5⟩
  .exact .inl ⟨h1,rfl,λ_=>h2⟩
  .exact .inr (.inl h1)
  .exact .inr (.inr ⟨r,q,y,c,h2,rfl,hu,by rw [hnew,if_neg hjn,gnew v j h1];exact h3,h4,h5⟩)
 -- the row goes to the element
 refine ⟨O',hx,hxn, ?_⟩
 let SC:SS:=((S.write b' none).write b (some (.own S.nx e e2 (l.set n (.list l2))))).bump
 have hgC:∀c,SC.hp.get c=if c=b then some (.own S.nx e e2 (l.set n (.list l2))) else if c=b' then none else S.hp.get c:=λc=>by
  show T.get (T.put (T.put S.hp b' none) b _) c=_
  rw [T.get_put,T.get_put]
 let fC:Bid->Bid:=λx=>if x= .sub S.nx n then .top b' else x
 have atC:∀x k',At SC x k'->(x= .top b/\k'= .own S.nx e e2 (l.set n (.list l2)))\/(x= .sub S.nx n/\k'= .arr e2 l2)\/(x≠ .sub S.nx n/\x≠ .top b/\x≠ .top b'/\At SA x k'/\(Wr SC x->Wr SA x)):=λx k' h=>by
  cases x with
  |top c=>
   have h1:SC.hp.get c=some k':=h
   rw [hgC] at h1
   by_cases ec:c=b
   .rw [if_pos ec] at h1;exact .inl ⟨by rw [ec],by cases h1;rfl⟩
   .rw [if_neg ec] at h1
    by_cases ec2:c=b'
    .rw [if_pos ec2] at h1;cases h1
    .rw [if_neg ec2] at h1
     exact .inr (.inr ⟨λh=>(by cases h),Bid.top_ne ec,Bid.top_ne ec2,by show SA.hp.get c=_;rw [hgA,if_neg ec];exact h1,λh=>h⟩)
  |sub w j=>
   obtain ⟨c1,q1,q2,l1,r,h1,h2,h3⟩:=h
   rw [hgC] at h1
   by_cases ec:c1=b
   .rw [if_pos ec] at h1;cases h1
    by_cases hj:j=n
    .subst hj
     rw [List.getElem?_set_self hn] at h2;cases h2
     exact .inr (.inl ⟨rfl,h3⟩)
    .refine .inr (.inr ⟨λh=>(by cases h;exact hj rfl),λh=>(by cases h),λh=>(by cases h),⟨b,e,e2,l.set n (.int 0),r,hbA, ?_,h3⟩,λ_=>⟨b,e,e2,l.set n (.int 0),hbA,hro⟩⟩)
     rw [List.getElem?_set,if_neg (λe=>hj e.symm)];exact hlA _ _ _ h2 hj
   .rw [if_neg ec] at h1
    by_cases ec2:c1=b'
    .rw [if_pos ec2] at h1;cases h1
    .rw [if_neg ec2] at h1
     have hw:w≠S.nx:=by have:=hr.vers.2 _ _ _ _ _ h1;omega
     refine .inr (.inr ⟨λh=>(by cases h;exact hw rfl),λh=>(by cases h),λh=>(by cases h),⟨c1,q1,q2,l1,r,by rw [hgA,if_neg ec];exact h1,h2,h3⟩,λhwr=> ?_⟩)
     obtain ⟨c2,a1,a2,a3,w1,w2⟩:=hwr
     rw [hgC] at w1
     by_cases ec3:c2=b
     .rw [if_pos ec3] at w1;cases w1;exact absurd rfl hw
     .rw [if_neg ec3] at w1
      by_cases ec4:c2=b'
      .rw [if_pos ec4] at w1;cases w1
      .rw [if_neg ec4] at w1;exact ⟨c2,a1,a2,a3,by rw [hgA,if_neg ec3];exact w1,w2⟩
 have hb2A:At SA (.top b') (.arr e2 l2):=by
  show SA.hp.get b'=_
  rw [hgA,if_neg (λe=>hne e.symm)];exact hb2
 refine hrA.remap (λt v h=>(hrA.fr t v h)) rfl fC (λx k' h=> ?_) (λx x' k k' h h' he=> ?_) hlt' hdom' (Nat.le_succ_of_le hr.role) (hversA _ (l.set n (.list l2)) rfl λc1 k h=> ?_) hrA.mks
 .rcases atC x k' h with ⟨rfl,rfl⟩| ⟨rfl,rfl⟩| ⟨h1,_,_,h3,h4⟩
  .refine ⟨_,by simp only [fC,reduceCtorEq,if_false];exact hbA,by simp [fC],λh=>(by simp only [fC,reduceCtorEq,if_false];exact h),λi1 z1 h1 _=> ?_⟩
   simp only [fC,reduceCtorEq,if_false] at h1
   have h1':O (.top b)=some (i1,z1):=h1
   rw [hν] at h1';cases h1'
   refine ⟨_,m,hg,hs1,by omega,by rw [List.length_set,hlen,Nat.mul_one],hone,λj d hj=> ?_⟩
   by_cases e1:n=j
   .subst e1
    rw [List.getElem?_set_self hn] at hj;cases hj
    exact .inr (.inr ⟨l2,i2,z2,c,rfl,rfl,hu,by rw [hnew,if_pos rfl],hlk _ _ hg,hc⟩)
   .rw [List.getElem?_set,if_neg e1] at hj
    exact hcell j d hj λe=>e1 e.symm
  .refine ⟨.arr e2 l2,by simp only [fC,if_true];exact hb2A, ?_,λ_=>(by simp only [fC,if_true];exact hro2),λ_ _ _ h=>h⟩
   rw [hnew,if_pos rfl]
   simp only [fC,if_true]
   exact hν2.symm
  .have:fC x=x:=if_neg h1
   rw [this]
   exact ⟨k',h3,rfl,h4,λ_ _ _ h=>h⟩
 .have key:∀y k,At SC y k->y≠ .sub S.nx n->y≠ .top b':=λy k h hy=>by
   rcases atC y k h with ⟨rfl,_⟩| ⟨rfl,_⟩| ⟨_,_,h2,_⟩
   .exact Bid.top_ne hne
   .exact absurd rfl hy
   .exact h2
  by_cases e1:x= .sub S.nx n<;>by_cases e2:x'= .sub S.nx n
  .rw [e1,e2]
  .simp only [fC,e1,e2,if_true,if_false] at he
   exact absurd he.symm (key x' k' h' e2)
  .simp only [fC,e1,e2,if_true,if_false] at he
   exact absurd he (key x k h e1)
  .simpa only [fC,e1,e2,if_false] using he
 .rw [hgC] at h
  by_cases ec:c1=b
  .rw [if_pos ec] at h;exact .inl ⟨ec,by cases h;rfl⟩
  .rw [if_neg ec] at h
   by_cases ec2:c1=b'
   .rw [if_pos ec2] at h;cases h
   .rw [if_neg ec2] at h;exact .inr ⟨ec,h⟩
theorem zj7 {b i z:Nat} {kb:SB} {e:TypeId} {l:List D} {n:NL} {x:V} {x':Value} {p:Prop} (hr:SR P base H0 O J S F H) (h:zmI P S b e l n x p K) (hb:S.hp.get b=some kb) (hν:O (Bid.top b)=some (i,z))
  (hk:p->(∃v e0,kb= .own v e e0 l)\/(kb= .arr e l/\zdl l)) (hx:zam P J O x x'):OpR P base H0 O J S F (zbt P e (.pointer (some ⟨i,n.v*z,none⟩)) x' H) K:=by
 unfold zmI at h
 split at h
 .rename_i b' o m c
  split at h
  .rename_i e2 l2 hb2
   cases hc:(zax P e e2&&Nat.ble S.ro b&&Nat.ble S.ro b'&& !Nat.beq b b') with
   |false=>rw [hc] at h;exact h.elim
   |true=>
    rw [hc] at h
    obtain ⟨hn,hp,ho,hm,hcap,h⟩:=h
    simp only [Bool.and_eq_true,Bool.not_eq_true'] at hc
    obtain ⟨⟨⟨c1,c2⟩,c3⟩,c4⟩:=hc
    obtain ⟨hu,hs1⟩:=za7 c1
    have c2:=Nat.le_of_ble_eq_true c2
    have c3:=Nat.le_of_ble_eq_true c3
    have hne:b≠b':=λe=>by rw [e,Nat.beq_refl] at c4;cases c4
    have hz:z=1:=by
     obtain ⟨i',z',hν',hB⟩:=hr.blkT _ _ hb
     rw [hν] at hν';cases hν'
     rcases hk hp with ⟨v,e0,rfl⟩| ⟨rfl,_⟩
     .obtain ⟨_,_,_,hs,_⟩:=hB
      rw [hs1] at hs;exact (Option.some.inj hs).symm
     .obtain ⟨_,_,_,hs,_⟩:=hB
      rw [hs1] at hs;exact (Option.some.inj hs).symm
    subst hz
    have key:∀i2 z2 off cc,O (Bid.top b')=some (i2,z2)->off=0->(cc=UNK\/(cc=l2.length/\cc<UNK))->OpR P base H0 O J S F (zbt P e (.pointer (some ⟨i,n.v*1,none⟩)) (.slice (some ⟨i2,off,none⟩) m.v cc) H) K:=by
     intro i2 z2 off cc hν2 hoff hcc
     subst hoff
     obtain ⟨cs',mt,O',hg,hlt,hx,hxn,hr'⟩:=hr.ownStore hb hν c2 hb2 hν2 c3 hne hu hs1 hn (hk hp) hcc
     have hw:=zaM (o:=n.v) (vs:= [.slice (some ⟨i2,0,none⟩) l2.length cc]) hg (by show n.v+1<=_;exact hlt) rfl
     have hst:zbt P e (.pointer (some ⟨i,n.v*1,none⟩)) (.slice (some ⟨i2,0,none⟩) m.v cc) H=some (undef,(H.kill (H.mate i)).write i (some (.cells (cs'.set n.v (.slice (some ⟨i2,0,none⟩) l2.length cc)) e 1 none false))):=by
      unfold zbt zdz
      rw [zhB hlt] at hw
      simp only [hs1,Nat.mul_one,hm,Value.cells]
      have:Nat.beq (#[Value.slice (some ⟨i2,0,none⟩) l2.length cc]:Array Value).size 1=true:=rfl
      simp only [this,cond_true,hw]
     rw [hst]
     exact ⟨_,_,rfl,.val undef,_,O',J,h,hr',.undef,hxn,.refl _,rfl,((zaz.write _ _ _ c3).trans (zaz.write _ _ _ c2)).trans (zaz.bump _)⟩
    cases hx with
    |slcU hν2=>exact key _ _ _ _ hν2 (by rw [ho,Nat.zero_mul]) (.inl rfl)
    |slc hν2 hcu hmc hoff=>
     rename_i i2 z2 off cc
     refine key _ _ _ _ hν2 (by rw [ho,Nat.zero_mul] at hoff;omega) (.inr ⟨?_,hcu⟩)
     have:cc.v=m.v:=hcap
     rw [this,hm]
  .exact h.elim
 .exact h.elim
theorem SR.subWrite (hr:SR P base H0 O J S F H) {b v i n q z:Nat} {e e':TypeId} {l r:List D} {d:D} (hb:S.hp.get b=some (.own v e e' l)) (hro:S.ro<=b) (hl:l[i]? =some (.list r)) (hν:O (.sub v i)=some (q,z)) (hn:n<r.length)
  {cs:List Value} (hd:zdf P J O z (.arr e' (r.set n d)) (some (.cells cs e' z none false))):SR P base H0 O J (S.write b (some (.own v e e' (l.set i (.list (r.set n d)))))) F ((H.kill (H.mate q)).write q (some (.cells cs e' z none false))):=by
 have hi:i<l.length:=(List.getElem?_eq_some_iff.1 hl).1
 have hg:∀c,(S.write b (some (.own v e e' (l.set i (.list (r.set n d)))))).hp.get c=if c=b then some (.own v e e' (l.set i (.list (r.set n d)))) else S.hp.get c:=λc=>T.get_put _ _ _ _
 refine hr.writeG (x:= .sub v i) (k:= .arr e' r) ⟨b,e,e',l,r,hb,hl,rfl⟩ hν ⟨b,e,e',l,hb,hro⟩ hd rfl rfl (Nat.le_refl _) rfl (λy k2 h=> ?_) ?_
 .cases y with
  |top c=>
   have h1:(S.write b (some (.own v e e' (l.set i (.list (r.set n d)))))).hp.get c=some k2:=h
   rw [hg] at h1
   by_cases ec:c=b
   .rw [if_pos ec] at h1;cases h1
    refine .inr ⟨λh=>(by cases h),λh=>h,.own v e e' l,by rw [ec];exact hb,λz bk hB=> ?_⟩
    obtain ⟨cs',m,h1,h2,h3,h4,h5,h6⟩:=hB
    refine ⟨cs',m,h1,h2,h3,by rw [List.length_set];exact h4,h5,λj d' hj=> ?_⟩
    by_cases ej:i=j
    .subst ej
     rw [List.getElem?_set_self hi] at hj;cases hj
     rcases h6 i _ hl with ⟨q1,_⟩| ⟨_,q1⟩| ⟨r',q',y,c,q1,q2,q3,q4,q5,q6⟩
     .cases q1
     .cases q1
     .cases q1
      exact .inr (.inr ⟨_,q',y,c,rfl,q2,q3,q4,by rw [List.length_set];exact q5,by rw [List.length_set];exact q6⟩)
    .rw [List.getElem?_set,if_neg ej] at hj
     exact h6 j d' hj
   .rw [if_neg ec] at h1
    exact .inr ⟨λh=>(by cases h),λh=>h,k2,h1,λ_ _ h=>h⟩
  |sub w j=>
   obtain ⟨c,q1,q2,l1,r1,h1,h2,h3⟩:=h
   rw [hg] at h1
   have hW:∀b2 a1 a2 a3,(S.write b (some (.own v e e' (l.set i (.list (r.set n d)))))).hp.get b2=some (.own w a1 a2 a3)->S.ro<=b2->Wr S (.sub w j):=λb2 a1 a2 a3 w1 w2=>by
    rw [hg] at w1
    by_cases ec2:b2=b
    .rw [if_pos ec2] at w1;cases w1;exact ⟨b,_,_,_,hb,hro⟩
    .rw [if_neg ec2] at w1;exact ⟨b2,a1,a2,a3,w1,w2⟩
   by_cases ec:c=b
   .rw [if_pos ec] at h1;cases h1
    by_cases ej:i=j
    .subst ej
     rw [List.getElem?_set_self hi] at h2;cases h2
     exact .inl ⟨rfl,h3⟩
    .rw [List.getElem?_set,if_neg ej] at h2
     exact .inr ⟨λh=>(by cases h;exact ej rfl),λ⟨b2,a1,a2,a3,w1,w2⟩=>hW b2 a1 a2 a3 w1 w2,k2,⟨b,e,e',l,r1,hb,h2,h3⟩,λ_ _ h=>h⟩
   .rw [if_neg ec] at h1
    exact .inr ⟨λh=>(by cases h;exact ec (hr.vers.1 _ _ _ _ _ _ _ _ _ h1 hb)),λ⟨b2,a1,a2,a3,w1,w2⟩=>hW b2 a1 a2 a3 w1 w2,k2,⟨c,q1,q2,l1,r1,h1,h2,h3⟩,λ_ _ h=>h⟩
 .refine ⟨λc c' w e1 e2 l1 e3 e4 l2 q1 q2=> ?_,λc w e1 e2 l1 q=> ?_⟩
  .rw [hg] at q1 q2
   by_cases ec:c=b<;>by_cases ec2:c'=b
   .rw [ec,ec2]
   .rw [if_pos ec] at q1;rw [if_neg ec2] at q2;cases q1
    exact absurd (hr.vers.1 _ _ _ _ _ _ _ _ _ q2 hb) ec2
   .rw [if_neg ec] at q1;rw [if_pos ec2] at q2;cases q2
    exact absurd (hr.vers.1 _ _ _ _ _ _ _ _ _ q1 hb) ec
   .rw [if_neg ec] at q1;rw [if_neg ec2] at q2
    exact hr.vers.1 _ _ _ _ _ _ _ _ _ q1 q2
  .rw [hg] at q
   by_cases ec:c=b
   .rw [if_pos ec] at q;cases q;exact hr.vers.2 _ _ _ _ _ hb
   .rw [if_neg ec] at q;exact hr.vers.2 _ _ _ _ _ q
theorem SR.subNil (hr:SR P base H0 O J S F H) {b v i n:Nat} {e e':TypeId} {l:List D} (hb:S.hp.get b=some (.own v e e' l)) (hν:O (Bid.top b)=some (i,1)) (hro:S.ro<=b) (hn:n<l.length):
  ∃cs' m,H.get i=some (.cells cs' e 1 m false)/\zaj P e=some 1/\n<cs'.length/\SR P base H0 O J (S.write b (some (.own v e e' (l.set n .nil)))) F ((H.kill (H.mate i)).write i (some (.cells (cs'.set n (.slice none 0 0)) e 1 none false))):=by
 obtain ⟨i',z',hν',hB⟩:=hr.blkT _ _ hb
 rw [hν] at hν';cases hν'
 obtain ⟨cs',m,h1,h2,h3,h4,h5,h6⟩:=hB
 rw [Nat.mul_one] at h4
 have hg:∀c,(S.write b (some (.own v e e' (l.set n .nil)))).hp.get c=if c=b then some (.own v e e' (l.set n .nil)) else S.hp.get c:=λc=>T.get_put _ _ _ _
 refine ⟨cs',m,h1,h2,by omega,hr.writeG (x:= .top b) (k:= .own v e e' l) hb hν hro (k':= .own v e e' (l.set n .nil)) ⟨_,none,rfl,h2,h3,by rw [List.length_set,List.length_set,h4,Nat.mul_one],zko h5 rfl,λj d hj=> ?_⟩ rfl rfl (Nat.le_refl _) rfl (λy k2 h=> ?_) ?_⟩
 .by_cases ej:n=j
  .subst ej
   rw [List.getElem?_set_self hn] at hj;cases hj
   exact .inl ⟨rfl,rfl,λ_=>List.getElem?_set_self (by omega)⟩
  .rw [List.getElem?_set,if_neg ej] at hj
   rcases h6 j d hj with ⟨q1,q2,q3⟩|q1| ⟨r',q',y,c,q1,q2,q3,q4,q5,q6⟩
   .exact .inl ⟨q1,q2,λhs=>by rw [List.getElem?_set,if_neg ej];exact q3 hs⟩
   .exact .inr (.inl q1)
   .exact .inr (.inr ⟨_,q',y,c,q1,q2,q3,q4,by rw [List.getElem?_set,if_neg ej];exact q5,q6⟩)
 .cases y with
  |top c=>
   have h1:(S.write b (some (.own v e e' (l.set n .nil)))).hp.get c=some k2:=h
   rw [hg] at h1
   by_cases ec:c=b
   .rw [if_pos ec] at h1;cases h1;exact .inl ⟨by rw [ec],rfl⟩
   .rw [if_neg ec] at h1;exact .inr ⟨Bid.top_ne ec,λh=>h,k2,h1,λ_ _ h=>h⟩
  |sub w j=>
   obtain ⟨c,q1,q2,l1,r1,h1,h2,h3⟩:=h
   rw [hg] at h1
   refine .inr ⟨λh=>(by cases h),λ⟨b2,a1,a2,a3,w1,w2⟩=> ?_,k2, ?_,λ_ _ h=>h⟩
   .rw [hg] at w1
    by_cases ec2:b2=b
    .rw [if_pos ec2] at w1;cases w1;exact ⟨b,_,_,_,hb,hro⟩
    .rw [if_neg ec2] at w1;exact ⟨b2,a1,a2,a3,w1,w2⟩
   .by_cases ec:c=b
    .rw [if_pos ec] at h1;cases h1
     by_cases ej:n=j
     .subst ej;rw [List.getElem?_set_self hn] at h2;cases h2
     .rw [List.getElem?_set,if_neg ej] at h2;exact ⟨b,e,e',l,r1,hb,h2,h3⟩
    .rw [if_neg ec] at h1;exact ⟨c,q1,q2,l1,r1,h1,h2,h3⟩
 .refine ⟨λc c' w e1 e2 l1 e3 e4 l2 q1 q2=> ?_,λc w e1 e2 l1 q=> ?_⟩
  .rw [hg] at q1 q2
   by_cases ec:c=b<;>by_cases ec2:c'=b
   .rw [ec,ec2]
   .rw [if_pos ec] at q1;rw [if_neg ec2] at q2;cases q1
    exact absurd (hr.vers.1 _ _ _ _ _ _ _ _ _ q2 hb) ec2
   .rw [if_neg ec] at q1;rw [if_pos ec2] at q2;cases q2
    exact absurd (hr.vers.1 _ _ _ _ _ _ _ _ _ q1 hb) ec
   .rw [if_neg ec] at q1;rw [if_neg ec2] at q2
    exact hr.vers.1 _ _ _ _ _ _ _ _ _ q1 q2
  .rw [hg] at q
   by_cases ec:c=b
   .rw [if_pos ec] at q;cases q;exact hr.vers.2 _ _ _ _ _ hb
   .rw [if_neg ec] at q;exact hr.vers.2 _ _ _ _ _ q
theorem zg5 {t:TypeId} {a x:V} {a' x':Value} (hr:SR P base H0 O J S F H) (h:zf8 P S t a x K) (ha:zam P J O a a') (hx:zam P J O x x'):OpR P base H0 O J S F (zbt P t a' x' H) K:=by
 have hxc:=hx.cells
 unfold zf8 at h
 split at h
 .rename_i b o
  cases ha with
  |ptr hν=>
  rename_i i z
  split at h
  .rename_i e cs s hb hs
   cases hc:(Nat.ble S.ro b&&Nat.beq x.cells.length s&&Nat.ble (o+s) cs.length&&x.cells.all V.one) with
   |false=>rw [hc] at h;exact h.elim
   |true=>
    rw [hc] at h
    simp only [Bool.and_eq_true] at hc
    obtain ⟨⟨⟨c1,c2⟩,c3⟩,c4⟩:=hc
    have c1:=Nat.le_of_ble_eq_true c1
    have c2:=Nat.eq_of_beq_eq_true c2
    have c3:=Nat.le_of_ble_eq_true c3
    obtain ⟨i',z',hν',hB⟩:=hr.blkT _ _ hb
    rw [hν] at hν';cases hν'
    obtain ⟨cs',m,hg,hl⟩:=hB
    have hlen:x'.cells.toList.length=s:=by rw [<-hxc.1,c2]
    have hw:=zaM (o:=o) hg (by rw [hlen,<-hl.1];exact c3) (hxc.one c4)
    have hst:zbt P t (.pointer (some ⟨i,o,none⟩)) x' H=some (undef,(H.kill (H.mate i)).write i (some (.cells (zaZ cs' o x'.cells.toList) e 0 none false))):=by
     unfold zbt zdz
     have:Nat.beq x'.cells.size s=true:=by rw [show x'.cells.size=s by rw [<-hlen];simp];exact Nat.beq_refl s
     simp only [hs,this,cond_true,hw]
    rw [hst]
    refine ⟨_,_,rfl,.val undef,_,O,J,h,hr.write hb hν c1 ?_,.undef,.refl _,.refl _,rfl,.write _ _ _ c1⟩
    refine ⟨_,none,rfl, ?_⟩
    unfold zaZ
    rw [<-hxc.1]
    exact ((hl.take o).append hxc).append (hl.drop _)
  .rename_i a e l s hb hs
   split at h
   .rename_i ds hds
    cases hc:(Nat.beq o 0&&Nat.beq a t&&zbH P e&&zay P e 1&&Nat.ble S.ro b&&Nat.beq ds.length s&&Nat.beq s l.length) with
    |false=>rw [hc] at h;exact h.elim
    |true=>
     rw [hc] at h
     simp only [Bool.and_eq_true] at hc
     obtain ⟨⟨⟨⟨⟨⟨c1,c2⟩,c3⟩,c4⟩,c5⟩,c6⟩,c7⟩:=hc
     have c1:=Nat.eq_of_beq_eq_true c1
     have c2:=Nat.eq_of_beq_eq_true c2
     subst c1;subst c2
     have c5:=Nat.le_of_ble_eq_true c5
     have c6:=Nat.eq_of_beq_eq_true c6
     have hu:P.underlying e=some .bool:=by unfold zbH at c3;split at c3<;>simp_all
     have hs1:=zaw c4
     have hrow:=zhk hu hs1 _ _ _ hds hxc
     obtain ⟨i',z',hν',hB⟩:=hr.blkT _ _ hb
     rw [hν] at hν';cases hν'
     obtain ⟨cs',m,hg,hsz,h0,hlen,hrd⟩:=hB
     have hz:z=1:=by rw [hs1] at hsz;exact (Option.some.inj hsz).symm
     subst hz
     have hxl:x'.cells.toList.length=s:=by rw [hrow.1,Nat.mul_one,c6]
     have hle:s=l.length:=Nat.eq_of_beq_eq_true c7
     have hw:=zaM (o:=0) hg (by rw [hxl,hle,hlen];omega) hrow.one
     have hst:zbt P a (.pointer (some ⟨i,0,none⟩)) x' H=some (undef,(H.kill (H.mate i)).write i (some (.cells x'.cells.toList a 0 none false))):=by
      have e1:zaZ cs' 0 x'.cells.toList=x'.cells.toList:=by
       unfold zaZ
       rw [List.take_zero,List.nil_append,Nat.zero_add,List.drop_eq_nil_of_le (by rw [hxl,hlen,hle];omega),List.append_nil]
      rw [e1] at hw
      unfold zbt zdz
      have:Nat.beq x'.cells.size s=true:=by rw [show x'.cells.size=s by rw [<-hxl];simp];exact Nat.beq_refl s
      simp only [hs,this,cond_true,hw]
     rw [hst]
     refine ⟨_,_,rfl,.val undef,_,O,J,h,hr.write hb hν c5 ?_,.undef,.refl _,.refl _,rfl,.write _ _ _ c5⟩
     exact .grd hs1 (by omega) hrow
   .exact h.elim
  .exact h.elim
 .rename_i b n
  cases ha with
  |ept hν=>
  rename_i i z
  split at h
  .rename_i e l hb
   cases hc:(Nat.beq e t&&Nat.ble S.ro b) with
   |false=>rw [hc] at h;exact h.elim
   |true=>
    rw [hc] at h
    simp only [Bool.and_eq_true] at hc
    obtain ⟨c1,c2⟩:=hc
    have c1:=Nat.eq_of_beq_eq_true c1
    subst c1
    have c2:=Nat.le_of_ble_eq_true c2
    simp only [cond_true] at h
    split at h
    .rename_i d hd
     obtain ⟨hlt,h⟩:=h
     obtain ⟨i',z',hν',hB⟩:=hr.blkT _ _ hb
     rw [hν] at hν';cases hν'
     obtain ⟨cs',m,hg,hs,h0,hlen,hrd⟩:=hB
     have hR:=zb0 _ _ _ _ _ hd hxc
     have hxl:x'.cells.toList.length=z:=by have:=hR.size;rw [hs] at this;exact (Option.some.inj this).symm
     have hm:n.v*z+z<=l.length*z:=by rw [<-Nat.succ_mul];exact Nat.mul_le_mul_right z hlt
     have hw:=zaM (o:=n.v*z) hg (by rw [hxl];omega) hR.one
     have hst:zbt P e (.pointer (some ⟨i,n.v*z,none⟩)) x' H=some (undef,(H.kill (H.mate i)).write i (some (.cells (zaZ cs' (n.v*z) x'.cells.toList) e z none false))):=by
      unfold zbt zdz
      have:Nat.beq x'.cells.size z=true:=by rw [show x'.cells.size=z by rw [<-hxl];simp];exact Nat.beq_refl z
      simp only [hs,this,cond_true,hw]
     rw [hst]
     refine ⟨_,_,rfl,.val undef,_,O,J,h,hr.write hb hν c2 ?_,.undef,.refl _,.refl _,rfl,.write _ _ _ c2⟩
     exact .arr hs h0 (zbb.set ⟨hlen,hrd⟩ hlt hR hxl)
    .exact zj7 hr h hb hν (λhp=> .inr ⟨rfl,hp⟩) hx
  .rename_i a e l hb
   cases hc:(Nat.beq e t&&Nat.ble S.ro b) with
   |false=>rw [hc] at h;exact h.elim
   |true=>
    rw [hc] at h
    simp only [Bool.and_eq_true] at hc
    obtain ⟨c1,c2⟩:=hc
    have c1:=Nat.eq_of_beq_eq_true c1
    subst c1
    have c2:=Nat.le_of_ble_eq_true c2
    simp only [cond_true] at h
    split at h
    .rename_i d hd
     obtain ⟨hlt,h⟩:=h
     obtain ⟨i',z',hν',hB⟩:=hr.blkT _ _ hb
     rw [hν] at hν';cases hν'
     obtain ⟨cs',m,hg,hs,h0,hlen,hrd⟩:=hB
     have hR:=zb0 _ _ _ _ _ hd hxc
     have hxl:x'.cells.toList.length=z:=by have:=hR.size;rw [hs] at this;exact (Option.some.inj this).symm
     have hm:n.v*z+z<=l.length*z:=by rw [<-Nat.succ_mul];exact Nat.mul_le_mul_right z hlt
     have hw:=zaM (o:=n.v*z) hg (by rw [hxl];omega) hR.one
     have hst:zbt P e (.pointer (some ⟨i,n.v*z,none⟩)) x' H=some (undef,(H.kill (H.mate i)).write i (some (.cells (zaZ cs' (n.v*z) x'.cells.toList) a 0 none false))):=by
      unfold zbt zdz
      have:Nat.beq x'.cells.size z=true:=by rw [show x'.cells.size=z by rw [<-hxl];simp];exact Nat.beq_refl z
      simp only [hs,this,cond_true,hw]
     rw [hst]
     refine ⟨_,_,rfl,.val undef,_,O,J,h,hr.write hb hν c2 ?_,.undef,.refl _,.refl _,rfl,.write _ _ _ c2⟩
     exact .grd hs h0 (zbb.set ⟨hlen,hrd⟩ hlt hR hxl)
    .exact h.elim
  .rename_i w e e' l hb
   cases hc:(Nat.beq e t&&Nat.ble S.ro b) with
   |false=>rw [hc] at h;exact h.elim
   |true=>
    rw [hc] at h
    simp only [Bool.and_eq_true] at hc
    obtain ⟨c1,c2⟩:=hc
    have c1:=Nat.eq_of_beq_eq_true c1
    subst c1
    have c2:=Nat.le_of_ble_eq_true c2
    simp only [cond_true] at h
    split at h
    .obtain ⟨hsz,hlt,h⟩:=h
     have hsz:zay P e 1=true:=hsz
     cases hx with
     |val _=>
     obtain ⟨i',z',hν',hB⟩:=hr.blkT _ _ hb
     rw [hν] at hν';cases hν'
     have hz:z=1:=by
      obtain ⟨_,_,_,hs,_⟩:=hB
      rw [zaw hsz] at hs;exact (Option.some.inj hs).symm
     subst hz
     obtain ⟨cs',m,hg,hs,hlc,hr'⟩:=hr.subNil hb hν c2 hlt
     have hw:=zaM (o:=n.v) (vs:= [.slice none 0 0]) hg (by show n.v+1<=_;exact hlc) rfl
     rw [zhB hlc] at hw
     have hst:zbt P e (.pointer (some ⟨i,n.v*1,none⟩)) (.slice none 0 0) H=some (undef,(H.kill (H.mate i)).write i (some (.cells (cs'.set n.v (.slice none 0 0)) e 1 none false))):=by
      unfold zbt zdz
      simp only [hs,Nat.mul_one,Value.cells]
      have:Nat.beq (#[Value.slice none 0 0]:Array Value).size 1=true:=rfl
      simp only [this,cond_true,hw]
     rw [hst]
     exact ⟨_,_,rfl,.val undef,_,O,J,h,hr',.undef,.refl _,.refl _,rfl,.write _ _ _ c2⟩
    .exact zj7 hr h hb hν (λ_=> .inl ⟨_,_,rfl⟩) hx
  .exact h.elim
 .rename_i b w n k
  cases ha with
  |oel hν=>
  rename_i q z
  split at h
  .rename_i v' e e' l hb
   cases hc:(Nat.beq w v'&&Nat.beq e' t&&Nat.ble S.ro b) with
   |false=>rw [hc] at h;exact h.elim
   |true=>
    rw [hc] at h
    simp only [Bool.and_eq_true] at hc
    obtain ⟨⟨c1,c2⟩,c3⟩:=hc
    have c1:=Nat.eq_of_beq_eq_true c1
    have c2:=Nat.eq_of_beq_eq_true c2
    subst c1 c2
    have c3:=Nat.le_of_ble_eq_true c3
    simp only [cond_true] at h
    split at h
    .rename_i d hd
     obtain ⟨hlt,hkt,h⟩:=h
     have hd1:l[n.v]? =some (zad l n.v):=by simp [zad,hlt]
     obtain ⟨r,hr1⟩:∃r,zad l n.v= .list r:=by
      cases hc:zad l n.v<;>rw [hc] at hkt<;>first|exact ⟨_,rfl⟩| (simp [D.len,D.asList] at hkt)
     rw [hr1] at hd1 hkt h
     have hkt:k.v<r.length:=hkt
     obtain ⟨i',z',hν',hB⟩:=hr.blk (.sub w n.v) (.arr e' r) ⟨b,e,e',l,r,hb,hd1,rfl⟩
     rw [hν] at hν';cases hν'
     obtain ⟨cs',m,hg,hs,h0,hlen,hrd⟩:=hB
     have hR:=zb0 _ _ _ _ _ hd hxc
     have hxl:x'.cells.toList.length=z:=by have:=hR.size;rw [hs] at this;exact (Option.some.inj this).symm
     have hm:k.v*z+z<=r.length*z:=by rw [<-Nat.succ_mul];exact Nat.mul_le_mul_right z hkt
     have hw:=zaM (o:=k.v*z) hg (by rw [hxl];omega) hR.one
     have hst:zbt P e' (.pointer (some ⟨q,k.v*z,none⟩)) x' H=some (undef,(H.kill (H.mate q)).write q (some (.cells (zaZ cs' (k.v*z) x'.cells.toList) e' z none false))):=by
      unfold zbt zdz
      have:Nat.beq x'.cells.size z=true:=by rw [show x'.cells.size=z by rw [<-hxl];simp];exact Nat.beq_refl z
      simp only [hs,this,cond_true,hw]
     rw [hst]
     exact ⟨_,_,rfl,.val undef,_,O,J,h,hr.subWrite hb c3 hd1 hν hkt (.arr hs h0 (zbb.set ⟨hlen,hrd⟩ hkt hR hxl)),.undef,.refl _,.refl _,rfl,.write _ _ _ c3⟩
    .exact h.elim
  .exact h.elim
 .exact h.elim
theorem za2 {cs:List Value} {e:TypeId} {esz:Nat} (h1:cs.all zar=true) (H:zaa):zcp H cs e esz=some (H.next,H.alloc (.cells cs e esz none false)):=by
 unfold zcp
 rw [h1]
 simp only [cond_true,zaO]
theorem zqF {e:TypeId} {x:V} {x':Value} (hr:SR P base H0 O J S F H) (h:zqE S e x K) (hx:zam P J O x x'):OpR P base H0 O J S F (zt5 e x' H) K:=by
 unfold zqE at h
 cases hc:x.cells.all V.one with
 |false=>rw [hc] at h;exact h.elim
 |true=>
  rw [hc] at h
  have hxc:=hx.cells
  unfold zt5
  rw [za2 (hxc.one hc)]
  refine ⟨_,_,rfl,_,_,_,J,h,hr.alloc (z:=0) (k:= .box e x.cells) (λO' hν=>⟨_,none,rfl,hxc.mono (.refl _) hν⟩),.ptr (if_pos rfl),zfy _ _ _,.refl _,rfl,.alloc _ _⟩
theorem zbw {z:Value} (h:Ev.flat z=true):z.cells.toList.all zaD=true:=by
 cases z with
 |agg cs=>simpa [Ev.flat,Value.cells] using h
 |_=>simpa [Ev.flat,Value.cells] using h
theorem zgv {l:List Value} (h:l.all zaD=true):l.all zar=true:=by
 rw [List.all_eq_true] at h⊢
 intro v hv
 have:=h v hv
 cases v<;>simp_all [zaD,zar]
theorem znT:∀(l:List Value),zvV l=true->l=(List.replicate l.length [Value.int .i64 0]).flatten
 | [],_=>rfl
 |v::l,h=>by
  unfold zvV at h
  split at h
  .rename_i h';cases h'
  .rename_i l' h'
   cases h'
   have:=znT l h
   rw [List.length_cons,List.replicate_succ,List.flatten_cons,<-this];rfl
  .cases h
theorem znS:∀(l:List Value),zvU l=true->l=(List.replicate l.length [Value.bool false]).flatten
 | [],_=>rfl
 |v::l,h=>by
  unfold zvU at h
  split at h
  .rename_i h';cases h'
  .rename_i l' h'
   cases h'
   have:=znS l h
   rw [List.length_cons,List.replicate_succ,List.flatten_cons,<-this];rfl
  .cases h
theorem zk6 {sm:Bool} {e:TypeId} (hr:SR P base H0 O J S F H) (h:ziv P sm S e K):OpR P base H0 O J S F (zgd P e H) K:=by
 unfold ziv at h
 split at h
 .rename_i z hz
  split at h
  .rename_i t n hat
   cases hc:(Ev.flat z&&zvV z.cells.toList&&Nat.beq z.cells.toList.length n&&zpy P t&&zay P t 1) with
   |false=>rw [hc] at h;exact h.elim
   |true=>
    rw [hc] at h
    simp only [Bool.and_eq_true] at hc
    obtain ⟨⟨⟨⟨c1,c2⟩,c3⟩,c4⟩,c5⟩:=hc
    have c3:=Nat.eq_of_beq_eq_true c3
    have c5:=zaw c5
    have hu:P.underlying t=some (.int .i64):=by unfold zpy at c4;split at c4<;>simp_all
    have hrow:zbb P J t 1 (List.replicate n (.int 0)) z.cells.toList:=by
     have:=zbb.rep (P:=P) (J:=J) (e:=t) (z:=1) (d:= .int 0) (cs:= [.int .i64 0]) (.int hu c5) rfl n
     rw [<-c3] at this⊢
     rw [<-znT _ c2] at this
     exact this
    unfold zgd
    simp only [hz,c1,cond_true]
    rw [za2 (zgv (zbw c1))]
    refine ⟨_,_,rfl,_,_,_,J,h,hr.alloc (z:=1) (k:= .grd e t (List.replicate n (.int 0))) (λO' hν=> .grd c5 (by omega) hrow),.ptr (if_pos rfl),zfy _ _ _,.refl _,rfl,.alloc _ _⟩
  .split at h
   .rename_i t n hat
    cases hc:(Ev.flat z&&zvU z.cells.toList&&Nat.beq z.cells.toList.length n&&zbH P t&&zay P t 1) with
    |false=>rw [hc] at h;exact h.elim
    |true=>
     rw [hc] at h
     simp only [Bool.and_eq_true] at hc
     obtain ⟨⟨⟨⟨c1,c2⟩,c3⟩,c4⟩,c5⟩:=hc
     have c3:=Nat.eq_of_beq_eq_true c3
     have c5:=zaw c5
     have hu:P.underlying t=some .bool:=by unfold zbH at c4;split at c4<;>simp_all
     have hrow:zbb P J t 1 (List.replicate n (.bool False)) z.cells.toList:=by
      have hb:zan P J t (.bool False) [.bool false]:=by
       have:=zan.bool (P:=P) (J:=J) (p:=False) hu c5
       rw [zbp (λh=>h)] at this
       exact this
      have:=zbb.rep (P:=P) (J:=J) (e:=t) (z:=1) hb rfl n
      rw [<-c3] at this⊢
      rw [<-znS _ c2] at this
      exact this
     unfold zgd
     simp only [hz,c1,cond_true]
     rw [za2 (zgv (zbw c1))]
     refine ⟨_,_,rfl,_,_,_,J,h,hr.alloc (z:=1) (k:= .grd e t (List.replicate n (.bool False))) (λO' hν=> .grd c5 (by omega) hrow),.ptr (if_pos rfl),zfy _ _ _,.refl _,rfl,.alloc _ _⟩
   .cases hc:Ev.flat z with
    |false=>rw [hc] at h;exact h.elim
    |true=>
     rw [hc] at h
     unfold zgd
     simp only [hz,hc,cond_true]
     rw [za2 (zgv (zbw hc))]
     refine ⟨_,_,rfl,_,_,_,J,h,hr.alloc (z:=0) (k:= .box e (z.cells.toList.map .val)) (λO' hν=>⟨_,none,rfl,zaN.vals (zbw hc)⟩),.ptr (if_pos rfl),zfy _ _ _,.refl _,rfl,.alloc _ _⟩
 .exact h.elim
end
end Go.Ev
