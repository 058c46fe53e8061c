/- Part of the proof. -/
import Derived.Test.YtdojhafbgoimeaaGreatDoorCoreSeY

namespace Go.Ev
section
variable {P:Program} {base:Nat} {H0:zaa×Sig} {O:Nu} {J:Sig} {F:zab} {H:zaa}
theorem T.all_node {α:Type} {p:Nat->α->Bool} (l:T α) (v0:Option α) (r:T α) (f:Nat->Nat):T.all p (.node l v0 r) f=((match v0 with|some a=>p (f 0) a|none=>true)&&T.all p l (λn=>f (2*n+1))&&T.all p r (λn=>f (2*n+2))):=rfl
theorem zkp (ren:Nat->Nat) (v v0:V) (cs cs0:List V):zfA.vs ren (v::cs) (v0::cs0)=(ziR ren v v0/\zfA.vs ren cs cs0):=rfl
theorem T.all_get {α:Type} {p:Nat->α->Bool}:∀(t:T α) (f:Nat->Nat),T.all p t f=true->∀n v,t.get n=some v->p (f n) v=true
 | .leaf,f,_,n,v,h=>by cases h
 | .node l v0 r,f,hp,n,v,h=>by
  rw [T.all_node] at hp
  simp only [Bool.and_eq_true] at hp
  rw [T.get_node] at h
  by_cases h0:n=0
  .rw [if_pos h0] at h;subst h h0;exact hp.1.1
  .rw [if_neg h0] at h
   by_cases h1:n%2=1
   .rw [if_pos h1] at h
    have:=T.all_get l _ hp.1.2 _ _ h
    rwa [show 2*(n/2)+1=n by omega] at this
   .rw [if_neg h1] at h
    have:=T.all_get r _ hp.2 _ _ h
    rwa [show 2*(n/2-1)+2=n by omega] at this
theorem T.toL_node {α:Type} (l:T α) (v0:Option α) (r:T α):(T.node l v0 r).toL=l.toL++(v0.toList++r.toL):=rfl
theorem T.mem_toL {α:Type}:∀(t:T α) (n:Nat) (v:α),t.get n=some v->v∈t.toL
 | .leaf,n,v,h=>by cases h
 | .node l v0 r,n,v,h=>by
  rw [T.toL_node]
  rw [T.get_node] at h
  by_cases h0:n=0
  .rw [if_pos h0] at h;subst h;simp
  .rw [if_neg h0] at h
   by_cases h1:n%2=1
   .rw [if_pos h1] at h
    exact List.mem_append_left _ (T.mem_toL l _ _ h)
   .rw [if_neg h1] at h
    exact List.mem_append_right _ (List.mem_append_right _ (T.mem_toL r _ _ h))
theorem zc2:∀{l:List V} {v:V} {r:Nat},v∈l->r∈v.refs->r∈V.refs.refsL l
 |w::l,v,r,hv,hr=>by
  simp only [V.refs.refsL,List.mem_append]
  rcases List.mem_cons.1 hv with rfl|hv
  .exact .inl hr
  .exact .inr (zc2 hv hr)
theorem zam.renu {v:V} {v':Value} (h:zam P J O v v') {O2:Nu} (hr:∀x:Bid,x.id∈v.refs->O2 x=O x):zam P J O2 v v':=by
 induction h with
 |val h=>exact .val h
 |undef=>exact .undef
 |int=>exact .int
 |prop=>exact .prop
 |str=>exact .str
 |agg h1 _ ih=>exact .agg h1 λj v v' a b=>ih j v v' a b λr hm=>hr r (by simp only [V.refs];exact zc2 (List.mem_of_getElem? a) hm)
 |tup h1 _ ih=>exact .tup h1 λj v v' a b=>ih j v v' a b λr hm=>hr r (by simp only [V.refs];exact zc2 (List.mem_of_getElem? a) hm)
 |ptr h=>exact .ptr (by rw [hr _ (by simp [V.refs,Bid.id])];exact h)
 |ept h=>exact .ept (by rw [hr _ (by simp [V.refs,Bid.id])];exact h)
 |epf h hu hf=>exact .epf (by rw [hr _ (by simp [V.refs,Bid.id])];exact h) hu hf
 |slcU h=>exact .slcU (by rw [hr _ (by simp [V.refs,Bid.id])];exact h)
 |osl h hc=>exact .osl (by rw [hr _ (by simp [V.refs,Bid.id])];exact h) hc
 |oel h=>exact .oel (by rw [hr _ (by simp [V.refs,Bid.id])];exact h)
 |yld h=>exact .yld (by rw [hr _ (by simp [V.refs,Bid.id])];exact h)
 |slc h hc hn ho=>exact .slc (by rw [hr _ (by simp [V.refs,Bid.id])];exact h) hc hn ho
 |dat a b=>exact .dat a b
 |dpt a b c d e=>exact .dpt a b c d e
 |fndN=>exact .fndN
 |fnd a b c d e f=>exact .fnd a b c d e f
 |fn h1 _ h3 _ ih2 ih4=>
  exact .fn h1 (λj v v' a b=>ih2 j v v' a b λr hm=>hr r (by simp only [V.refs,List.mem_append];exact .inl (zc2 (List.mem_of_getElem? a) hm)))
   h3 (λj v v' a b=>ih4 j v v' a b λr hm=>hr r (by simp only [V.refs,List.mem_append];exact .inr (zc2 (List.mem_of_getElem? a) hm)))
theorem zdf.renu {z:Nat} {k:SB} {bk:Option ABk} (h:zdf P J O z k bk) {O2:Nu} (hr:∀x:Bid,x.id∈k.refs->O2 x=O x):zdf P J O2 z k bk:=by
 cases k with
 |box e cs=>
  obtain ⟨cs',m,h1,h2⟩:=h
  exact ⟨cs',m,h1,h2.1,λj v v' a b=>(h2.2 j v v' a b).renu λr hm=>hr r (by simp only [SB.refs];exact zc2 (List.mem_of_getElem? a) hm)⟩
 |arr e l=>exact h
 |grd a e l=>exact h
 |dfr=>exact h
 |lp st g fr sz ps as bd=>
  obtain ⟨F0,h1,h2,h3,h4⟩:=h
  exact ⟨F0,h1,h2,h3,λt v ht=>(h4 t v ht).renu λr hm=>hr r (by simp only [SB.refs];exact zc2 (T.mem_toL fr t v ht) hm)⟩
 |own v e e' l=>
  obtain ⟨cs',m,h1,h2,h3,h4,h5,h6⟩:=h
  refine ⟨cs',m,h1,h2,h3,h4,h5,λj d hj=> ?_⟩
  rcases h6 j d hj with q|q| ⟨r,q,y,c,q1,q2,q3,q4,q5⟩
  .exact .inl q
  .exact .inr (.inl q)
  .exact .inr (.inr ⟨r,q,y,c,q1,q2,q3,by rw [hr _ (by simp [SB.refs,Bid.id])];exact q4,q5⟩)
theorem zdm {α:Type}:∀(l:List Nat) (t:T α) (n:Nat),(zbF l t).get n=if n∈l then none else t.get n
 | [],t,n=>by simp [zbF]
 |a::l,t,n=>by
  show (zbF l (t.put a none)).get n=_
  rw [zdm l,T.get_put]
  by_cases h1:n∈l
  .simp [h1]
  .by_cases h2:n=a<;>simp [h1,h2]
theorem zcS {α:Type}:∀(l:List (Nat×α)) (t:T α) (n:Nat),(∃v,(n,v)∈l/\(zd7 l t).get n=some v)\/((∀v,(n,v)∉l)/\(zd7 l t).get n=t.get n)
 | [],t,n=> .inr ⟨by simp,rfl⟩
 | (a,u)::l,t,n=>by
  rcases zcS l (t.put a (some u)) n with ⟨v,h1,h2⟩| ⟨h1,h2⟩
  .exact .inl ⟨v,List.mem_cons_of_mem _ h1,h2⟩
  .by_cases e:n=a
   .subst e
    refine .inl ⟨u,List.mem_cons_self, ?_⟩
    show (zd7 l (t.put n (some u))).get n=_
    rw [h2,T.get_put,if_pos rfl]
   .refine .inr ⟨λv hv=> ?_, ?_⟩
    .rcases List.mem_cons.1 hv with h|h
     .cases h;exact e rfl
     .exact h1 v h
    .show (zd7 l (t.put a (some u))).get n=_
     rw [h2,T.get_put,if_neg e]
theorem zsQ (k:SB) (n:Nat):n<=zq6 k n/\∀v e e' l,k= .own v e e' l->v<zq6 k n:=by
 unfold zq6
 split
 .rename_i v e e' l
  cases h:Nat.ble n v with
  |true=>have:=Nat.le_of_ble_eq_true h;exact ⟨by simp only [cond_true];omega,λ_ _ _ _ he=>by cases he;simp only [cond_true];omega⟩
  |false=>
   have:¬n<=v:=λhle=>by rw [Nat.ble_eq_true_of_le hle] at h;cases h
   exact ⟨by simp only [cond_false];omega,λ_ _ _ _ he=>by cases he;simp only [cond_false];omega⟩
 .rename_i hn
  exact ⟨Nat.le_refl _,λv e e' l he=>absurd he (hn v e e' l)⟩
theorem zdN:∀(l:List (Nat×SB)) (n:Nat),n<=zni l n/\(∀x∈l,x.1<zni l n)/\∀x∈l,∀v e e' r,x.2= .own v e e' r->v<zni l n
 | [],n=>⟨Nat.le_refl _,by simp,by simp⟩
 |x::l,n=>by
  simp only [zni]
  have h0:n<=cond (Nat.ble n x.1) (Nat.succ x.1) n/\x.1<cond (Nat.ble n x.1) (Nat.succ x.1) n:=by
   cases h:Nat.ble n x.1 with
   |true=>have:=Nat.le_of_ble_eq_true h;simp only [cond_true];omega
   |false=>
    have:¬n<=x.1:=λhle=>by rw [Nat.ble_eq_true_of_le hle] at h;cases h
    simp only [cond_false];omega
  generalize cond (Nat.ble n x.1) (Nat.succ x.1) n=n1 at h0⊢
  obtain ⟨u1,u2⟩:=zsQ x.2 n1
  obtain ⟨q1,q2,q3⟩:=zdN l (zq6 x.2 n1)
  refine ⟨by omega,λy hy=> ?_,λy hy v e e' r he=> ?_⟩
  .rcases List.mem_cons.1 hy with rfl|hy
   .omega
   .exact q2 y hy
  .rcases List.mem_cons.1 hy with rfl|hy
   .have:=u2 _ _ _ _ he;omega
   .exact q3 y hy v e e' r he
theorem zfv {v v0:V} {v':Value} (hm:zcf v v0) (h:zam P J O v v') (hns:∀b o n c,v0≠ .slc b o n c) {O2:Nu} (hr:∀x:Bid,x.id∈v0.refs->O2 x=O x):zam P J O2 v0 v':=by
 unfold zcf at hm
 split at hm
 .split at hm
  .rename_i k0 n0 _ k n hi
   cases hk:(k==k0) with
   |false=>rw [hk] at hm;exact hm.elim
   |true=>
    rw [hk] at hm
    have:=eq_of_beq hk
    subst this
    rw [zaL hi h,show n=n0 from hm]
    exact .int
  .exact hm.elim
 .split at hm
  .rename_i p0 _ p hp
   rw [zcQ hp h,zby (p:=p) (b:=dec p0)]
   .exact .prop
   .have:p↔p0:=hm
    by_cases h0:p0
    .simp [zb1 h0,this.2 h0]
    .exact ⟨λh=>(by rw [zbp h0] at h;cases h),λhp=>absurd (this.1 hp) h0⟩
  .exact hm.elim
 .split at hm
  .rename_i s hs
   rw [zc6 hs h,show s=_ from hm]
   exact .str
  .exact hm.elim
 .split at hm
  .rename_i t0 d0 _ t d
   cases ht:Nat.beq t t0 with
   |false=>rw [ht] at hm;exact hm.elim
   |true=>
    rw [ht] at hm
    rw [<-Nat.eq_of_beq_eq_true ht,<-show d=d0 from hm]
    exact h.renu λr hm=>by simp [V.refs] at hm
  .exact hm.elim
 .split at hm
  .rename_i t0 d0 _ t d
   cases ht:Nat.beq t t0 with
   |false=>rw [ht] at hm;exact hm.elim
   |true=>
    rw [ht] at hm
    rw [<-Nat.eq_of_beq_eq_true ht,<-show d=d0 from hm]
    exact h.renu λr hm=>by simp [V.refs] at hm
  .exact hm.elim
 .split at hm
  .rename_i t0 d0 _ t d
   cases ht:Nat.beq t t0 with
   |false=>rw [ht] at hm;exact hm.elim
   |true=>
    rw [ht] at hm
    rw [<-Nat.eq_of_beq_eq_true ht,<-show d=d0 from hm]
    exact h.renu λr hm=>by simp [V.refs] at hm
  .exact hm.elim
 .split at hm
  .exact h.renu λr hm=>by simp [V.refs] at hm
  .exact hm.elim
 .split at hm
  .exact h.renu λr hm=>by simp [V.refs] at hm
  .exact hm.elim
 .split at hm
  .rename_i k0 n0 _ k n
   cases hk:(k==k0) with
   |false=>rw [hk] at hm;exact hm.elim
   |true=>
    rw [hk] at hm
    have:=eq_of_beq hk
    subst this
    rw [<-show n=n0 from hm]
    exact h.renu λr hm=>by simp [V.refs] at hm
  .exact hm.elim
 .split at hm
  .rename_i b0 o0 _ b o
   cases hb:(Nat.beq b b0&&Nat.beq o o0) with
   |false=>rw [hb] at hm;exact hm.elim
   |true=>
    simp only [Bool.and_eq_true] at hb
    rw [<-Nat.eq_of_beq_eq_true hb.1,<-Nat.eq_of_beq_eq_true hb.2] at hr⊢
    exact h.renu hr
  .exact hm.elim
 .rename_i b o n c
  exact absurd rfl (hns b o n c)
 .split at hm
  .rename_i b0 v0 i0 n0 _ b w i n
   cases hb:(Nat.beq b b0&&Nat.beq w v0) with
   |false=>rw [hb] at hm;exact hm.elim
   |true=>
    rw [hb] at hm
    obtain ⟨h1,h2⟩:=hm
    simp only [Bool.and_eq_true] at hb
    have e1:=Nat.eq_of_beq_eq_true hb.1
    have e2:=Nat.eq_of_beq_eq_true hb.2
    subst e1 e2
    cases h with
    |osl hq hc=>
     rename_i q z c
     have:=zam.osl (P:=P) (J:=J) (O:=O2) (b:=b) (v:=w) (i:=i0) (n:=n0) (q:=q) (z:=z) (c:=c) (by rw [hr _ (by simp [V.refs,Bid.id]),<-h1];exact hq) (by rw [<-h2];exact hc)
     rw [<-h2] at this;exact this
  .exact hm.elim
 .exact hm.elim
theorem zqm {c c0:Option NL} (h:zmu c c0):(c=none/\c0=none)\/∃a b,c=some a/\c0=some b/\a.v=b.v:=by
 cases c<;>cases c0<;>simp [zmu] at h
 .exact .inl ⟨rfl,rfl⟩
 .exact .inr ⟨_,_,rfl,rfl,h⟩
theorem zgO {b b0:Nat} {o n o0 n0:NL} {c c0:Option NL} {v':Value} (hm:zcf (.slc b o n c) (.slc b0 o0 n0 c0)) (h:zam P J O (.slc b o n c) v') {O2:Nu} (hν:O2 (Bid.top b0)=O (Bid.top b)):zam P J O2 (.slc b0 o0 n0 c0) v':=by
 obtain ⟨h1,h2,h3⟩:=(show o.v=o0.v/\n.v=n0.v/\zmu c c0 from hm)
 rcases zqm h3 with ⟨rfl,rfl⟩| ⟨a,b,rfl,rfl,hab⟩
 .cases h with
  |slcU hq=>
   have:=zam.slcU (P:=P) (J:=J) (O:=O2) (o:=o0) (n:=n0) (b:=b0) (hν.trans hq)
   rw [<-h1,<-h2] at this;exact this
 .cases h with
  |slc hq hc hn ho=>
   have:=zam.slc (P:=P) (J:=J) (O:=O2) (o:=o0) (n:=n0) (b:=b0) (c:=b) (hν.trans hq) (by rw [<-hab];exact hc) (by rw [<-h2,<-hab];exact hn) (by rw [<-h1,<-hab];exact ho)
   rw [<-h2,<-hab] at this;exact this
def zvI (O O2:Nu) (ren:Nat->Nat) (v:V):Prop:=match v with| .slc b _ _ _=>O2 (Bid.top b)=O (Bid.top (ren b))|v=>∀x:Bid,x.id∈v.refs->O2 x=O x
theorem znH {ren:Nat->Nat} {v v0:V} {v':Value} (hm:ziR ren v v0) (h:zam P J O v v') {O2:Nu} (hr:zvI O O2 ren v0):zam P J O2 v0 v':=by
 unfold ziR at hm
 split at hm
 .rename_i b0 o0 n0 c0
  split at hm
  .rename_i b o n c
   cases hb:Nat.beq (ren b0) b with
   |false=>rw [hb] at hm;exact hm.elim
   |true=>
    rw [hb] at hm
    exact zgO hm h (by rw [<-Nat.eq_of_beq_eq_true hb];exact hr)
  .exact hm.elim
 .rename_i hns
  refine zfv hm h (λb o n c e=>hns b o n c e) ?_
  unfold zvI at hr
  split at hr
  .rename_i b o n c;exact absurd rfl (hns b o n c)
  .exact hr
theorem znZ {z:Nat} {k k0:SB} {bk:Option ABk} {ren:Nat->Nat} (hm:zfA ren k k0) (h:zdf P J O z k bk) {O2:Nu} (hr:∀e cs,k0= .box e cs->∀v,v∈cs->zvI O O2 ren v)
  (ho:∀v e e' l v0 e0 e0' l0,k= .own v e e' l->k0= .own v0 e0 e0' l0->∀j,O2 (.sub v0 j)=O (.sub v j)):zdf P J O2 z k0 bk:=by
 unfold zfA at hm
 split at hm
 .rename_i e l e0 l0
  cases he:Nat.beq e e0 with
  |false=>rw [he] at hm;exact hm.elim
  |true=>rw [he] at hm;rw [<-Nat.eq_of_beq_eq_true he,<-show l=l0 from hm];exact h
 .rename_i a e l a0 e0 l0
  cases he:(Nat.beq a a0&&Nat.beq e e0) with
  |false=>rw [he] at hm;exact hm.elim
  |true=>
   rw [he] at hm
   simp only [Bool.and_eq_true] at he
   rw [<-Nat.eq_of_beq_eq_true he.1,<-Nat.eq_of_beq_eq_true he.2,<-show l=l0 from hm];exact h
 .rename_i v e e' l v0 e0 e0' l0
  cases he:(Nat.beq e e0&&Nat.beq e' e0') with
  |false=>rw [he] at hm;exact hm.elim
  |true=>
   rw [he] at hm
   simp only [Bool.and_eq_true] at he
   have q1:=Nat.eq_of_beq_eq_true he.1
   have q2:=Nat.eq_of_beq_eq_true he.2
   subst q1 q2
   have hll:l=l0:=hm
   subst hll
   obtain ⟨cs',m,h1,h2,h3,h4,h5,h6⟩:=h
   refine ⟨cs',m,h1,h2,h3,h4,h5,λj d hj=> ?_⟩
   rcases h6 j d hj with q|q| ⟨r,q,y,c,q1,q2,q3,q4,q5⟩
   .exact .inl q
   .exact .inr (.inl q)
   .exact .inr (.inr ⟨r,q,y,c,q1,q2,q3,by rw [ho _ _ _ _ _ _ _ _ rfl rfl j];exact q4,q5⟩)
 .rename_i e l v0 e0 e0' l0
  cases he:Nat.beq e e0 with
  |false=>rw [he] at hm;exact hm.elim
  |true=>
   rw [he] at hm
   have q1:=Nat.eq_of_beq_eq_true he
   subst q1
   obtain ⟨hll,hnil⟩:=hm
   subst hll
   obtain ⟨cs',m,h1,h2,h3,h4,h5⟩:=h
   refine ⟨cs',m,h1,h2,h3,h4,zbb.one (J:=J) (P:=P) (e:=e) (z:=z) (l:=l) ⟨h4,h5⟩,λj d hj=> ?_⟩
   have hd:d= .nil:=hnil.out _ (List.mem_of_getElem? hj)
   subst hd
   have h6:=h5 j _ hj
   have hz1:z=1:=by
    have h7:=h6.size
    rw [h2] at h7
    have hlq:((cs'.drop (j*z)).take z)= [.slice none 0 0]\/((cs'.drop (j*z)).take z)= [.nilFunc]:=by
     generalize ((cs'.drop (j*z)).take z)=w at h6
     cases h6 with
     |nil=>exact .inl rfl
     |nilf=>exact .inr rfl
    rcases hlq with hlq|hlq<;>rw [hlq] at h7<;>exact Option.some.inj h7
   subst hz1
   refine .inl ⟨rfl,rfl,λhsl=> ?_⟩
   have hjl:j<cs'.length:=by have:=(List.getElem?_eq_some_iff.1 hj).1;omega
   rw [Nat.mul_one,List.drop_eq_getElem_cons hjl] at h6
   simp only [List.take_succ_cons,List.take_zero] at h6
   rw [List.getElem?_eq_getElem hjl]
   generalize cs'[j]=w at h6⊢
   cases h6 with
   |nil=>rfl
   |nilf hf=>
    unfold zai at hsl
    rw [hf] at hsl;cases hsl
 .rename_i e cs e0 cs0
  cases he:Nat.beq e e0 with
  |false=>rw [he] at hm;exact hm.elim
  |true=>
  rw [he] at hm
  replace hm:zfA.vs ren cs cs0:=hm
  rw [<-Nat.eq_of_beq_eq_true he] at hr⊢
  obtain ⟨cs',m,h1,h2⟩:=h
  refine ⟨cs',m,h1, ?_⟩
  clear h1
  have hr':∀v,v∈cs0->zvI O O2 ren v:=hr e cs0 rfl
  clear hr ho
  induction cs generalizing cs0 cs' with
  |nil=>
   cases cs0 with
   |nil=>rw [h2.nil_inv];exact .nil
   |cons a b=>exact hm.elim
  |cons v cs ih=>
   cases cs0 with
   |nil=>exact hm.elim
   |cons v0 cs0=>
    obtain ⟨v',r,rfl,a,b⟩:=h2.cons_inv
    rw [zkp] at hm
    obtain ⟨m1,m2⟩:=hm
    exact .cons (znH m1 a (hr' v0 List.mem_cons_self)) (ih cs0 m2 r b λv hv=>hr' v (List.mem_cons_of_mem _ hv))
 .exact hm.elim
end
end Go.Ev
