/- Part of the proof. -/
import Derived.Test.YtdojhafbgoimeaaGreatDoorCoreG22

section
namespace Go.Ev
noncomputable section
open Classical in
def ze7 {α:Type} (f:α->α->Int) (e:α) (P:List α):Nat->Nat
 |0=>0
 |j+1=>match P[j]? with|some x=>if f e x<0 then ze7 f e P j else j+1|none=>j+1
def ztd {α:Type} (f:α->α->Int) (e:α) (P:List α):List α:=P.take (ze7 f e P P.length)++e::P.drop (ze7 f e P P.length)
def zjq {α:Type} (f:α->α->Int):List α->List α->List α
 |P,[]=>P
 |P,e::l=>zjq f (ztd f e P) l
theorem ztO {α:Type} {f:α->α->Int} {e:α} {P:List α}:∀j,ze7 f e P j<=j
 |0=>Nat.le_refl _
 |j+1=>by
  unfold ze7
  split
  .split
   .have:=ztO (f:=f) (e:=e) (P:=P) j;omega
   .omega
  .omega
theorem zjW {α:Type} {f:α->α->Int} {e:α} {P:List α}:∀j i x,ze7 f e P j<=i->i<j->P[i]? =some x->f e x<0
 |0,_,_,_,h,_=>absurd h (Nat.not_lt_zero _)
 |j+1,i,x,h1,h2,h3=>by
  unfold ze7 at h1
  split at h1
  .rename_i y hy
   split at h1
   .by_cases e:i=j
    .subst e;rw [hy] at h3;cases h3;assumption
    .exact zjW j i x h1 (by omega) h3
   .omega
  .omega
theorem ztu {α:Type} {f:α->α->Int} {e:α} {P:List α}:∀j,0<ze7 f e P j->j<=P.length->∃x,P[ze7 f e P j-1]? =some x/\¬f e x<0
 |0,h,_=>absurd h (Nat.not_lt_zero _)
 |j+1,h,hl=>by
  unfold ze7 at h⊢
  have hj:P[j]? =some P[j]:=List.getElem?_eq_getElem (by omega)
  rw [hj] at h⊢
  by_cases c:f e P[j]<0
  .simp only [if_pos c] at h⊢
   exact ztu j h (by omega)
  .simp only [if_neg c] at h⊢
   exact ⟨_,hj,c⟩
theorem zji {α:Type} {f:α->α->Int} {e:α} {P:List α}:(ztd f e P).Perm (e::P):=by
 unfold ztd
 refine List.perm_middle.trans ?_
 rw [List.take_append_drop]
theorem zfm {α:Type} {f:α->α->Int}:∀(l P:List α),(zjq f P l).Perm (P++l)
 | [],P=>by unfold zjq;rw [List.append_nil]
 |e::l,P=>by
  unfold zjq
  refine (zfm l _).trans ?_
  refine (zji.append_right l).trans ?_
  exact List.perm_middle.symm
def ltP {α:Type} (f:α->α->Int) (p:α->Int) (x y:α):Prop:=f x y<0\/(f x y=0/\p x<p y)
theorem zqK {α:Type} {A:α->Prop} {f:α->α->Int} (h:wkP A f) {p:α->Int} {x y z:α} (hx:A x) (hy:A y) (hz:A z) (h1:ltP f p x y) (h2:ltP f p y z):ltP f p x z:=by
 have:=h.tri x y z hx hy hz (by rcases h1 with h|h<;>omega) (by rcases h2 with h|h<;>omega)
 unfold ltP at*
 omega
theorem zxS {α:Type} {R:α->α->Prop} {l:List α} (h:l.Pairwise R) {i j:Nat} {x y:α} (hij:i<j) (hx:l[i]? =some x) (hy:l[j]? =some y):R x y:=by
 obtain ⟨a,rfl⟩:=List.getElem?_eq_some_iff.1 hx
 obtain ⟨b,rfl⟩:=List.getElem?_eq_some_iff.1 hy
 exact List.pairwise_iff_getElem.1 h i j a b hij
theorem znm {α:Type} {A:α->Prop} {f:α->α->Int} (h:wkP A f) {p:α->Int} {e:α} {P:List α} (he:A e) (hP:∀x,x∈P->A x) (hs:P.Pairwise (ltP f p)) (hp:∀x,x∈P->p x<p e):(ztd f e P).Pairwise (ltP f p):=by
 unfold ztd
 have hle:=ztO (f:=f) (e:=e) (P:=P) P.length
 have aft:=zjW (f:=f) (e:=e) (P:=P) P.length
 have att:=ztu (f:=f) (e:=e) (P:=P) P.length
 generalize hk:ze7 f e P P.length=k at hle aft att⊢
 have hbefore:∀x,x∈P.take k->ltP f p x e:=by
  intro x hx
  obtain ⟨i,hi⟩:=List.getElem?_of_mem hx
  have hik:i<k:=by
   have:=(List.getElem?_eq_some_iff.1 hi).1
   rw [List.length_take] at this;omega
  rw [List.getElem?_take_of_lt hik] at hi
  obtain ⟨y,hy,hny⟩:=att (by omega) (Nat.le_refl _)
  have hym:y∈P:=List.mem_of_getElem? hy
  have hye:ltP f p y e:=by
   have a:=h.anti y e (hP y hym) he
   have b:=hp y hym
   have c:=h.rng y e
   unfold ltP;omega
  by_cases c:i=k-1
  .subst c;rw [hi] at hy;cases hy;exact hye
  .exact zqK h (hP x (List.mem_of_getElem? hi)) (hP y hym) he (zxS hs (by omega) hi hy) hye
 have hafter:∀x,x∈P.drop k->ltP f p e x:=by
  intro x hx
  obtain ⟨i,hi⟩:=List.getElem?_of_mem hx
  rw [List.getElem?_drop] at hi
  exact .inl (aft (k+i) x (by omega) (List.getElem?_eq_some_iff.1 hi).1 hi)
 have hpw:=hs
 rw [<-List.take_append_drop k P,List.pairwise_append] at hpw
 rw [List.pairwise_append,List.pairwise_cons]
 refine ⟨hpw.1,⟨hafter,hpw.2.1⟩,λx hx y hy=> ?_⟩
 rcases List.mem_cons.1 hy with rfl|hy
 .exact hbefore x hx
 .exact hpw.2.2 x hx y hy
theorem zhV {α:Type} {A:α->Prop} {f:α->α->Int} (h:wkP A f) {p:α->Int}:∀(l P:List α),(∀x,x∈P->A x)->(∀x,x∈l->A x)->P.Pairwise (ltP f p)->(∀x y,x∈P->y∈l->p x<p y)->l.Pairwise (λx y=>p x<p y)->(zjq f P l).Pairwise (ltP f p)
 | [],P,_,_,hs,_,_=>hs
 |e::l,P,h1,h2,hs,hp,hl=>by
  unfold zjq
  rw [List.pairwise_cons] at hl
  refine zhV h l _ (λx hx=> ?_) (λx hx=>h2 x (List.mem_cons_of_mem _ hx)) (znm h (h2 e (List.mem_cons_self ..)) h1 hs λx hx=>hp x e hx (List.mem_cons_self ..)) (λx y hx hy=> ?_) hl.2
  .rcases List.mem_cons.1 (zji.mem_iff.1 hx) with rfl|hx
   .exact h2 _ (List.mem_cons_self ..)
   .exact h1 x hx
  .rcases List.mem_cons.1 (zji.mem_iff.1 hx) with rfl|hx
   .exact hl.1 y hy
   .exact hp x y hx (List.mem_cons_of_mem _ hy)
theorem zeK {α:Type} {A:α->Prop} {f:α->α->Int} (h:wkP A f) {p:α->Int}:∀(l m:List α),(∀x,x∈l->A x)->l.Perm m->l.Pairwise (ltP f p)->m.Pairwise (ltP f p)->l=m
 | [],m,_,hp,_,_=>(List.nil_perm.1 hp).symm
 |x::l,[],_,hp,_,_=>absurd hp.length_eq (by simp)
 |x::l,y::m,hA,hp,h1,h2=>by
  rw [List.pairwise_cons] at h1 h2
  have hxA:=hA x (List.mem_cons_self ..)
  have e:x=y:=by
   rcases List.mem_cons.1 (hp.mem_iff.1 (List.mem_cons_self ..)) with e|hx
   .exact e
   .rcases List.mem_cons.1 (hp.mem_iff.2 (List.mem_cons_self (a:=y) (l:=m))) with e|hy
    .exact e.symm
    .have a:=h1.1 y hy
     have b:=h2.1 x hx
     have c:=h.anti x y hxA (hA y (List.mem_cons_of_mem _ hy))
     unfold ltP at a b;omega
  subst e
  rw [zeK h l m (λz hz=>hA z (List.mem_cons_of_mem _ hz)) (List.perm_cons _|>.1 hp) h1.2 h2.2]
open Classical in
def zda {α:Type} (f:α->α->Int):List α->List (List α)
 | []=> []
 | [x]=> [[x]]
 |x::y::l=>if f x y≠0 then [x]::zda f (y::l) else match zda f (y::l) with|g::gs=>(x::g)::gs| []=> [[x]]
structure zou {α:Type} (f:α->α->Int) (p:α->Int) (some:List α) (out:List (List α)):Prop where
 perm:out.flatten.Perm some
 ne:∀g,g∈out->g≠ []
 inc:∀g,g∈out->g.Pairwise (λx y=>p x<p y)
 tie:∀g,g∈out->∀x y,x∈g->y∈g->f x y=0
 bef:out.Pairwise (λg h=>∀x y,x∈g->y∈h->f x y<0)
theorem zcY {α:Type} {f:α->α->Int}:∀l:List α,(zda f l).flatten=l
 | []=>rfl
 | [x]=>rfl
 |x::y::l=>by
  unfold zda
  have ih:=zcY (f:=f) (y::l)
  split
  .rw [List.flatten_cons,ih];rfl
  .split
   .rename_i g gs hg
    rw [hg] at ih
    rw [List.flatten_cons] at ih⊢
    rw [List.cons_append,ih]
   .rename_i hg
    rw [hg] at ih;cases ih
theorem zkC {α:Type} {f:α->α->Int}:∀l:List α,∀g,g∈zda f l->g≠ []
 | [],g,h=>by cases h
 | [x],g,h=>by rcases List.mem_cons.1 h with rfl|h;exact List.cons_ne_nil _ _;cases h
 |x::y::l,g,h=>by
  unfold zda at h
  have ih:=zkC (f:=f) (y::l)
  split at h
  .rcases List.mem_cons.1 h with rfl|h
   .exact List.cons_ne_nil _ _
   .exact ih g h
  .split at h
   .rename_i g' gs hg
    rcases List.mem_cons.1 h with rfl|h
    .exact List.cons_ne_nil _ _
    .exact ih g (by rw [hg];exact List.mem_cons_of_mem _ h)
   .rcases List.mem_cons.1 h with rfl|h
    .exact List.cons_ne_nil _ _
    .cases h
theorem zmK {α:Type} {f:α->α->Int} (y:α) (l:List α):∃r gs,zda f (y::l)=(y::r)::gs:=by
 cases l with
 |nil=>exact ⟨[],[],rfl⟩
 |cons z l=>
  unfold zda
  split
  .exact ⟨[],_,rfl⟩
  .split
   .exact ⟨_,_,rfl⟩
   .exact ⟨[],[],rfl⟩
theorem zfb {α:Type} {A:α->Prop} {f:α->α->Int} (h:wkP A f):∀(out:List (List α)),(∀g,g∈out->g≠ [])->(∀g,g∈out->∀x y,x∈g->y∈g->f x y=0)->out.Pairwise (λg h=>∀x y,x∈g->y∈h->f x y<0)->out=zda f out.flatten
 | [],_,_,_=>rfl
 | []::gs,hn,_,_=>absurd rfl (hn [] (List.mem_cons_self ..))
 | [x]::gs,hn,ht,hb=>by
  have ih:=zfb h gs (λg hg=>hn g (List.mem_cons_of_mem _ hg)) (λg hg=>ht g (List.mem_cons_of_mem _ hg)) (List.pairwise_cons.1 hb).2
  rw [List.flatten_cons,List.cons_append,List.nil_append]
  cases hg:gs with
  |nil=>rfl
  |cons g1 gr=>
   subst hg
   cases g1 with
   |nil=>exact absurd rfl (hn [] (List.mem_cons_of_mem _ (List.mem_cons_self ..)))
   |cons y r=>
    rw [List.flatten_cons,List.cons_append] at ih⊢
    unfold zda
    have:=(List.pairwise_cons.1 hb).1 (y::r) (List.mem_cons_self ..) x y (List.mem_cons_self ..) (List.mem_cons_self ..)
    rw [if_pos (by omega),<-ih]
 | (x::y::r)::gs,hn,ht,hb=>by
  have ih:=zfb h ((y::r)::gs) (λg hg=>by
   rcases List.mem_cons.1 hg with rfl|hg
   .exact List.cons_ne_nil _ _
   .exact hn g (List.mem_cons_of_mem _ hg)) (λg hg x' y' hx hy=>by
   rcases List.mem_cons.1 hg with rfl|hg
   .exact ht _ (List.mem_cons_self ..) x' y' (List.mem_cons_of_mem _ hx) (List.mem_cons_of_mem _ hy)
   .exact ht g (List.mem_cons_of_mem _ hg) x' y' hx hy) (by
   rw [List.pairwise_cons] at hb⊢
   exact ⟨λg hg x' y' hx hy=>hb.1 g hg x' y' (List.mem_cons_of_mem _ hx) hy,hb.2⟩)
  have h0:=ht _ (List.mem_cons_self ..) x y (List.mem_cons_self ..) (List.mem_cons_of_mem _ (List.mem_cons_self ..))
  rw [List.flatten_cons,List.cons_append,List.cons_append] at*
  unfold zda
  rw [if_neg (by omega),<-ih]
termination_by out=>out.flatten.length+out.length
theorem zoB {α:Type} {A:α->Prop} {f:α->α->Int} (h:wkP A f) {p:α->Int}:∀(l:List α),(∀x,x∈l->A x)->l.Pairwise (ltP f p)->zou f p l (zda f l)
 | [],_,_=>⟨.refl _,λg h=>(by cases h),λg h=>(by cases h),λg h=>(by cases h),.nil⟩
 | [x],hA,_=>⟨.refl _,zkC _,(λg h=>by
   rcases List.mem_cons.1 h with rfl|h
   .exact List.pairwise_singleton _ _
   .cases h),(λg hg a b ha hb=>by
   rcases List.mem_cons.1 hg with rfl|hg
   .rw [List.mem_singleton.1 ha,List.mem_singleton.1 hb]
    have:=h.anti x x (hA x (List.mem_cons_self ..)) (hA x (List.mem_cons_self ..));omega
   .cases hg),List.pairwise_singleton _ _⟩
 |x::y::l,hA,hs=>by
  have ih:=zoB h (y::l) (λz hz=>hA z (List.mem_cons_of_mem _ hz)) (List.pairwise_cons.1 hs).2
  have hfl:=zcY (f:=f) (y::l)
  obtain ⟨r,gs,hr⟩:=zmK (f:=f) y l
  have hxA:=hA x (List.mem_cons_self ..)
  have hyA:=hA y (List.mem_cons_of_mem _ (List.mem_cons_self ..))
  have hxx:=h.anti x x hxA hxA
  have hxy:=(List.pairwise_cons.1 hs).1 y (List.mem_cons_self ..)
  have memA:∀g,g∈zda f (y::l)->∀z,z∈g->z∈y::l:=λg hg z hz=>by rw [<-hfl];exact List.mem_flatten.2 ⟨g,hg,hz⟩
  have hxz:∀z,z∈y::l->f x z<=0:=λz hz=>by have:=(List.pairwise_cons.1 hs).1 z hz;unfold ltP at this;omega
  by_cases c:f x y≠0
  .have e:zda f (x::y::l)= [x]::zda f (y::l):=by show (if _ then _ else _)=_;rw [if_pos c]
   rw [e]
   refine ⟨by rw [<-e,zcY],(λg hg=>by rw [<-e] at hg;exact zkC _ g hg),(λg hg=> ?_),(λg hg a b ha hb=> ?_),List.pairwise_cons.2 ⟨λg hg a b ha hb=> ?_,ih.bef⟩⟩
   .rcases List.mem_cons.1 hg with rfl|hg
    .exact List.pairwise_singleton _ _
    .exact ih.inc g hg
   .rcases List.mem_cons.1 hg with rfl|hg
    .rw [List.mem_singleton.1 ha,List.mem_singleton.1 hb];omega
    .exact ih.tie g hg a b ha hb
   .rw [List.mem_singleton.1 ha]
    have hbm:=memA g hg b hb
    have hyb:f y b<=0:=by
     rcases List.mem_cons.1 hbm with rfl|hb'
     .have:=h.anti b b hyA hyA;omega
     .have:=(List.pairwise_cons.1 (List.pairwise_cons.1 hs).2).1 b hb';unfold ltP at this;omega
    have:=h.tri x y b hxA hyA (hA b (List.mem_cons_of_mem _ hbm)) (hxz y (List.mem_cons_self ..)) hyb
    have:=hxz y (List.mem_cons_self ..)
    omega
  .have c:f x y=0:=by omega
   have e:zda f (x::y::l)=(x::y::r)::gs:=by show (if _ then _ else _)=_;rw [if_neg (by omega),hr]
   have tz:∀z,z∈y::r->f x z=0/\f z x=0:=λz hz=>by
    have hzm:=memA (y::r) (by rw [hr];exact List.mem_cons_self ..) z hz
    have hzA:=hA z (List.mem_cons_of_mem _ hzm)
    have t:=ih.tie (y::r) (by rw [hr];exact List.mem_cons_self ..) y z (List.mem_cons_self ..) hz
    have:=h.tri x y z hxA hyA hzA (by omega) (by omega)
    have:=h.anti x z hxA hzA
    omega
   have memB:=memA
   rw [hr] at ih memB
   rw [e]
   refine ⟨by rw [<-e,zcY],(λg hg=>by rw [<-e] at hg;exact zkC _ g hg),(λg hg=> ?_),(λg hg a b ha hb=> ?_),List.pairwise_cons.2 ⟨λg hg a b ha hb'=> ?_,(List.pairwise_cons.1 ih.bef).2⟩⟩
   .rcases List.mem_cons.1 hg with rfl|hg
    .refine List.pairwise_cons.2 ⟨λz hz=> ?_,ih.inc _ (List.mem_cons_self ..)⟩
     have a:=(List.pairwise_cons.1 hs).1 z (memB _ (List.mem_cons_self ..) z hz)
     have b:=(tz z hz).1
     unfold ltP at a;omega
    .exact ih.inc g (List.mem_cons_of_mem _ hg)
   .rcases List.mem_cons.1 hg with rfl|hg
    .rcases List.mem_cons.1 ha with ea|ha<;>rcases List.mem_cons.1 hb with eb|hb
     .rw [ea,eb];omega
     .rw [ea];exact (tz b hb).1
     .rw [eb];exact (tz a ha).2
     .exact ih.tie _ (List.mem_cons_self ..) a b ha hb
    .exact ih.tie g (List.mem_cons_of_mem _ hg) a b ha hb
   .have hbm:=memB g (List.mem_cons_of_mem _ hg) b hb'
    have q:=(List.pairwise_cons.1 ih.bef).1 g hg
    rcases List.mem_cons.1 ha with rfl|ha
    .have q:=q y b (List.mem_cons_self ..) hb'
     have:=h.tri a y b hxA hyA (hA b (List.mem_cons_of_mem _ hbm)) (by omega) (by omega)
     omega
    .exact q a b ha hb'
theorem zid {α:Type} {A:α->Prop} {f:α->α->Int} (h:wkP A f) {p:α->Int} {some:List α} {o1 o2:List (List α)} (hA:∀x,x∈some->A x) (h1:zou f p some o1) (h2:zou f p some o2):o1=o2:=by
 have sorted:∀o,zou f p some o->o.flatten.Pairwise (ltP f p):=λo ho=>by
  rw [List.pairwise_flatten]
  refine ⟨λg hg=> ?_,ho.bef.imp λ{a b} hab x hx y hy=> .inl (hab x y hx hy)⟩
  refine (ho.inc g hg).imp_of_mem λ{a b} ha hb hab=> .inr ⟨ho.tie g hg a b ha hb,hab⟩
 have e:=zeK h _ _ (λx hx=>hA x (h1.perm.mem_iff.1 hx)) (h1.perm.trans h2.perm.symm) (sorted o1 h1) (sorted o2 h2)
 rw [zfb h o1 h1.ne h1.tie h1.bef,zfb h o2 h2.ne h2.tie h2.bef,e]
end
end Go.Ev

end

section
open Go.Proofs
namespace Go.Ev
noncomputable section
def pl (p:D):D:= .sct [gD (gAt (p.fld 0)),.int (p.fld 1).asInt]
def gP (p:D):GD×Int:=(gAt (p.fld 0),(p.fld 1).asInt)
def plG (g:D) (i:Nat):D:= .sct [gD (gAt (el g i)),.int (i:Nat)]
def plL (g:D) (n:Nat):List D:=(List.range n).map (plG g)
def zdL (l:D) (n:Nat):List D:=(List.range n).map λi=>pl (el l i)
def zaZ (c p q:D):Int:=zwl c (gP p) (gP q)
def zof (ts:D) (a b:GD) (i j:Int):Int×Int:=zaM (λk=>zoj (el ts k) a b i j) ts.len 0
def zcf (f:D->D->Int) (R:List D) (a:Int) (i:Nat):List D:=if a=0 then zjq f [] (R.take i)++R.drop i else R
def zil (Q:List D) (i j:Nat):List D:=(Q.take i).take j++zai Q i::(Q.take i).drop j++Q.drop (i+1)
def zjR (g:List D):D:= .list (g.map λp=> .int (p.fld 1).asInt)
def grL (f:D->D->Int) (Q:List D) (n:Nat):List D:=(zda f (Q.take n)).map zjR
def za6 (c l:D):List D:=zjq (zaZ c) [] (zdL l l.len)
def grD (c l:D):D:=zba (grL (zaZ c) (za6 c l) l.len)
structure zze (f:D->D->Int) (Q:List D) (x:Nat):Prop where
 out:x=0\/f (zai Q (x-1)) (zai Q x)≠0
open Classical in
def zeU (f:D->D->Int) (Q R:List D) (x:Nat):List D:=if zze f Q x then R++ [.nil] else R
def jB (S:SS) (t:Tmp):Nat:=match S.fr.get t with|some (.slc b _ _ _)=>b|_=>Nat.add S.nx 1
structure tgP (l:D):Prop where
 out:∀i,i<l.len->(gAt ((el l i).fld 0)).tg.len<=100
def zoF:Con:=fun
 | [.dat 127 ts,p,q]=>(match pOf p,pOf q with
  |some (a,i),some (b,j)=>some ((ts.len<=100/\∀k,k<ts.len->okA (el ts k))/\a.tg.len<=100/\b.tg.len<=100,.tup [.int .i64 (zof ts a b i j).1,.int .i64 (zof ts a b i j).2])
  |_,_=>none)
 |_=>none
def zp0:Con:=λ| [_,_,_,_,_]=>some (False,.tup [])|_=>none
def zuw:Con:=λ| [.dat 23 g]=>some (g.len<=100,.dat 130 (.list (plL g g.len)))|_=>none
def or0:FuncId->Option Con
 |93=>some zpX
 |92=>some zoF
 |242=>some zp0
 |_=>none
def yB (S:SS) (t:Tmp) (sl:Tmp):Nat:=match S.fr.get t with|some (.yld b)=>(match S.hp.get b with|some (.lp _ _ fr _ _ _ _)=>(match fr.get sl with|some (.ptr c _)=>c|_=>0)|_=>0)|_=>0
def zzb (S:SS) (b:Nat):Nat:=match S.hp.get b with|some (.box _ [.slc r _ _ _])=>r|_=>Nat.add S.nx 300
def zyA (c l:D):FuncId->Nat->Option Ann
 |97,3=>some {τ:=Nat,slots:=λ_ _ x=> [(11,.int .i64 x)],blks:=λS _ x=> [(zrw S 3,.arr 126 (plL (slD S 0) x++(zdS S 3).drop x))],inv:=λS _ x=>x<=(slD S 0).len,meas:=λS _ x=>(slD S 0).len-x}
 |191,1=>some {hs:=2,τ:=Nat,slots:=λ_ _ x=> [(7,.int .i64 x)],blks:=λS i x=>match i with|0=> [(yB S 0 2,.box 130 [.val (.slice none 0 0)])]|_=> [(yB S 0 2,.box 130 [.slc (zzb S (yB S 0 2)) (.lit 0) (.sym x) none]),(zzb S (yB S 0 2),.arr 126 (zdL (slD S 5) x))],inv:=λS i x=>match i with|0=>x=0|_=>0<x/\x<=(slD S 5).len,meas:=λS _ x=>(slD S 5).len-x}
 |225,2=>some {τ:=Nat,slots:=λ_ _ a=> [(7,.int .i64 a),(8,.int .i64 ((a:Int)+20))],blks:=λS _ a=> [(zrw S 0,.arr 126 (zcf (zaZ c) (zdS S 0) 0 a))],inv:=λS _ a=>a=0\/(a=20/\(zdS S 0).length=20),meas:=λ_ _ a=>40-a}
 |225,7=>some {τ:=Unit,slots:=λ_ _ _=> [(6,.int .i64 20)],blks:=λ_ _ _=> [],inv:=λ_ _ _=>True,meas:=λ_ _ _=>0}
 |225,9=>some {τ:=Unit,slots:=λ_ _ _=> [],blks:=λ_ _ _=> [],inv:=λ_ _ _=>False,meas:=λ_ _ _=>0}
 |241,1=>some {τ:=Nat,slots:=λ_ _ i=> [(8,.int .i64 i)],blks:=λS _ i=> [(zrw S 0,.arr 126 (zcf (zaZ c) (zdS S 0) (slI S 1) i))],inv:=λS _ i=>(slI S 1=0/\1<=i/\(i:Int)<=max (slI S 2) 1)\/(slI S 1≠0/\(i:Int)=slI S 1+1/\slI S 2<=slI S 1),meas:=λS _ i=>(slI S 2).toNat-i}
 |241,4=>some {τ:=Nat,slots:=λ_ _ j=> [(9,.int .i64 j)],blks:=λS _ j=> [(zrw S 0,.arr 126 (zil (zdS S 0) (slI S 8).toNat j))],inv:=λS _ j=>slI S 1=0/\j<=(slI S 8).toNat/\(slI S 8).toNat<(zdS S 0).length/\ze7 (zaZ c) (zai (zdS S 0) (slI S 8).toNat) ((zdS S 0).take (slI S 8).toNat) j=ze7 (zaZ c) (zai (zdS S 0) (slI S 8).toNat) ((zdS S 0).take (slI S 8).toNat) (slI S 8).toNat,meas:=λ_ _ j=>j}
 |96,6=>some {hs:=2,τ:=Nat,slots:=λS i x=>match i with|0=> [(21,.int .i64 0),(8,.val (.slice none 0 0))]|_=> [(21,.int .i64 x),(8,.slc 60 (.lit 0) (.sym (grL (zaZ c) (za6 c l) x).length) none)],blks:=λS i x=>match i with|0=> []|_=> [(60,.own S.nx 34 3 (grL (zaZ c) (za6 c l) x))],inv:=λS i x=>match i with|0=>x=0|_=>0<x/\x<=l.len,meas:=λS _ x=>l.len-x}
 |_,_=>none
def zwe (c l:D):FuncId->Nat->Option Ann
 |96,4=>some {τ:=Unit,slots:=λS _ _=> [(7,.slc (Nat.add S.nx 200) (.lit 0) (.sym l.len) none)],blks:=λS _ _=> [(Nat.add S.nx 200,.arr 126 (za6 c l))],inv:=λ_ _ _=>True,meas:=λ_ _ _=>0}
 |145,2=>some {τ:=Unit,slots:=λS _ _=> [(5,.slc (Nat.add S.nx 200) (.lit 0) (.sym l.len) none)],blks:=λS _ _=> [(Nat.add S.nx 200,.arr 126 (zdL l l.len))],inv:=λ_ _ _=>True,meas:=λ_ _ _=>0}
 |96,10=>some {τ:=List D,slots:=λS _ L=> [(8,.slc (jB S 8) (.lit 0) (.sym L.length) none)],blks:=λS _ L=> [(jB S 8,.own S.nx 34 3 L)],inv:=λS _ L=>L=zeU (zaZ c) (za6 c l) (zdS S 8) (slI S 21).toNat/\0<L.length,meas:=λ_ _ _=>0}
 |_,_=>none
def zpN (con:FuncId->Option Con) (c l:D):Ctx:={ctx con (zyA c l) with join:=zwe c l}
instance (con:FuncId->Option Con) (c l:D):Nonempty (NoF (zpN con c l)):=⟨⟨λ_ _ h=>zd9 h⟩⟩
def zya:FuncId->Nat->Option Ann
 |191,1=>some {τ:=Unit,slots:=λ_ _ _=> [(7,.int .i64 0)],blks:=λS _ _=> [(yB S 0 2,.box 130 [.val (.slice none 0 0)])],inv:=λ_ _ _=>True,meas:=λ_ _ _=>0}
 |225,2=>some {τ:=Unit,slots:=λ_ _ _=> [(7,.int .i64 0),(8,.int .i64 20)],blks:=λ_ _ _=> [],inv:=λ_ _ _=>True,meas:=λ_ _ _=>0}
 |225,7=>some {τ:=Unit,slots:=λ_ _ _=> [(6,.int .i64 20)],blks:=λ_ _ _=> [],inv:=λ_ _ _=>True,meas:=λ_ _ _=>0}
 |225,9=>some {τ:=Unit,slots:=λ_ _ _=> [],blks:=λ_ _ _=> [],inv:=λ_ _ _=>False,meas:=λ_ _ _=>0}
 |241,1=>some {τ:=Unit,slots:=λ_ _ _=> [(8,.int .i64 1)],blks:=λ_ _ _=> [],inv:=λ_ _ _=>True,meas:=λ_ _ _=>0}
 |241,4=>some {τ:=Unit,slots:=λ_ _ _=> [],blks:=λ_ _ _=> [],inv:=λ_ _ _=>False,meas:=λ_ _ _=>0}
 |96,6=>some {τ:=Unit,slots:=λ_ _ _=> [(21,.int .i64 0),(8,.val (.slice none 0 0))],blks:=λ_ _ _=> [],inv:=λ_ _ _=>True,meas:=λ_ _ _=>0}
 |_,_=>none
def zwi:FuncId->Nat->Option Ann
 |96,10=>some {τ:=Unit,slots:=λ_ _ _=> [],blks:=λ_ _ _=> [],inv:=λ_ _ _=>False,meas:=λ_ _ _=>0}
 |_,_=>none
def zxh (con:FuncId->Option Con):Ctx:={ctx con zya with join:=zwi}
instance (con:FuncId->Option Con):Nonempty (NoF (zxh con)):=⟨⟨λ_ _ h=>zd9 h⟩⟩
end
end Go.Ev

end

section
open Go.Proofs
namespace Go.Ev
noncomputable section
def plD (g:D):D:= .list (plL g g.len)
structure tgG (g:D):Prop where
 out:∀i,i<g.len->(gAt (el g i)).tg.len<=100
structure zgb (c g:D):Prop where
 out:zan c/\((g.len<=20/\tgG g)\/(64<g.len/\g.len<=100))
structure okO (c g:D):Prop where
 out:g.len<=64/\(zaK c).2=0
def zas (ll:D):Nat->List D
 |0=> []
 |n+1=>zas ll n++(el ll n).asList
def zhx (ll:D):D:=zba (zas ll ll.len)
structure zbJ (ll:D):Prop where
 out:ll.len<=100/\∀i,i<ll.len->(el ll i).len<=100
open Classical in
def lnD (c l:D):D×Int:=if (grD c l).len<l.len then (.nil,32) else (zhx (grD c l),0)
open Classical in
def liD (c g:D):D×Int:=if (zaK c).2≠0 then (.nil,(zaK c).2) else if 64<g.len then (.nil,7) else lnD c (plD g)
open Classical in
def orD (c g:D):D:=if okO c g then grD c (plD g) else .nil
def ziR (R:List D) (k:Int) (s:D):Nat->List D
 |0=>R
 |j+1=>(ziR R k s j).set (el s j).asInt.toNat (.int k)
def zey (R:List D) (ll:D):Nat->List D
 |0=>R
 |k+1=>ziR (zey R ll k) k (el ll k) (el ll k).len
open Classical in
def clD (c g:D):D:=if okO c g then .list (zey (List.replicate g.len (.int 0)) (orD c g) (orD c g).len) else .nil
def sxZ (c g:D) (a b:Nat):Int:=(zaM (clE c (gAt (el g a)) (gAt (el g b)) a b) c.len 0).1
structure dcP (c g:D) (i j:Nat) (k:Nat):Prop where
 out:∃a b,((b<a/\a<i)\/(a=i/\b<j))/\sxZ c g a b=k
def dcL (c g:D) (i j:Nat):List D:=(List.range c.len).map λk=> .bool (dcP c g i j k)
open Classical in
def dlP (c g:D):Nat->List D
 |0=> []
 |k+1=>if dcP c g g.len 0 k then dlP c g k++ [.int k] else dlP c g k
structure zmS (c g:D) (k:Nat):Prop where
 out:∃a b,a<g.len/\b<g.len/\sxZ c g a b=k
open Classical in
def zbZ (c g:D):Nat->List D
 |0=> []
 |k+1=>if zmS c g k then zbZ c g k++ [.int k] else zbZ c g k
open Classical in
def deD (c g:D):D:=if okO c g then zba (zbZ c g c.len) else .nil
structure goP (c g:D) (x y:Int):Prop where
 out:(zaM (clE c (gAt (el g x.toNat)) (gAt (el g y.toNat)) x y) c.len 0).2<0
def iL (s:List Nat):List D:=s.map λx=> .int (x:Nat)
def iD (s:List Nat):D:=zba (iL s)
def sOf (d:D):List Nat:=d.asList.map λx=>x.asInt.toNat
def atN (l:List Nat) (i:Nat):Nat:=(l[i]?).getD 0
structure zjZ (c g:D) (s:List Nat) (x:Nat):Prop where
 out:∀y,y∈s->¬goP c g y x
open Classical in
def frL (c g:D) (s t:List Nat):List Nat:=t.filter λx=>decide (zjZ c g s x)
open Classical in
def rsL (c g:D) (s t:List Nat):List Nat:=t.filter λx=>decide (¬zjZ c g s x)
def zfE (c g:D):Nat->List Nat->List (List Nat)
 |0,_=> []
 |f+1,s=>if frL c g s s= [] then [] else frL c g s s::zfE c g f (rsL c g s s)
structure zw7 (g d:D):Prop where
 out:d=iD (sOf d)/\d.len<=20/\∀x,x∈sOf d->x<g.len
def pgD (c g d:D):D:=zba ((zfE c g (d.len+1) (sOf d)).map iD)
def rgL (n:Nat):List D:=iL (List.range n)
def rgD (n:Nat):D:=zba (rgL n)
def roD (c g:D):D:=pgD c g (rgD g.len)
structure zvd (ll:D) (n:Nat):Prop where
 out:∀i,i<n->(el ll i).len=1
def hdL (ll:D) (n:Nat):List D:=(List.range n).map λi=> .int (el (el ll i) 0).asInt
open Classical in
def sgD (ll:D):D×Int:=if zvd ll ll.len then (zba (hdL ll ll.len),0) else (.nil,32)
open Classical in
def lrD (c g:D):D×Int:=if (zaK c).2≠0 then (.nil,(zaK c).2) else if 64<g.len then (.nil,7) else sgD (roD c g)
def crD (ll:D) (n:Nat):D:=zba (zey (rgL n) ll ll.len)
structure zws (ll:D) (n:Nat):Prop where
 out:ll.len<=100/\∀i j,i<ll.len->j<(el ll i).len->0<=(el (el ll i) j).asInt/\(el (el ll i) j).asInt<n
 sh:zbJ ll
structure fdP (c g:D) (k i j:Nat):Prop where
 out:∃a b,((a<i/\b<g.len)\/(a=i/\b<j))/\sxZ c g a b=k
def cgL (l:D) (n:Nat):List D:=(List.range n).map λi=>gD (zcq (gAt (el l i)))
def cgD (l:D):D:=zba (cgL l l.len)
structure tgB (l:D):Prop where
 out:l.len<=100/\∀i,i<l.len->(gAt (el l i)).tg.len<=8796093022208
structure zeC (a b:D):Prop where
 out:a.len=b.len/\∀i,i<a.len->zdg (gAt (el a i)) (gAt (el b i))
structure eqN (a b:D):Prop where
 out:a.len=b.len/\∀i,i<a.len->(el a i).asInt=(el b i).asInt
structure znF (a b:D):Prop where
 out:a.len=b.len/\∀i,i<a.len->eqN (el a i) (el b i)
def zkn:Con:=λ| [.dat 22 c,.dat 130 l]=>some ((zan c/\(zaK c).2=0)/\l.len<=20/\tgP l,.dat 57 (grD c l))|_=>none
def zom:Con:=λ| [.dat 57 ll]=>some (zbJ ll,.dat 34 (zhx ll))|_=>none
def zur:Con:=λ| [.dat 22 c,.dat 130 l]=>some ((zan c/\(zaK c).2=0)/\l.len<=20/\tgP l,.tup [.dat 34 (lnD c l).1,.int .i64 (lnD c l).2])|_=>none
def zut:Con:=λ| [.dat 22 c,.dat 23 g]=>some (zgb c g,.tup [.dat 34 (liD c g).1,.int .i64 (liD c g).2])|_=>none
def zvr:Con:=λ| [.dat 22 c,.dat 23 g]=>some (zgb c g,.dat 57 (orD c g))|_=>none
def zsH:Con:=λ| [.dat 22 c,.dat 23 g]=>some (zgb c g,.dat 34 (clD c g))|_=>none
def zr6:Con:=λ| [.dat 22 c,.dat 23 g]=>some (zgb c g,.dat 34 (deD c g))|_=>none
def zl1:Con:=λ| [.dat 22 c,.dat 23 g,.int .i64 x,.int .i64 y]=>some (((0<=x/\x<g.len)/\0<=y/\y<g.len)/\(zan c/\(zaK c).2=0)/\tgG g,.prop (goP c g x y))|_=>none
def zrq:Con:=λ| [.int .i64 n]=>some (0<=n/\n<=100,.dat 34 (rgD n.toNat))|_=>none
def zlT:Con:=λ| [.dat 22 c,.dat 23 g,.dat 34 d]=>some ((zan c/\(zaK c).2=0)/\tgG g/\zw7 g d,.dat 57 (pgD c g d))|_=>none
def zsc:Con:=λ| [.dat 22 c,.dat 23 g]=>some ((zan c/\(zaK c).2=0)/\tgG g/\g.len<=20,.dat 57 (roD c g))|_=>none
def zqc:Con:=λ| [.dat 57 ll]=>some (zbJ ll,.tup [.dat 34 (sgD ll).1,.int .i64 (sgD ll).2])|_=>none
def zrZ:Con:=λ| [.dat 22 c,.dat 23 g]=>some (zgb c g,.tup [.dat 34 (lrD c g).1,.int .i64 (lrD c g).2])|_=>none
def zuf:Con:=λ| [.dat 57 ll,.int .i64 n]=>some ((0<=n/\n<=100)/\zws ll n.toNat,.dat 34 (crD ll n.toNat))|_=>none
def zsm:Con:=λ| [.dat 22 c,.dat 23 g]=>some ((zan c/\(zaK c).2=0)/\tgG g/\g.len<=20,.dat 34 (zba (zbZ c g c.len)))|_=>none
def zum:Con:=λ| [.dat 23 l]=>some (tgB l,.dat 23 (cgD l))|_=>none
def zuy:Con:=λ| [.dat 23 a,.dat 23 b]=>some (tgB a,.prop (zeC a b))|_=>none
def znz:Con:=λ| [.dat 34 a,.dat 34 b]=>some (a.len<=100,.prop (eqN a b))|_=>none
def zuJ:Con:=λ| [.dat 57 a,.dat 57 b]=>some (zbJ a,.prop (znF a b))|_=>none
def zsP:Con:=λ| [.dat 22 c,.dat 23 g]=>some (zkH c/\tgB g/\(g.len<=64->zfQ g 12),.prop True)|_=>none
def zy1 (S:SS) (t:Tmp) (k:SB):List (Nat×SB):=match S.fr.get t with|some (.slc b _ _ _)=> [(b,k)]|_=> []
def zxX (c g:D):FuncId->Nat->Option Ann
 |147,3=>some {τ:=Nat,slots:=λS _ x=> [(11,.int .i64 x),(3,.int .i64 (zas (slD S 9) x).length)],blks:=λ_ _ _=> [],inv:=λS _ x=>x<=(slD S 9).len,meas:=λS _ x=>(slD S 9).len-x}
 |147,11=>some {hs:=2,τ:=Nat×List D,slots:=λS i x=>match i with|0=> [(27,.int .i64 x.1),(6,.val (.slice none 0 0))]|_=> [(27,.int .i64 x.1),(6,.slc 60 (.lit 0) (.sym (zas (slD S 25) x.1).length) none)],blks:=λ_ i x=>match i with|0=> []|_=> [(60,.arr 3 x.2)],inv:=λS i x=>match i with|0=>x.1<=(slD S 25).len/\(zas (slD S 25) (slD S 25).len).length=0|_=>(x.1<=(slD S 25).len/\0<(zas (slD S 25) (slD S 25).len).length)/\(zas (slD S 25) x.1).length<=x.2.length/\x.2.take (zas (slD S 25) x.1).length=zas (slD S 25) x.1,meas:=λS _ x=>(slD S 25).len-x.1,dead:=λS=>match S.fr.get 6 with|some (.slc b _ _ _)=> [b]|_=> []}
 |35,5=>some {τ:=Nat,slots:=λ_ _ x=> [(21,.int .i64 x)],blks:=λS _ x=> [(zrw S 5,.arr 3 (zey (zdS S 5) (slD S 19) x))],inv:=λS _ x=>x<=(slD S 19).len,meas:=λS _ x=>(slD S 19).len-x}
 |35,8=>some {τ:=Nat,slots:=λ_ _ y=> [(28,.int .i64 y)],blks:=λS _ y=> [(zrw S 5,.arr 3 (ziR (zdS S 5) (slI S 6) (slD S 26) y))],inv:=λS _ y=>y<=(slD S 26).len,meas:=λS _ y=>(slD S 26).len-y}
 |68,6=>some {τ:=Nat,slots:=λ_ _ x=> [(30,.int .i64 x)],blks:=λS _ x=> [(zrw S 7,.arr 4 (dcL c g x 0))],inv:=λ_ _ x=>x<=g.len,meas:=λ_ _ x=>g.len-x}
 |68,9=>some {τ:=Nat,slots:=λ_ _ y=> [(39,.int .i64 y)],blks:=λS _ y=> [(zrw S 7,.arr 4 (dcL c g (slI S 30).toNat y))],inv:=λS _ y=>y<=(slI S 30).toNat,meas:=λS _ y=>(slI S 30).toNat-y}
 |68,18=>some {hs:=2,τ:=Nat,slots:=λ_ i x=>match i with|0=> [(59,.int .i64 x),(14,.val (.slice none 0 0))]|_=> [(59,.int .i64 x),(14,.slc 60 (.lit 0) (.sym (dlP c g x).length) none)],blks:=λ_ i x=>match i with|0=> []|_=> [(60,.arr 3 (dlP c g x))],inv:=λ_ i x=>match i with|0=>x<=c.len/\dlP c g x= []|_=>x<=c.len/\0<(dlP c g x).length,meas:=λ_ _ x=>c.len-x}
 |119,2=>some {hs:=2,τ:=Nat×List Nat×List (List Nat),slots:=λ_ i x=>match i with|0=> [(2,.dat 34 (iD x.2.1)),(7,.val (.slice none 0 0))]|_=> [(2,.dat 34 (iD x.2.1)),(7,.slc 60 (.lit 0) (.sym x.2.2.length) none)],blks:=λ_ i x=>match i with|0=> []|_=> [(60,.arr 34 (x.2.2.map iD))],inv:=λS i x=>(x.2.1.length<x.1/\x.2.1.length<=20/\x.2.2.length+x.2.1.length<=20/\(∀y,y∈x.2.1->y<g.len)/\x.2.2++zfE c g x.1 x.2.1=zfE c g ((slD S 2).len+1) (sOf (slD S 2)))/\match i with|0=>x.2.2= []|_=>0<x.2.2.length,meas:=λ_ _ x=>x.2.1.length}
 |119,5=>some {hs:=4,τ:=Nat,slots:=λS i x=> [(10,.int .i64 x),(8,match i with|0=> .val (.slice none 0 0)|2=> .val (.slice none 0 0)|_=> .slc 61 (.lit 0) (.sym (frL c g (sOf (slD S 2)) ((sOf (slD S 2)).take x)).length) none),(9,match i with|0=> .val (.slice none 0 0)|1=> .val (.slice none 0 0)|_=> .slc 62 (.lit 0) (.sym (rsL c g (sOf (slD S 2)) ((sOf (slD S 2)).take x)).length) none)],blks:=λS i x=>match i with|0=> []|1=> [(61,.arr 3 (iL (frL c g (sOf (slD S 2)) ((sOf (slD S 2)).take x))))]|2=> [(62,.arr 3 (iL (rsL c g (sOf (slD S 2)) ((sOf (slD S 2)).take x))))]|_=> [(61,.arr 3 (iL (frL c g (sOf (slD S 2)) ((sOf (slD S 2)).take x)))),(62,.arr 3 (iL (rsL c g (sOf (slD S 2)) ((sOf (slD S 2)).take x))))],inv:=λS i x=>(x<=(sOf (slD S 2)).length/\(slD S 2)=iD (sOf (slD S 2)))/\((i=1\/i=3)↔0<(frL c g (sOf (slD S 2)) ((sOf (slD S 2)).take x)).length)/\((i=2\/i=3)↔0<(rsL c g (sOf (slD S 2)) ((sOf (slD S 2)).take x)).length),meas:=λS _ x=>(sOf (slD S 2)).length-x}
 |119,9=>some {τ:=Nat,slots:=λS _ x=> [(12,.int .i64 x),(11,.prop (∀y,y∈(sOf (slD S 2)).take x->¬goP c g y (atN (sOf (slD S 2)) (slI S 10).toNat)))],blks:=λ_ _ _=> [],inv:=λS _ x=>x<=(sOf (slD S 2)).length,meas:=λS _ x=>(sOf (slD S 2)).length-x}
 |120,3=>some {hs:=2,τ:=Nat,slots:=λ_ i x=>match i with|0=> [(4,.int .i64 0),(3,.val (.slice none 0 0))]|_=> [(4,.int .i64 x),(3,.slc 60 (.lit 0) (.sym x) none)],blks:=λ_ i x=>match i with|0=> []|_=> [(60,.arr 3 (rgL x))],inv:=λS i x=>match i with|0=>x=0|_=>0<x/\(x:Int)<=slI S 0,meas:=λS _ x=>(slI S 0).toNat-x}
 |118,3=>some {hs:=2,τ:=Nat,slots:=λ_ i x=>match i with|0=> [(5,.int .i64 0),(4,.val (.slice none 0 0))]|_=> [(5,.int .i64 x),(4,.slc 60 (.lit 0) (.sym x) none)],blks:=λS i x=>match i with|0=> []|_=> [(60,.arr 3 (hdL (slD S 0) x))],inv:=λS i x=>match i with|0=>x=0|_=>0<x/\x<=(slD S 0).len/\zvd (slD S 0) x,meas:=λS _ x=>(slD S 0).len-x}
 |66,3=>some {τ:=Nat,slots:=λ_ _ x=> [(6,.int .i64 x)],blks:=λS _ x=>zy1 S 5 (.arr 3 (zey (zdS S 5) (slD S 0) x)),inv:=λS _ x=>x<=(slD S 0).len,meas:=λS _ x=>(slD S 0).len-x}
 |66,6=>some {τ:=Nat,slots:=λ_ _ y=> [(7,.int .i64 y)],blks:=λS _ y=>zy1 S 5 (.arr 3 (ziR (zdS S 5) (slI S 6) (el (slD S 0) (slI S 6).toNat) y)),inv:=λS _ y=>y<=(el (slD S 0) (slI S 6).toNat).len,meas:=λS _ y=>(el (slD S 0) (slI S 6).toNat).len-y}
 |65,3=>some {hs:=2,τ:=Nat,slots:=λ_ i x=>match i with|0=> [(6,.int .i64 x),(5,.val (.slice none 0 0))]|_=> [(6,.int .i64 x),(5,.slc 60 (.lit 0) (.sym (zbZ c g x).length) none)],blks:=λ_ i x=>match i with|0=> []|_=> [(60,.arr 3 (zbZ c g x))],inv:=λ_ i x=>match i with|0=>x<=c.len/\zbZ c g x= []|_=>x<=c.len/\0<(zbZ c g x).length,meas:=λ_ _ x=>c.len-x}
 |65,7=>some {τ:=Nat,slots:=λS _ x=> [(8,.int .i64 x),(7,.prop (fdP c g (slI S 6).toNat x 0))],blks:=λ_ _ _=> [],inv:=λ_ _ x=>x<=g.len,meas:=λ_ _ x=>g.len-x}
 |65,10=>some {τ:=Nat,slots:=λS _ y=> [(9,.int .i64 y),(7,.prop (fdP c g (slI S 6).toNat (slI S 8).toNat y))],blks:=λ_ _ _=> [],inv:=λ_ _ y=>y<=g.len,meas:=λ_ _ y=>g.len-y}
 |61,3=>some {hs:=2,τ:=Nat,slots:=λ_ i x=>match i with|0=> [(4,.int .i64 0),(3,.val (.slice none 0 0))]|_=> [(4,.int .i64 x),(3,.slc 60 (.lit 0) (.sym x) none)],blks:=λS i x=>match i with|0=> []|_=> [(60,.arr 53 (cgL (slD S 0) x))],inv:=λS i x=>match i with|0=>x=0|_=>0<x/\x<=(slD S 0).len,meas:=λS _ x=>(slD S 0).len-x}
 |70,4=>some {τ:=Nat,slots:=λ_ _ x=> [(5,.int .i64 x)],blks:=λ_ _ _=> [],inv:=λS _ x=>x<=(slD S 0).len/\∀i,i<x->zdg (gAt (el (slD S 0) i)) (gAt (el (slD S 1) i)),meas:=λS _ x=>(slD S 0).len-x}
 |67,4=>some {τ:=Nat,slots:=λ_ _ x=> [(5,.int .i64 x)],blks:=λ_ _ _=> [],inv:=λS _ x=>x<=(slD S 0).len/\∀i,i<x->eqN (el (slD S 0) i) (el (slD S 1) i),meas:=λS _ x=>(slD S 0).len-x}
 |122,4=>some {τ:=Nat,slots:=λ_ _ x=> [(5,.int .i64 x)],blks:=λ_ _ _=> [],inv:=λS _ x=>x<=(slD S 0).len/\∀i,i<x->(el (slD S 0) i).asInt=(el (slD S 1) i).asInt,meas:=λS _ x=>(slD S 0).len-x}
 |28,4=>some {τ:=Nat,slots:=λ_ _ x=> [(13,.int .i64 x)],blks:=λ_ _ _=> [],inv:=λS _ x=>x<=(slD S 0).len/\∀i,i<x->(el (slD S 0) i).asInt=(el (slD S 1) i).asInt,meas:=λS _ x=>(slD S 0).len-x}
 |f,n=>zb0 f n
def zyW:FuncId->Nat->List (Tmp×TypeId)
 |119,18=> [(2,34)]
 |_,_=> []
def zbp (con:FuncId->Option Con) (c g:D):Ctx:={ctx con (zxX c g) with frzT:=zyW}
instance (con:FuncId->Option Con) (c g:D):Nonempty (NoF (zbp con c g)):=⟨⟨λ_ _ h=>zd9 h⟩⟩
def os0:FuncId->Option Con
 |96=>some zkn
 |97=>some zuw
 |147=>some zom
 |121=>some zjG
 |92=>some zoF
 |93=>some zpX
 |98=>some zjI
 |117=>some zjI
 |91=>some zjJ
 |63=>some zjJ
 |116=>some zmi
 |125=>some zmn
 |_=>none
def os1:FuncId->Option Con
 |99=>some zur
 |34=>some zvr
 |155=>some zl1
 |120=>some zrq
 |118=>some zqc
 |28=>some znz
 |122=>some znz
 |g=>os0 g
def os2:FuncId->Option Con
 |119=>some zlT
 |g=>os1 g
def os3:FuncId->Option Con
 |64=>some zsc
 |g=>os2 g
def os4:FuncId->Option Con
 |36=>some zut
 |35=>some zsH
 |68=>some zr6
 |62=>some zrZ
 |66=>some zuf
 |65=>some zsm
 |61=>some zum
 |70=>some zuy
 |67=>some zuJ
 |60=>some zrE
 |69=>some zrO
 |g=>os3 g
end
end Go.Ev

end

section
open Go.Proofs
namespace Go.Ev
noncomputable section
theorem zj1 {l:List D} {i:Nat} {d:D} (h:l[i]? =some d):zai l i=d:=by unfold zai;rw [h];rfl
theorem zbX {l:List D} {i:Nat} (h:i<l.length):l[i]? =some (zai l i):=by unfold zai;rw [List.getElem?_eq_getElem h];rfl
theorem zeg (Q:List D) {i j:Nat} (hj:j<=i) (hi:i<Q.length) (k:Nat):(zil Q i j)[k]? =if k<j then Q[k]? else if k=j then Q[i]? else if k<=i then Q[k-1]? else Q[k]? :=by
 unfold zil
 have h1:((Q.take i).take j).length=j:=by rw [List.length_take,List.length_take];omega
 have h2:((Q.take i).take j++zai Q i::(Q.take i).drop j).length=i+1:=by rw [List.length_append,h1,List.length_cons,List.length_drop,List.length_take];omega
 by_cases a:k<j
 .rw [if_pos a,List.getElem?_append_left (by rw [h2];omega),List.getElem?_append_left (by rw [h1];exact a),List.getElem?_take_of_lt a,List.getElem?_take_of_lt (by omega)]
 .rw [if_neg a]
  by_cases b:k=j
  .rw [if_pos b,List.getElem?_append_left (by rw [h2];omega),List.getElem?_append_right (by rw [h1];omega),h1,b,Nat.sub_self,List.getElem?_cons_zero,zbX hi]
  .rw [if_neg b]
   by_cases d:k<=i
   .rw [if_pos d,List.getElem?_append_left (by rw [h2];omega),List.getElem?_append_right (by rw [h1];omega),h1,show k-j=(k-j-1)+1 by omega,List.getElem?_cons_succ,List.getElem?_drop,List.getElem?_take_of_lt (by omega)]
    congr 1;omega
   .rw [if_neg d,List.getElem?_append_right (by rw [h2];omega),h2,List.getElem?_drop]
    congr 1;omega
theorem ziQ (Q:List D) {i j:Nat} (hj:j<=i) (hi:i<Q.length):(zil Q i j).length=Q.length:=by
 unfold zil
 rw [List.length_append,List.length_append,List.length_cons,List.length_drop,List.length_drop,List.length_take,List.length_take];omega
theorem zrV (Q:List D) {i:Nat} (hi:i<Q.length):zil Q i i=Q:=by
 apply List.ext_getElem?
 intro k
 rw [zeg Q (Nat.le_refl i) hi]
 by_cases a:k<i
 .rw [if_pos a]
 .rw [if_neg a]
  by_cases b:k=i
  .rw [if_pos b,b]
  .rw [if_neg b,if_neg (by omega)]
theorem zuv (Q:List D) {i j:Nat} (hj:j<=i) (hi:i<Q.length):zai (zil Q i j) j=zai Q i:=by
 unfold zai;rw [zeg Q hj hi,if_neg (by omega),if_pos rfl]
theorem zrK (Q:List D) {i j:Nat} (h0:0<j) (hj:j<=i) (hi:i<Q.length):zai (zil Q i j) (j-1)=zai Q (j-1):=by
 unfold zai;rw [zeg Q hj hi,if_pos (by omega)]
theorem zq1 (Q:List D) {i j:Nat} (h0:0<j) (hj:j<=i) (hi:i<Q.length):((zil Q i j).set j (zai Q (j-1))).set (j-1) (zai Q i)=zil Q i (j-1):=by
 apply List.ext_getElem?
 intro k
 rw [List.getElem?_set,List.getElem?_set,List.length_set,ziQ Q hj hi,zeg Q hj hi,zeg Q (by omega) hi]
 by_cases a:j-1=k
 .rw [if_pos a,if_pos (by omega),if_neg (by omega),if_pos (by omega),zbX hi]
 .rw [if_neg a]
  by_cases b:j=k
  .rw [if_pos b,if_pos (by omega),if_neg (by omega),if_neg (by omega),if_pos (by omega),<-b,zbX (by omega)]
  .rw [if_neg b]
   by_cases d:k<j
   .rw [if_pos d,if_pos (by omega)]
   .rw [if_neg d,if_neg (show¬k=j by omega),if_neg (show¬k<j-1 by omega),if_neg (show¬k=j-1 by omega)]
theorem zs2 {f:D->D->Int} (Q:List D) {i j:Nat} (hi:i<Q.length) (h:ze7 f (zai Q i) (Q.take i) i=j):zil Q i j=ztd f (zai Q i) (Q.take i)++Q.drop (i+1):=by
 unfold zil ztd
 rw [show (Q.take i).length=i by rw [List.length_take];omega,h]
theorem zl3 {α:Type} {f:α->α->Int}:∀(l P:List α) (e:α),zjq f P (l++ [e])=ztd f e (zjq f P l)
 | [],_,_=>rfl
 |_::l,_,e=>zl3 l _ e
theorem zhe {α:Type} {f:α->α->Int} (l:List α):(zjq f [] l).length=l.length:=(zfm l []).length_eq
theorem zqN (f:D->D->Int) (R:List D):zcf f R 0 0=R:=by unfold zcf;rw [if_pos rfl];rfl
theorem zpx (f:D->D->Int) (R:List D):zcf f R 0 1=R:=by
 cases R with
 |nil=>rfl
 |cons a R=>rfl
theorem ztT {f:D->D->Int} {R:List D} {a:Int} (h:a≠0) (i:Nat):zcf f R a i=R:=by unfold zcf;rw [if_neg h]
theorem zmC (f:D->D->Int) (R:List D) (a:Int) (i:Nat):(zcf f R a i).length=R.length:=by
 unfold zcf;split
 .rw [List.length_append,zhe,List.length_take,List.length_drop];omega
 .rfl
theorem zpe (f:D->D->Int) (R:List D) {i:Nat} (hi:i<=R.length):(zcf f R 0 i).take i=zjq f [] (R.take i):=by
 unfold zcf;rw [if_pos rfl]
 have:(zjq f [] (R.take i)).length=i:=by rw [zhe,List.length_take];omega
 rw [List.take_append_of_le_length (by omega),List.take_of_length_le (by omega)]
theorem zs5 (f:D->D->Int) (R:List D) {i k:Nat} (hi:i<=k) (hk:k<R.length):(zcf f R 0 i)[k]? =R[k]? :=by
 unfold zcf;rw [if_pos rfl]
 have:(zjq f [] (R.take i)).length=i:=by rw [zhe,List.length_take];omega
 rw [List.getElem?_append_right (by omega),this,List.getElem?_drop]
 congr 1;omega
theorem zoQ (f:D->D->Int) (R:List D) {i:Nat} (hi:i<R.length):(zcf f R 0 i).drop (i+1)=R.drop (i+1):=by
 unfold zcf;rw [if_pos rfl]
 have:(zjq f [] (R.take i)).length=i:=by rw [zhe,List.length_take];omega
 rw [List.drop_append,List.drop_of_length_le (by omega),this,List.nil_append,List.drop_drop]
 congr 1;omega
theorem zor {f:D->D->Int} {R:List D} {i j:Nat} (hi:i<R.length) (h:ze7 f (zai (zcf f R 0 i) i) ((zcf f R 0 i).take i) i=j):zil (zcf f R 0 i) i j=zcf f R 0 (i+1):=by
 rw [zs2 _ (by rw [zmC];exact hi) h,zpe f R (by omega),zoQ f R hi]
 have e:zai (zcf f R 0 i) i=zai R i:=by unfold zai;rw [zs5 f R (Nat.le_refl i) hi]
 rw [e]
 show _=(if (0:Int)=0 then _ else _)
 rw [if_pos rfl,List.take_add_one,zbX hi,Option.toList_some,zl3]
theorem zlU (f:D->D->Int) (R:List D) {n:Nat} (h:R.length<=n):zcf f R 0 n=zjq f [] R:=by
 unfold zcf;rw [if_pos rfl,List.take_of_length_le h,List.drop_of_length_le h,List.append_nil]
theorem zwq {f:D->D->Int} {e:D} {P:List D} {j:Nat} (h0:0<j) (hj:j<=P.length) (h:f e (zai P (j-1))<0):ze7 f e P (j-1)=ze7 f e P j:=by
 obtain ⟨k,rfl⟩:∃k,j=k+1:=⟨j-1,by omega⟩
 rw [Nat.add_sub_cancel] at h⊢
 show _=ze7 f e P (k+1)
 unfold ze7
 rw [zbX (by omega)]
 simp only [if_pos h]
 cases k<;>rfl
theorem zsg {f:D->D->Int} {e:D} {P:List D} {j:Nat} (h0:0<j) (hj:j<=P.length) (h:¬f e (zai P (j-1))<0):ze7 f e P j=j:=by
 obtain ⟨k,rfl⟩:∃k,j=k+1:=⟨j-1,by omega⟩
 rw [Nat.add_sub_cancel] at h
 unfold ze7
 rw [zbX (by omega)]
 simp only [if_neg h]
theorem ziY {α:Type} {f:α->α->Int} (z y:α):∀S:List α,zda f (S++ [z]++ [y])=if f z y≠0 then zda f (S++ [z])++ [[y]] else (zda f (S++ [z])).dropLast++ [((zda f (S++ [z])).getLast?.getD [])++ [y]]
 | []=>by
  show zda f [z,y]=_
  unfold zda
  split<;>simp [zda]
 |x::S=>by
  have ih:=ziY (f:=f) z y S
  obtain ⟨w,T,hT⟩:∃w T,S++ [z]=w::T:=by cases S with|nil=>exact ⟨z,[],rfl⟩|cons w T=>exact ⟨w,T++ [z],rfl⟩
  have e1:zda f (x::S++ [z])=if f x w≠0 then [x]::zda f (S++ [z]) else match zda f (S++ [z]) with|g::gs=>(x::g)::gs| []=> [[x]]:=by
   rw [List.cons_append,hT];rfl
  have e2:zda f (x::S++ [z]++ [y])=if f x w≠0 then [x]::zda f (S++ [z]++ [y]) else match zda f (S++ [z]++ [y]) with|g::gs=>(x::g)::gs| []=> [[x]]:=by
   rw [List.cons_append,List.cons_append,hT,List.cons_append];rfl
  obtain ⟨r,gs,hr⟩:=zmK (f:=f) w T
  rw [<-hT] at hr
  rw [e1,e2,ih,hr]
  by_cases c:f x w≠0
  .rw [if_pos c,if_pos c]
   by_cases d:f z y≠0
   .rw [if_pos d,if_pos d];rfl
   .rw [if_neg d,if_neg d];rfl
  .rw [if_neg c,if_neg c]
   by_cases d:f z y≠0
   .rw [if_pos d,if_pos d];rfl
   .rw [if_neg d,if_neg d]
    cases gs<;>rfl
theorem zng {α:Type} (A:List α) (a b:α):(A++ [a]).set (A.length) b=A++ [b]:=by
 rw [List.set_append_right _ _ (Nat.le_refl _),Nat.sub_self];rfl
theorem zlH {f:D->D->Int} {Q:List D} {x:Nat} (hx:x<Q.length):0<(zeU f Q (grL f Q x) x).length/\(zeU f Q (grL f Q x) x).length=(grL f Q (x+1)).length/\
  (zai (zeU f Q (grL f Q x) x) ((zeU f Q (grL f Q x) x).length-1)= .nil->(zeU f Q (grL f Q x) x).set ((zeU f Q (grL f Q x) x).length-1) (.list [.int ((zai Q x).fld 1).asInt])=grL f Q (x+1))/\
  (∀r,zai (zeU f Q (grL f Q x) x) ((zeU f Q (grL f Q x) x).length-1)= .list r->(zeU f Q (grL f Q x) x).set ((zeU f Q (grL f Q x) x).length-1) (.list (r++ [.int ((zai Q x).fld 1).asInt]))=grL f Q (x+1))/\
  (∀n,zai (zeU f Q (grL f Q x) x) ((zeU f Q (grL f Q x) x).length-1)≠ .int n):=by
 have hq:Q.take (x+1)=Q.take x++ [zai Q x]:=by rw [List.take_add_one,zbX hx];rfl
 by_cases hb:zze f Q x
 .have e:zeU f Q (grL f Q x) x=grL f Q x++ [.nil]:=by unfold zeU;rw [if_pos hb]
  have e2:grL f Q (x+1)=grL f Q x++ [.list [.int ((zai Q x).fld 1).asInt]]:=by
   have:zda f (Q.take (x+1))=zda f (Q.take x)++ [[zai Q x]]:=by
    rw [hq]
    cases x with
    |zero=>rfl
    |succ k=>
     have hk:Q.take (k+1)=Q.take k++ [zai Q k]:=by rw [List.take_add_one,zbX (by omega)];rfl
     have h1:f (zai Q k) (zai Q (k+1))≠0:=hb.out.resolve_left (by omega)
     rw [hk,ziY,if_pos h1]
   show List.map _ _=List.map _ _++_
   rw [this,List.map_append];rfl
  rw [e,List.length_append,show (grL f Q x).length+ [D.nil].length-1=(grL f Q x).length from rfl]
  have en:zai (grL f Q x++ [.nil]) (grL f Q x).length= .nil:=zj1 (by rw [List.getElem?_append_right (Nat.le_refl _),Nat.sub_self];rfl)
  rw [en,e2,List.length_append]
  exact ⟨Nat.succ_pos _,rfl,(λ_=>zng _ _ _),λr h=>(by cases h),λn h=>(by cases h)⟩
 .have e:zeU f Q (grL f Q x) x=grL f Q x:=by unfold zeU;rw [if_neg hb]
  have hx0:x≠0:=λh=>hb ⟨.inl h⟩
  have h0:f (zai Q (x-1)) (zai Q x)=0:=Classical.byContradiction λh=>hb ⟨.inr h⟩
  obtain ⟨k,rfl⟩:∃k,x=k+1:=⟨x-1,by omega⟩
  rw [Nat.add_sub_cancel] at h0
  have hk:Q.take (k+1)=Q.take k++ [zai Q k]:=by rw [List.take_add_one,zbX (by omega)];rfl
  have hs:zda f (Q.take (k+1+1))=(zda f (Q.take (k+1))).dropLast++ [((zda f (Q.take (k+1))).getLast?.getD [])++ [zai Q (k+1)]]:=by
   rw [hq,hk,ziY,if_neg (by omega)]
  have hne:zda f (Q.take (k+1))≠ []:=λh=>by
   have:=zcY (f:=f) (Q.take (k+1))
   rw [h,hk] at this
   simp at this
  obtain ⟨A,g,hA⟩:∃A g,zda f (Q.take (k+1))=A++ [g]:=⟨_,_,(List.dropLast_concat_getLast hne).symm⟩
  have eg:grL f Q (k+1)=A.map zjR++ [zjR g]:=by unfold grL;rw [hA,List.map_append];rfl
  have eg2:grL f Q (k+1+1)=A.map zjR++ [zjR (g++ [zai Q (k+1)])]:=by
   show (zda f (Q.take (k+1+1))).map zjR=_
   rw [hs,hA,List.dropLast_concat,List.map_append]
   simp
  rw [e,eg,eg2,List.length_append,List.length_append,show (A.map zjR).length+ [zjR g].length-1=(A.map zjR).length from rfl]
  have en:zai (A.map zjR++ [zjR g]) (A.map zjR).length=zjR g:=zj1 (by rw [List.getElem?_append_right (Nat.le_refl _),Nat.sub_self];rfl)
  rw [en]
  refine ⟨Nat.succ_pos _,rfl,(λh=>by cases h),(λr h=> ?_),(λn h=>by cases h)⟩
  rw [zng]
  unfold zjR at h⊢
  cases h
  rw [List.map_append];rfl
end
end Go.Ev

end
