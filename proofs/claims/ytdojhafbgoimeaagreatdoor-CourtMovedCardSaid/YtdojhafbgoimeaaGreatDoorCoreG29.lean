/- Part of the proof. -/
import Derived.Test.YtdojhafbgoimeaaGreatDoorCoreG28
import Derived.Test.YtdojhafbgoimeaaGreatDoorCoreG25

section
open Go.Proofs
namespace Go.Ev
set_option maxRecDepth 100000
def zuS {α:Type} (f:α->α->Int) (X:List α):Nat->α->Prop
 |0,x=>x∈X
 |k+1,x=>x∈X/\∃z,zuS f X k z/\f z x<0
theorem zj8 {α:Type} {f:α->α->Int} {X:List α}:∀{k:Nat} {x:α},zuS f X k x->x∈X
 |0,_,h=>h
 |_+1,_,h=>h.1
theorem zoD {α:Type} {f:α->α->Int} {p:α->Int} {X:List α} {G:List (List α)} (h:zqn f p X G) {x:α} (hx:x∈X):∃(s:Nat) (g:List α),G[s]? =some g/\x∈g:=by
 obtain ⟨g,h1,h2⟩:=List.mem_flatten.1 (h.perm.mem_iff.2 hx)
 obtain ⟨s,hs⟩:=List.mem_iff_getElem?.1 h1
 exact ⟨s,g,hs,h2⟩
theorem zdL {α:Type} {f:α->α->Int} {p:α->Int} {X:List α} {G:List (List α)} (h:zqn f p X G) (ha:∀x y,x∈X->y∈X->f y x= -f x y):∀(k s:Nat) (g:List α) (x:α),G[s]? =some g->x∈g->(zuS f X k x↔k<=s)
 |0,s,g,x,hs,hx=>⟨λ_=>Nat.zero_le _,λ_=>h.perm.mem_iff.1 (List.mem_flatten.2 ⟨g,List.mem_of_getElem? hs,hx⟩)⟩
 |k+1,s,g,x,hs,hx=>by
  have hxX:x∈X:=h.perm.mem_iff.1 (List.mem_flatten.2 ⟨g,List.mem_of_getElem? hs,hx⟩)
  constructor
  .rintro ⟨_,z,hz,hlt⟩
   obtain ⟨t,gz,ht,hzg⟩:=zoD h (zj8 hz)
   have hk:=(zdL h ha k t gz z ht hzg).1 hz
   by_cases e:t<s
   .omega
   .by_cases e2:t=s
    .subst e2
     rw [hs] at ht;cases ht
     have:=h.tie g (List.mem_of_getElem? hs) z x hzg hx;omega
    .have:=zrD h.bef (by omega:s<t) hs ht x z hx hzg
     have:=ha x z hxX (zj8 hz);omega
  .intro hk
   have hkl:k<G.length:=by have:=(List.getElem?_eq_some_iff.1 hs).1;omega
   have hgk:G[k]? =some G[k]:=List.getElem?_eq_getElem hkl
   have hne:=h.ne G[k] (List.mem_of_getElem? hgk)
   obtain ⟨z,r,hzr⟩:=List.exists_cons_of_ne_nil hne
   have hz:z∈G[k]:=by rw [hzr];exact List.mem_cons_self
   exact ⟨hxX,z,(zdL h ha k k G[k] z hgk hz).2 (Nat.le_refl _),zrD h.bef (by omega:k<s) hgk hs z x hz hx⟩
theorem znG {α β:Type} {f:α->α->Int} {f':β->β->Int} {X:List α} {Y:List β} {R:α->β->Prop} (h1:∀x,x∈X->∃y,y∈Y/\R x y) (hf:∀x y x' y',R x y->R x' y'->f x x'=f' y y') (hY:∀x y,R x y->y∈Y):∀(k:Nat) (x:α) (y:β),R x y->zuS f X k x->zuS f' Y k y
 |0,x,y,r,_=>hY x y r
 |k+1,x,y,r,⟨_,z,hz,hlt⟩=>by
  obtain ⟨z',_,rz⟩:=h1 z (zj8 hz)
  exact ⟨hY x y r,z',znG h1 hf hY k z z' rz hz,by rw [<-hf z z' x y rz r];exact hlt⟩
theorem zt5 {α β:Type} {f:α->α->Int} {f':β->β->Int} {p:α->Int} {p':β->Int} {X:List α} {Y:List β} {G:List (List α)} {G':List (List β)} {R:α->β->Prop} (hG:zqn f p X G) (hG':zqn f' p' Y G') (ha:∀x y,x∈X->y∈X->f y x= -f x y) (ha':∀x y,x∈Y->y∈Y->f' y x= -f' x y)
  (h1:∀x,x∈X->∃y,y∈Y/\R x y) (h2:∀y,y∈Y->∃x,x∈X/\R x y) (hX:∀x y,R x y->x∈X) (hY:∀x y,R x y->y∈Y) (hf:∀x y x' y',R x y->R x' y'->f x x'=f' y y') {x:α} {y:β} (hr:R x y) {s t:Nat} {g:List α} {g':List β} (hs:G[s]? =some g) (hx:x∈g) (ht:G'[t]? =some g') (hy:y∈g'):s=t:=by
 have a:∀k,k<=s->k<=t:=λk hk=>(zdL hG' ha' k t g' y ht hy).1 (znG h1 hf hY k x y hr ((zdL hG ha k s g x hs hx).2 hk))
 have b:∀k,k<=t->k<=s:=λk hk=>(zdL hG ha k s g x hs hx).1 (znG (R:=λy x=>R x y) h2 (λy x y' x' r r'=>(hf x y x' y' r r').symm) (λy x r=>hX x y r) k y x hr ((zdL hG' ha' k t g' y ht hy).2 hk))
 exact Nat.le_antisymm (a s (Nat.le_refl _)) (b t (Nat.le_refl _))
theorem zpz (k:Int) (s:D) (R:List D):∀(j x:Nat),x<R.length->((∃i,i<j/\(el s i).asInt.toNat=x)->zad (ziK R k s j) x= .int k)/\((¬ ∃i,i<j/\(el s i).asInt.toNat=x)->zad (ziK R k s j) x=zad R x)
 |0,x,_=>⟨λ⟨i,h,_⟩=>absurd h (Nat.not_lt_zero _),λ_=>rfl⟩
 |j+1,x,hx=>by
  have ih:=zpz k s R j x hx
  have hl:=zfQ R k s j
  have e:zad (ziK R k s (j+1)) x=if (el s j).asInt.toNat=x then .int k else zad (ziK R k s j) x:=by
   show zad ((ziK R k s j).set _ _) x=_
   unfold zad
   rw [List.getElem?_set]
   split
   .rw [if_pos (by omega)];rfl
   .rfl
  rw [e]
  constructor
  .rintro ⟨i,hi,he⟩
   split
   .rfl
   .rename_i hn
    refine ih.1 ⟨i, ?_,he⟩
    by_cases q:i=j
    .subst q;exact absurd he hn
    .omega
  .intro hn
   rw [if_neg λhe=>hn ⟨j,Nat.lt_succ_self _,he⟩]
   exact ih.2 λ⟨i,hi,he⟩=>hn ⟨i,by omega,he⟩
theorem zu9 {s:List Nat} {x:Nat}:(∃i,i<(iD s).len/\(el (iD s) i).asInt.toNat=x)↔x∈s:=by
 constructor
 .rintro ⟨i,hi,he⟩
  rw [zly] at hi
  rw [ztG hi] at he
  have:s[i]=x:=by rw [<-he];exact (Int.toNat_natCast _).symm
  rw [<-this];exact List.getElem_mem hi
 .intro h
  obtain ⟨i,hi,he⟩:=List.getElem_of_mem h
  refine ⟨i,by rw [zly];exact hi, ?_⟩
  rw [ztG hi,he];exact Int.toNat_natCast _
theorem zpB {G:List (List Nat)} {R:List D} {x:Nat} (hx:x<R.length):∀K,K<=G.length->((∀t g,t<K->G[t]? =some g->x∉g)->zad (zbQ R (za6 (G.map iD)) K) x=zad R x)/\
  ∀t g,t<K->G[t]? =some g->x∈g->(∀t' g',t<t'->G[t']? =some g'->x∉g')->zad (zbQ R (za6 (G.map iD)) K) x= .int t
 |0,_=>⟨λ_=>rfl,λt g h=>absurd h (Nat.not_lt_zero _)⟩
 |K+1,hK=>by
  have ih:=zpB (G:=G) (R:=R) (x:=x) hx K (by omega)
  have hel:el (za6 (G.map iD)) K=iD G[K]:=by
   rw [ztK (by rw [List.length_map];omega),List.getElem_map]
  have hS:=zpz K (el (za6 (G.map iD)) K) (zbQ R (za6 (G.map iD)) K) (el (za6 (G.map iD)) K).len x (by rw [zcA];exact hx)
  have hgK:G[K]? =some G[K]:=List.getElem?_eq_getElem (by omega)
  rw [hel,zu9] at hS
  refine ⟨λhn=> ?_,λt g ht hg hxg hl=> ?_⟩
  .show zad (ziK _ _ _ _) x=_
   rw [hel,hS.2 (hn K _ (Nat.lt_succ_self _) hgK)]
   exact ih.1 λt g h=>hn t g (by omega)
  .show zad (ziK _ _ _ _) x=_
   rw [hel]
   by_cases e:t=K
   .subst e
    rw [hgK] at hg;cases hg
    exact hS.1 hxg
   .rw [hS.2 (hl K _ (by omega) hgK)]
    exact ih.2 t g (by omega) hg hxg hl
theorem zsc {c g:D} (h:okO c g) {x:Nat} (hx:x<g.len):∃(G:List (List Nat)) (s:Nat) (gr:List Nat),zqn (rkZ c g) (λx=>(x:Int)) (List.range g.len) G/\G[s]? =some gr/\x∈gr/\zad (zbQ (List.replicate g.len (.int 0)) (orD c g) (orD c g).len) x= .int s:=by
 obtain ⟨G,e,hG⟩:=zsE h
 obtain ⟨s,gr,h1,h2⟩:=zoD hG (List.mem_range.2 hx)
 refine ⟨G,s,gr,hG,h1,h2, ?_⟩
 rw [e,zjl,List.length_map]
 refine (zpB (by rw [List.length_replicate];exact hx) G.length (Nat.le_refl _)).2 s gr (List.getElem?_eq_some_iff.1 h1).1 h1 h2 λt' g' hlt ht' hx'=> ?_
 have a:=zrD hG.bef hlt h1 ht' x x h2 hx'
 have b:=hG.tie gr (List.mem_of_getElem? h1) x x h2 h2
 omega
theorem zlf {k:Int} {la:Prop} {nm:D} {n:Int} {a b:GD} {i j i' j':Int} (hk:¬zfa k) (h:ziH k la nm n a b i j):ziH k la nm n a b i' j':=by
 have h9:k≠9:=λe=>hk ⟨.inl e⟩
 have h10:k≠10:=λe=>hk ⟨.inr e⟩
 rcases h.out with q|q|q|q|q|q|q
 .exact ⟨.inl q⟩
 .exact ⟨.inr (.inl q)⟩
 .exact ⟨.inr (.inr (.inl q))⟩
 .exact ⟨.inr (.inr (.inr (.inl q)))⟩
 .exact absurd q.1 h9
 .exact absurd q.1 h10
 .exact ⟨.inr (.inr (.inr (.inr (.inr (.inr q)))))⟩
theorem zv4 {k:Int} {s:List UInt8} {la:Prop} {nm:D} {n:Int} {a b:GD} {i j i' j':Int} (hk:¬zfa k):clZ k s la nm n a b i j=clZ k s la nm n a b i' j':=by
 have e1:ziH k la nm n a b i j=ziH k la nm n a b i' j':=propext ⟨zlf hk,zlf hk⟩
 have e2:ziH k la nm n b a j i=ziH k la nm n b a j' i':=propext ⟨zlf hk,zlf hk⟩
 unfold clZ
 rw [e1,e2]
theorem zjq {f g:Nat->Int}:∀n,(∀k,k<n->f k=g k)->zgW f n=zgW g n
 |0,_=>rfl
 |n+1,h=>by unfold zgW;rw [zjq n λk hk=>h k (by omega),h n (by omega)]
theorem zt2 {c:D} (hk:∀x,x<c.len->¬zfa (cK (el c x))) (a b:GD) (i j i' j':Int):zsF c (a,i) (b,j)=zsF c (a,i') (b,j'):=
 zjq c.len λk h=>zv4 (hk k h)
theorem zuT {c g:D} {M:List D} (hk:∀x,x<c.len->¬zfa (cK (el c x))) (h1:okO c g) (h2:okO c (.list M)) (hp:M.Perm g.asList) {x y:Nat} (hx:x<g.len) (hy:y<M.length) (he:gAt (el g x)=gAt (zad M y)):
  (zad (zbQ (List.replicate g.len (.int 0)) (orD c g) (orD c g).len) x).asInt=(zad (zbQ (List.replicate M.length (.int 0)) (orD c (.list M)) (orD c (.list M)).len) y).asInt:=by
 obtain ⟨G,s,gr,hG,hs,hxg,e1⟩:=zsc h1 hx
 obtain ⟨G',t,gr',hG',ht,hyg,e2⟩:=zsc h2 (x:=y) hy
 have e2:zad (zbQ (List.replicate M.length (.int 0)) (orD c (.list M)) (orD c (.list M)).len) y= .int t:=e2
 rw [e1,e2]
 have hl:M.length=g.len:=hp.length_eq
 have an:∀(g:D),okO c g->∀x y,x∈List.range g.len->y∈List.range g.len->rkZ c g y x= -rkZ c g x y:=λg h x y hx hy=>by
  have a:=List.mem_range.1 hx
  have b:=List.mem_range.1 hy
  have n:=h.out.1
  exact (zxu h.out.2 g).anti x y ⟨by omega,by omega⟩ ⟨by omega,by omega⟩
 have:=zt5 (R:=λx y=>x<g.len/\y<M.length/\gAt (el g x)=gAt (zad M y)) hG hG' (an g h1) (an (.list M) h2) (λx hx=> ?_) (λy hy=> ?_) (λx y r=>List.mem_range.2 r.1) (λx y r=>List.mem_range.2 r.2.1) (λx y x' y' r r'=> ?_) ⟨hx,hy,he⟩ hs hxg ht hyg
 .rw [this]
 .have hx:=List.mem_range.1 hx
  have hm:zad g.asList x∈M:=hp.mem_iff.2 (by have:x<g.asList.length:=hx;unfold zad;rw [List.getElem?_eq_getElem this];exact List.getElem_mem this)
  obtain ⟨y,hy,e⟩:=List.getElem_of_mem hm
  refine ⟨y,List.mem_range.2 hy,hx,hy, ?_⟩
  have:zad M y=zad g.asList x:=by unfold zad at e⊢;rw [List.getElem?_eq_getElem hy];exact e
  rw [this];rfl
 .have hy:y<M.length:=List.mem_range.1 hy
  have hm:M[y]∈g.asList:=hp.mem_iff.1 (List.getElem_mem hy)
  obtain ⟨x,hx,e⟩:=List.getElem_of_mem hm
  refine ⟨x,List.mem_range.2 hx,hx,hy, ?_⟩
  have:zad M y=zad g.asList x:=by unfold zad;rw [List.getElem?_eq_getElem hy,List.getElem?_eq_getElem hx,e]
  rw [this];rfl
 .show zsF c _ _=zsF c _ _
  have q1:=r.2.2
  have q2:=r'.2.2
  have z1:el (D.list M) y=zad M y:=rfl
  have z2:el (D.list M) y'=zad M y':=rfl
  rw [q1,q2,z1,z2]
  exact zt2 hk _ _ _ _ _ _
theorem zkc (q:D->Bool):∀(L:List D) (i:Nat) (d:D),(L.filter q)[i]? =some d->∃j,L[j]? =some d/\q d=true/\(L.filter q).take i=(L.take j).filter q
 | [],i,d,h=>by simp at h
 |a::L,i,d,h=>by
  rw [List.filter_cons] at h⊢
  by_cases e:q a=true
  .rw [if_pos e] at h⊢
   cases i with
   |zero=>exact ⟨0,by simpa using h,by simp at h;rw [<-h];exact e,rfl⟩
   |succ i=>
    obtain ⟨j,h1,h2,h3⟩:=zkc q L i d (by simpa using h)
    exact ⟨j+1,by simpa using h1,h2,by rw [List.take_succ_cons,List.take_succ_cons,List.filter_cons,if_pos e,h3]⟩
  .rw [if_neg e] at h⊢
   obtain ⟨j,h1,h2,h3⟩:=zkc q L i d h
   exact ⟨j+1,by simpa using h1,h2,by rw [List.take_succ_cons,List.filter_cons,if_neg e,h3]⟩
theorem zqx {L:List D} (hv:(zbB (.list L)).2=0) (q:D->Bool) (hq:∀d,d∈L->cK d=1->q d=true):(zbB (.list (L.filter q))).2=0:=by
 have h32:L.length<=32:=zuN hv
 refine zj4 (by show (L.filter q).length<=32;exact Nat.le_trans (List.length_filter_le _ _) h32) λi hi=> ?_
 have hi:i<(L.filter q).length:=hi
 obtain ⟨j,h1,h2,h3⟩:=zkc q L i _ (List.getElem?_eq_getElem hi)
 have hj:j<L.length:=(List.getElem?_eq_some_iff.1 h1).1
 have e:=zs5 hv (x:=j) hj
 have ed:el (.list (L.filter q)) i=el (.list L) j:=by
  show zad (L.filter q) i=zad L j
  unfold zad;rw [List.getElem?_eq_getElem hi,h1]
 unfold zg0 at e⊢
 rw [ed]
 rw [zlo] at e⊢
 refine ⟨e.1,e.2.1,e.2.2.1,e.2.2.2.1,λha=>e.2.2.2.2 ⟨ha.1,λhl=>ha.2 ?_⟩⟩
 obtain ⟨k,k1,k2,k3⟩:=hl.out
 have hkl:k<L.length:=by omega
 have hm:L[k]∈(L.take j).filter q:=List.mem_filter.2 ⟨by
  rw [List.mem_take_iff_getElem];exact ⟨k,by omega,rfl⟩,hq _ (List.getElem_mem hkl) (by
  have:zad L k=L[k]:=by unfold zad;rw [List.getElem?_eq_getElem hkl];rfl
  rw [<-this];exact k2)⟩
 rw [<-h3] at hm
 obtain ⟨k',hk',he⟩:=List.mem_take_iff_getElem.1 hm
 refine ⟨k',by omega, ?_⟩
 have:el (.list (L.filter q)) k'=el (.list L) k:=by
  show zad (L.filter q) k'=zad L k
  unfold zad;rw [List.getElem?_eq_getElem (by omega),List.getElem?_eq_getElem hkl,he]
 rw [this];exact ⟨k2,k3⟩
end Go.Ev

end

section
open Go.Proofs
namespace Go.Ev
set_option maxRecDepth 100000
set_option maxHeartbeats 4000000
theorem zxr:∀(g:D),zah (zjX (λ_=>none) λ_ _=>none) 4 (40:FuncId) [V.dat (23:TypeId) g] (V.ownr (53:TypeId) false (0<g.len) g.asList)=((g.isNil->0<g.len->False)/\((g.isNil->False)->
(g.len=0->False)/\(0<g.len->0+0<=([]:List D).length/\0+g.len<=16777216/\(0+g.len<=0->0+0+g.len<=([]:List D).length/\False)/\(0<0+g.len->0<g.len/\(0:Nat)=0/\g.len=
g.asList.length/\List.take 0 ([]:List D)++g.asList=g.asList)))):=by intros;kernel_rfl
theorem zyw (g:D) (h1:g.len<=100) (h2:zvS g):zah (zjX (λ_=>none) (λ_ _=>none)) 4 40 [.dat 23 g] (.ownr 53 false (0<g.len) g.asList):=by
 rw [zxr]
 have h:=h2.out
 generalize g.asList=r at h
 subst h
 cases r with
 |nil=>exact ⟨λ_ h=>absurd h (Nat.lt_irrefl 0),λh=>(h trivial).elim⟩
 |cons a r=>
  have hl:(za6 (a::r)).len=r.length+1:=rfl
  exact ⟨λh=>h.elim,λ_=>⟨λh=>by omega,λ_=>⟨Nat.le_refl _,by omega,λh=>by omega,λ_=>⟨by omega,rfl,rfl,rfl⟩⟩⟩⟩
theorem zxq:∀(c g:D),zah (zqV os1 c g) 4 (35:FuncId) [V.dat (22:TypeId) c,V.dat (23:TypeId) g] (V.ownr (3:TypeId) true (okO c g) (zbQ (List.replicate g.len (D.int 0)) (orD c g) (orD c g).len))=
(((g.len:Int)<=64->zaX c/\(((zbB c).snd=0->False)->okO c g->False)/\((((zbB c).snd=0->False)->False)->0<=(g.len:Int)/\(g.len:Int)<=(g.len:Int)/\(g.len:Int)<=16777216/\(zqV (λ_=>
none) D.nil D.nil).P.types[3].bytes*g.len<=281474976710656/\zkw c g/\(∃(x:Nat),x.le (orD c g).len/\(0=(x:Int)/\True)/\List.replicate g.len (D.int 0)=zbQ (List.replicate g.len (D.int 0)) (orD c g) x/\
True)/\∀(x:Nat),x.le (orD c g).len->(orD c g).len-x<LIM/\((x:Int)<(↑(orD c g).len:Int)->0<=(x:Int)/\(x:Int)<(↑(orD c g).len:Int)/\(∃(x_1:Nat),x_1.le (el (orD c g) x).len/\(0=(x_1:
Int)/\True)/\zbQ (List.replicate g.len (D.int 0)) (orD c g) x=ziK (zbQ (List.replicate g.len (D.int 0)) (orD c g) x) (x:Int) (el (orD c g) x) x_1/\True)/\∀(x_1:Nat),x_1.le (el (orD c g) x).len->(el (orD c
g) x).len-x_1<LIM/\((x_1:Int)<(↑(el (orD c g) x).len:Int)->0<=(x_1:Int)/\(x_1:Int)<(↑(el (orD c g) x).len:Int)/\0<=(el (el (orD c g) x) x_1).asInt/\(el (el (orD c g) x) x_1).asInt<(g.len:Int)
/\(el (el (orD c g) x) x_1).asInt.toNat<(ziK (zbQ (List.replicate g.len (D.int 0)) (orD c g) x) (x:Int) (el (orD c g) x) x_1).length/\fits64 ((x_1:Int)+1)/\∃(y:Nat),y.le (el (orD c g) x).len/\(el (orD c
g) x).len-y<(el (orD c g) x).len-x_1/\((x_1:Int)+1=(y:Int)/\True)/\(ziK (zbQ (List.replicate g.len (D.int 0)) (orD c g) x) (x:Int) (el (orD c g) x) x_1).set (el (el (orD c g) x) x_1).asInt.toNat
(D.int (x:Int))=ziK (zbQ (List.replicate g.len (D.int 0)) (orD c g) x) (x:Int) (el (orD c g) x) y/\True)/\(((x_1:Int)<(↑(el (orD c g) x).len:Int)->False)->fits64 ((x:Int)+1)/\∃(y:Nat),y.le (orD
c g).len/\(orD c g).len-y<(orD c g).len-x/\((x:Int)+1=(y:Int)/\True)/\ziK (zbQ (List.replicate g.len (D.int 0)) (orD c g) x) (x:Int) (el (orD c g) x) x_1=zbQ (List.replicate g.len (D.int 0)) (orD
c g) y/\True))/\(((x:Int)<(↑(orD c g).len:Int)->False)->okO c g/\(0:Nat)=0/\g.len=(zbQ (List.replicate g.len (D.int 0)) (orD c g) (orD c g).len).length/\g.len=(zbQ (List.replicate g.len (D.int 0))
(orD c g) (orD c g).len).length/\zbQ (List.replicate g.len (D.int 0)) (orD c g) x=zbQ (List.replicate g.len (D.int 0)) (orD c g) (orD c g).len)))/\(((g.len:Int)<=64->False)->okO c g->False)):=by intros;kernel_rfl
theorem zyv (c g:D) (h:zkw c g):zah (zqV os1 c g) 4 35 [.dat 22 c,.dat 23 g] (.ownr 3 true (okO c g) (zbQ (List.replicate g.len (.int 0)) (orD c g) (orD c g).len)):=by
 rw [zxq]
 have T:True:=trivial
 have hb8:(zqV (λ_=>none) D.nil D.nil).P.types[(3:Nat)].bytes=8:=by kernel_rfl
 refine ⟨λhl=>⟨h.out.1,λhb k=>hb k.out.2,λhb=> ?_⟩,λhl k=>hl (by have:=k.out.1;omega)⟩
 have hb:=Classical.byContradiction hb
 have hp:=zsJ h (by omega)
 have hok:okO c g:=⟨by omega,hb⟩
 have hin:=zwP hok hp.1
 have h100:=hin.out.1
 refine ⟨by omega,by omega,by omega,by rw [hb8];omega,h,⟨0,Nat.zero_le _,⟨rfl,T⟩,rfl,T⟩,λx hx=>⟨zxv (by omega),λhlt=>⟨by omega,hlt,⟨0,Nat.zero_le _,⟨rfl,T⟩,rfl,T⟩,λy hy=> ?_⟩,λhge=> ?_⟩⟩
 .have hsh:=hin.sh.out.2 x (by omega)
  refine ⟨zxv (by omega),λhlt2=> ?_,λhge=>⟨⟨by omega,by omega⟩,x+1,(by show x+1<=(orD c g).len;omega),by omega,⟨by omega,T⟩, ?_,T⟩⟩
  .have q:=hin.out.2 x y (by omega) (by omega)
   refine ⟨by omega,hlt2,q.1,by omega,by rw [zfQ,zcA,List.length_replicate];omega,⟨by omega,by omega⟩,y+1,(by show y+1<=(el (orD c g) x).len;omega),by omega,⟨by omega,T⟩,rfl,T⟩
  .rw [zgT hy hge];rfl
 .have e:=zgT hx hge
  subst e
  exact ⟨hok,rfl,by rw [zcA,List.length_replicate],by rw [zcA,List.length_replicate],rfl⟩
theorem zjP {L:List D} {x:Nat} (hx:x<L.length):L.take (x+1)=L.take x++ [zad L x]:=by
 rw [List.take_succ_eq_append_getElem hx]
 unfold zad;rw [List.getElem?_eq_getElem hx];rfl
open Classical in
theorem zog {L:List D} {x:Nat} (hx:x<L.length) (h:¬zfa (cK (zad L x))):dlL L (x+1)=dlL L x++ [zad L x]:=by
 unfold dlL
 rw [zjP hx,List.filter_append,List.filter_cons,if_pos (decide_eq_true h)];rfl
open Classical in
theorem zhI {L:List D} {x:Nat} (hx:x<L.length) (h:zfa (cK (zad L x))):dlL L (x+1)=dlL L x:=by
 unfold dlL
 rw [zjP hx,List.filter_append,List.filter_cons,if_neg (λk=>absurd h (of_decide_eq_true k))]
 exact List.append_nil _
open Classical in
theorem zqZ (L:List D) (x:Nat):(dlL L x).length<=x/\(dlL L x).length<=L.length:=by
 have h:=List.length_filter_le (λd=>decide (¬zfa (cK d))) (L.take x)
 rw [List.length_take] at h
 unfold dlL;omega
open Classical in
theorem zoh {L:List D} {x:Nat} (hx:x<=L.length) (h:∀i,i<x->¬zfa (cK (zad L i))):dlL L x=L.take x:=by
 unfold dlL
 refine List.filter_eq_self.2 λd hd=>decide_eq_true ?_
 obtain ⟨i,hi,rfl⟩:=List.mem_take_iff_getElem.1 hd
 have:=h i (by omega)
 unfold zad at this
 rw [List.getElem?_eq_getElem (by omega)] at this
 exact this
theorem zwe {L:List D} {x:Nat} (hx:x<L.length):zad (dlL L x++L.drop (dlL L x).length) x=zad L x:=by
 have:=zqZ L x
 unfold zad
 rw [List.getElem?_append_right this.1,List.getElem?_drop,show (dlL L x).length+(x-(dlL L x).length)=x by omega]
theorem zuW (L:List D) (x:Nat):(dlL L x++L.drop (dlL L x).length).length=L.length:=by
 have:=zqZ L x
 rw [List.length_append,List.length_drop];omega
theorem zuX {L A:List D} {v:D} (h:A.length<L.length):(A++L.drop A.length).set A.length v=A++ [v]++L.drop (A++ [v]).length:=by
 rw [List.set_append_right _ _ (Nat.le_refl _),Nat.sub_self,List.drop_eq_getElem_cons h,List.set_cons_zero,List.length_append,List.append_assoc];rfl
theorem zln {L:List D} (h:0<L.length):D.list (dlL L L.length)=dlD L:=by unfold dlD;rw [if_pos h]
structure mvF (L:List D) (g:D):Prop where
 l8:L.length<=8
 cl:∀x,x<L.length->D.sct [D.int (cK (zad L x)),D.str (cA (zad L x)),D.bool (cL (zad L x)),cNm (zad L x),D.int (cN (zad L x))]=zad L x
 g20:g.len<=20
 gr:zvS g
 gd:∀d,d∈g.asList->gD (gAt d)=d
 pre:zkw (dlD L) g
 ok:okO (dlD L) g
 per:∀M,List.Perm M g.asList->zkw (dlD L) (.list M)/\okO (dlD L) (.list M)/\mvP g M (zbQ (List.replicate g.len (.int 0)) (orD (dlD L) g) (orD (dlD L) g).len) (zbQ (List.replicate M.length (.int 0)) (orD (dlD L) (.list M)) (orD (dlD L) (.list M)).len)
 preN:zkw (dlD L) .nil
 okN:okO (dlD L) .nil
 fnd:∀M,List.Perm M g.asList->∀x,x<g.len->∃i,i<M.length/\nmP (zad M i) ((el g x).fld 0).asStr
theorem zpN {M:List D} {a b:Nat} (ha:a<M.length) (hb:b<M.length):((M.set a (zad M b)).set b (zad M a)).Perm M:=by
 have e1:zad M a=M[a]:=by unfold zad;rw [List.getElem?_eq_getElem ha];rfl
 have e2:zad M b=M[b]:=by unfold zad;rw [List.getElem?_eq_getElem hb];rfl
 rw [e1,e2]
 exact List.set_set_perm ha hb
theorem zxF {a n:Int} (ha:0<=a/\a<256) (hn:0<n):0<=(IntKind.i64.wrap a).tmod n/\(IntKind.i64.wrap a).tmod n<n:=by
 have e:IntKind.i64.wrap a=a:=zda (k:= .i64) (by show _<=_/\_<_;omega)
 rw [e,Int.tmod_eq_emod_of_nonneg ha.1]
 exact ⟨Int.emod_nonneg _ (by omega),Int.emod_lt_of_pos _ hn⟩
structure u8S (sw:D):Prop where
 out:∀i,i<sw.len->(0<=cK (el sw i)/\cK (el sw i)<256)/\(0<=((el sw i).fld 1).asInt/\((el sw i).fld 1).asInt<256)
theorem zy5:∀(l p sw g:D) (L:List D),zah (zqU (mv0 L g) L g sw) 4 (10:FuncId) [V.dat (40:TypeId) l,V.dat (48:TypeId) p,V.dat (65:TypeId) sw] (V.prop True)=(((zqo l/\L=mL (m8 l) (m8 l).len)/\
(0<L.length->(∃(x:Nat),(x<=L.length/\∀(i:Nat),i<x->zfa (cK (zad L i))->False)/\(0=(x:Int)/\True)/\True)/\∀(x:Nat),(x<=L.length/\∀(i:Nat),i<x->zfa (cK (zad L i))->False)->
L.length-x<LIM/\((x:Int)<(L.length:Int)->0<=(x:Int)/\(x:Int)<(L.length:Int)/\x<L.length/\True/\(zfa (cK (zad L x))->((x:Int)=(-1)->0+L.length<=L.length/\∃(x:Unit),True/\(D.list
(List.take L.length L)=dlD L/\True)/\True)/\(((x:Int)=(-1)->False)->fits64 ((x:Int)+1)/\(∃(x_1:Nat),x_1.le L.length/\((x:Int)+1=(x_1:Int)/\(x:Int)=(↑(dlL L x_1).length:Int)/\True)/\L
=dlL L x_1++List.drop (dlL L x_1).length L/\True)/\∀(x:Nat),x.le L.length->L.length-x<LIM/\((x:Int)<(L.length:Int)->0<=(x:Int)/\(x:Int)<(L.length:Int)/\x<(dlL L x++List.drop (dlL L
x).length L).length/\True/\((zfa (cK (zad (dlL L x++List.drop (dlL L x).length L) x))->False)->0<=(↑(dlL L x).length:Int)/\(↑(dlL L x).length:Int)<(L.length:Int)/\(dlL L x).length<(dlL L x++
List.drop (dlL L x).length L).length/\fits64 ((↑(dlL L x).length:Int)+1)/\fits64 ((x:Int)+1)/\∃(y:Nat),y.le L.length/\L.length-y<L.length-x/\((x:Int)+1=(y:Int)/\(↑(dlL L x).length:Int)+
1=(↑(dlL L y).length:Int)/\True)/\(dlL L x++List.drop (dlL L x).length L).set (dlL L x).length (D.sct [D.int (cK (zad (dlL L x++List.drop (dlL L x).length L) x)),D.str (cA (zad (dlL L x++List.drop (dlL L
x).length L) x)),D.bool (cL (zad (dlL L x++List.drop (dlL L x).length L) x)),cNm (zad (dlL L x++List.drop (dlL L x).length L) x),D.int (cN (zad (dlL L x++List.drop (dlL L x).length L) x))])=dlL L y++
List.drop (dlL L y).length L/\True)/\(((zfa (cK (zad (dlL L x++List.drop (dlL L x).length L) x))->False)->False)->fits64 ((x:Int)+1)/\∃(y:Nat),y.le L.length/\L.length-y<L.length-x/\((x:Int)+
1=(y:Int)/\(↑(dlL L x).length:Int)=(↑(dlL L y).length:Int)/\True)/\dlL L x++List.drop (dlL L x).length L=dlL L y++List.drop (dlL L y).length L/\True))/\(((x:Int)<(L.length:Int)->False)->0<=
(↑(dlL L x).length:Int)/\(↑(dlL L x).length:Int)<=(L.length:Int)/\((L.length:Int)-(L.length:Int)).NonNeg/\L.length-(dlL L x).length<=16777216/\(dlL L x).length+(L.length-(dlL L x).length)<=(dlL L
x++List.drop (dlL L x).length L).length/\(L.length-(dlL L x).length=0->(0:Int)<=0/\0<=(↑(dlL L x).length:Int)/\((L.length:Int)-(↑(dlL L x).length:Int)).NonNeg/\0+0+(dlL L x).length<=(dlL L x
++List.drop (dlL L x).length L).length/\∃(x_1:Unit),True/\(D.list (List.take (dlL L x).length (List.drop (0+0) (dlL L x++List.drop (dlL L x).length L)))=dlD L/\True)/\True)/\(0<L.length-(dlL L
x).length->(0:Int)<=0/\0<=(↑(dlL L x).length:Int)/\((L.length:Int)-(↑(dlL L x).length:Int)).NonNeg/\0+0+(dlL L x).length<=(List.take (dlL L x).length (dlL L x++List.drop (dlL L x).length L)++
List.replicate (L.length-(dlL L x).length) (D.sct [D.int 0,D.str ([]:List UInt8),D.bool (false=true),D.nil,D.int 0])++List.drop ((dlL L x).length+(L.length-(dlL L x).length)) (dlL L x++List.drop (dlL L
x).length L)).length/\∃(x_1:Unit),True/\(D.list (List.take (dlL L x).length (List.drop (0+0) (List.take (dlL L x).length (dlL L x++List.drop (dlL L x).length L)++List.replicate (L.length-(dlL L x).length)
(D.sct [D.int 0,D.str ([]:List UInt8),D.bool (false=true),D.nil,D.int 0])++List.drop ((dlL L x).length+(L.length-(dlL L x).length)) (dlL L x++List.drop (dlL L x).length L))))=dlD L/\True)/\True))))/\
((zfa (cK (zad L x))->False)->fits64 ((x:Int)+1)/\∃(y:Nat),(y<=L.length/\∀(i:Nat),i<y->zfa (cK (zad L i))->False)/\L.length-y<L.length-x/\((x:Int)+1=(y:Int)/\True)/\True))/\
(((x:Int)<(L.length:Int)->False)->0+L.length<=L.length/\∃(x:Unit),True/\(D.list (List.take L.length L)=dlD L/\True)/\True))/\((0<L.length->False)->(∃(x:Nat),(x<=([]:List D).length/\∀(i
:Nat),i<x->zfa (cK (zad ([]:List D) i))->False)/\(0=(x:Int)/\True)/\True)/\∀(x:Nat),(x<=([]:List D).length/\∀(i:Nat),i<x->zfa (cK (zad ([]:List D) i))->False)->([]:List D).length
-x<LIM/\((x:Int)<0->False)/\(((x:Int)<0->False)->∃(x:Unit),True/\(D.nil=dlD L/\True)/\True)))/\∀(x:Unit),True->((zus p/\(0:Int)<=20/\(20:Int)<=64)/\g=gsD 20 p)/\(g.len<=100/\
zvS g)/\(0<g.len->(0:Int)<=0/\0<=min (sw.len:Int) 30/\min (sw.len:Int) 30<=(sw.len:Int)/\(∃(x:Nat×List D),(x.fst<=(mG 30 sw).len/\zjr x.snd g.asList)/\(0=(x.fst:Int)/\True)/\g.asList=
x.snd/\True)/\∀(x:Nat×List D),x.fst<=(mG 30 sw).len/\zjr x.snd g.asList->(mG 30 sw).len-x.fst<LIM/\((x.fst:Int)<(↑(mG 30 sw).len:Int)->0<=(x.fst:Int)/\(x.fst:Int)<(↑(mG 30 sw).len:Int)
/\(0<(g.len:Int)->(0:Int)<=0/\0<(↑(2:Nat):Int)/\((g.len:Int)=0->False)/\(0:Int)<=1/\1<(↑(2:Nat):Int)/\((g.len:Int)=0->False)/\0<=(IntKind.i64.wrap ((el (mG 30 sw) x.fst).fld
1).asInt).tmod (g.len:Int)/\(IntKind.i64.wrap ((el (mG 30 sw) x.fst).fld 1).asInt).tmod (g.len:Int)<(g.asList.length:Int)/\((IntKind.i64.wrap ((el (mG 30 sw) x.fst).fld 1).asInt).tmod (g.len:Int)).toNat<
x.snd.length/\0<=(IntKind.i64.wrap (cK (el (mG 30 sw) x.fst))).tmod (g.len:Int)/\(IntKind.i64.wrap (cK (el (mG 30 sw) x.fst))).tmod (g.len:Int)<(g.asList.length:Int)/\((IntKind.i64.wrap (cK (el (mG 30 sw)
x.fst))).tmod (g.len:Int)).toNat<x.snd.length/\0<=(IntKind.i64.wrap (cK (el (mG 30 sw) x.fst))).tmod (g.len:Int)/\(IntKind.i64.wrap (cK (el (mG 30 sw) x.fst))).tmod (g.len:Int)<(g.asList.length:Int)/\
((IntKind.i64.wrap (cK (el (mG 30 sw) x.fst))).tmod (g.len:Int)).toNat<x.snd.length/\0<=(IntKind.i64.wrap ((el (mG 30 sw) x.fst).fld 1).asInt).tmod (g.len:Int)/\(IntKind.i64.wrap ((el (mG 30 sw) x.fst).fld
1).asInt).tmod (g.len:Int)<(g.asList.length:Int)/\((IntKind.i64.wrap ((el (mG 30 sw) x.fst).fld 1).asInt).tmod (g.len:Int)).toNat<(x.snd.set ((IntKind.i64.wrap (cK (el (mG 30 sw) x.fst))).tmod (g.len:
Int)).toNat (gD (gAt (zad x.snd ((IntKind.i64.wrap ((el (mG 30 sw) x.fst).fld 1).asInt).tmod (g.len:Int)).toNat)))).length/\fits64 ((x.fst:Int)+1)/\∃(y:Nat×List D),(y.fst<=(mG 30 sw).len/\zjr y.snd
g.asList)/\(mG 30 sw).len-y.fst<(mG 30 sw).len-x.fst/\((x.fst:Int)+1=(y.fst:Int)/\True)/\(x.snd.set ((IntKind.i64.wrap (cK (el (mG 30 sw) x.fst))).tmod (g.len:Int)).toNat (gD (gAt (zad x.snd
((IntKind.i64.wrap ((el (mG 30 sw) x.fst).fld 1).asInt).tmod (g.len:Int)).toNat)))).set ((IntKind.i64.wrap ((el (mG 30 sw) x.fst).fld 1).asInt).tmod (g.len:Int)).toNat (gD (gAt (zad x.snd ((IntKind.i64.wrap (cK (el
(mG 30 sw) x.fst))).tmod (g.len:Int)).toNat)))=y.snd/\True)/\((0<(g.len:Int)->False)->fits64 ((x.fst:Int)+1)/\∃(y:Nat×List D),(y.fst<=(mG 30 sw).len/\zjr y.snd g.asList)/\(mG 30 sw).len-
y.fst<(mG 30 sw).len-x.fst/\((x.fst:Int)+1=(y.fst:Int)/\True)/\x.snd=y.snd/\True))/\(((x.fst:Int)<(↑(mG 30 sw).len:Int)->False)->(zkw (dlD L) g/\(okO (dlD L) g->0+g.asList.length<=
x.snd.length/\zkw (dlD L) (D.list (List.take g.asList.length x.snd))/\(okO (dlD L) (D.list (List.take g.asList.length x.snd))->∃(x_1:List D×List D),mvP g x.snd x_1.fst x_1.snd/\(((0:Nat)=0/\(zbQ
(List.replicate g.len (D.int 0)) (orD (dlD L) g) (orD (dlD L) g).len).length=g.len/\(zbQ (List.replicate g.len (D.int 0)) (orD (dlD L) g) (orD (dlD L) g).len).length=g.len)/\((0:Nat)=0/\(zbQ (List.replicate
(List.take g.asList.length x.snd).length (D.int 0)) (orD (dlD L) (D.list (List.take g.asList.length x.snd))) (orD (dlD L) (D.list (List.take g.asList.length x.snd))).len).length=g.len/\(zbQ (List.replicate (List.take
g.asList.length x.snd).length (D.int 0)) (orD (dlD L) (D.list (List.take g.asList.length x.snd))) (orD (dlD L) (D.list (List.take g.asList.length x.snd))).len).length=g.len)/\True)/\zbQ (List.replicate g.len (D.int
0)) (orD (dlD L) g) (orD (dlD L) g).len=x_1.fst/\zbQ (List.replicate (List.take g.asList.length x.snd).length (D.int 0)) (orD (dlD L) (D.list (List.take g.asList.length x.snd))) (orD (dlD L) (D.list (List.take
g.asList.length x.snd))).len=x_1.snd/\True)/\((okO (dlD L) (D.list (List.take g.asList.length x.snd))->False)->∃(x_1:List D×List D),mvP g x.snd x_1.fst x_1.snd/\(((0:Nat)=0/\(zbQ (List.replicate g.len
(D.int 0)) (orD (dlD L) g) (orD (dlD L) g).len).length=g.len/\(zbQ (List.replicate g.len (D.int 0)) (orD (dlD L) g) (orD (dlD L) g).len).length=g.len)/\False/\True)/\zbQ (List.replicate g.len (D.int 0)) (orD
(dlD L) g) (orD (dlD L) g).len=x_1.fst/\False/\True))/\((okO (dlD L) g->False)->0+g.asList.length<=x.snd.length/\zkw (dlD L) (D.list (List.take g.asList.length x.snd))/\(okO (dlD L) (D.list (List.take
g.asList.length x.snd))->∃(x_1:List D×List D),mvP g x.snd x_1.fst x_1.snd/\(False/\((0:Nat)=0/\(zbQ (List.replicate (List.take g.asList.length x.snd).length (D.int 0)) (orD (dlD L) (D.list (List.take
g.asList.length x.snd))) (orD (dlD L) (D.list (List.take g.asList.length x.snd))).len).length=g.len/\(zbQ (List.replicate (List.take g.asList.length x.snd).length (D.int 0)) (orD (dlD L) (D.list (List.take
g.asList.length x.snd))) (orD (dlD L) (D.list (List.take g.asList.length x.snd))).len).length=g.len)/\True)/\False/\zbQ (List.replicate (List.take g.asList.length x.snd).length (D.int 0)) (orD (dlD L) (D.list
(List.take g.asList.length x.snd))) (orD (dlD L) (D.list (List.take g.asList.length x.snd))).len=x_1.snd/\True)/\((okO (dlD L) (D.list (List.take g.asList.length x.snd))->False)->∃(x_1:List D×List D),mvP g
x.snd x_1.fst x_1.snd/\(False/\False/\True)/\False/\False/\True)))/\∀(x_1:List D×List D),mvP g x.snd x_1.fst x_1.snd->((((g.len:Int)=(g.len:Int)->False)->False)->(((g.len:Int)=(g.len:Int)->
False)->(false=true↔True))/\((((g.len:Int)=(g.len:Int)->False)->False)->(∃(x:Nat),x.le g.len/\(0=(x:Int)/\True)/\True)/\∀(x_2:Nat),x_2.le g.len->g.len-x_2<LIM/\((x_2:Int)<(g.len:
Int)->0<=(x_2:Int)/\(x_2:Int)<(g.len:Int)/\(∃(x_3:Nat),(x_3<=x.snd.length/\∀(i:Nat),i<x_3->nmP (zad x.snd i) ((el g x_2).fld 0).asStr->False)/\(0=(x_3:Int)/\True)/\True)/\∀(x_3:Nat),
(x_3<=x.snd.length/\∀(i:Nat),i<x_3->nmP (zad x.snd i) ((el g x_2).fld 0).asStr->False)->x.snd.length-x_3<LIM/\((x_3:Int)<(g.asList.length:Int)->0<=(x_3:Int)/\(x_3:Int)<(g.asList.length:
Int)/\x_3<x.snd.length/\(((zad x.snd x_3).fld 0).asStr=((el g x_2).fld 0).asStr->0<=(x_2:Int)/\(x_2:Int)<(g.len:Int)/\x_2<x_1.fst.length/\0<=(x_3:Int)/\(x_3:Int)<(g.len:Int)/\x_3<
x_1.snd.length/\(((zad x_1.fst x_2).asInt=(zad x_1.snd x_3).asInt->False)->(false=true↔True))/\((((zad x_1.fst x_2).asInt=(zad x_1.snd x_3).asInt->False)->False)->fits64 ((x_2:Int)+1)/\∃(y:
Nat),y.le g.len/\g.len-y<g.len-x_2/\((x_2:Int)+1=(y:Int)/\True)/\True))/\((((zad x.snd x_3).fld 0).asStr=((el g x_2).fld 0).asStr->False)->fits64 ((x_3:Int)+1)/\∃(y:Nat),(y<=
x.snd.length/\∀(i:Nat),i<y->nmP (zad x.snd i) ((el g x_2).fld 0).asStr->False)/\x.snd.length-y<x.snd.length-x_3/\((x_3:Int)+1=(y:Int)/\True)/\True))/\(((x_3:Int)<(g.asList.length:Int)->
False)->0<=(x_2:Int)/\(x_2:Int)<(g.len:Int)/\x_2<x_1.fst.length/\(0:Int)<=(-1)/\(-1)<(g.len:Int)/\0+(-1).toNat<x_1.snd.length/\(((zad x_1.fst x_2).asInt=(zad x_1.snd (0+
(-1).toNat)).asInt->False)->(false=true↔True))/\((((zad x_1.fst x_2).asInt=(zad x_1.snd (0+(-1).toNat)).asInt->False)->False)->fits64 ((x_2:Int)+1)/\∃(y:Nat),y.le g.len/\g.len-y<g.len-x_2
/\((x_2:Int)+1=(y:Int)/\True)/\True)))/\(((x_2:Int)<(g.len:Int)->False)->(true=true↔True))))/\(((g.len:Int)=(g.len:Int)->False)->(false=true↔True))))/\((0<g.len->False)->(0:Int)
<=0/\0<=min (sw.len:Int) 30/\min (sw.len:Int) 30<=(sw.len:Int)/\(∃(x:Nat×List D),(x.fst<=(mG 30 sw).len/\zjr x.snd g.asList)/\(0=(x.fst:Int)/\True)/\True)/\∀(x:Nat×List D),x.fst<=(mG
30 sw).len/\zjr x.snd g.asList->(mG 30 sw).len-x.fst<LIM/\((x.fst:Int)<(↑(mG 30 sw).len:Int)->0<=(x.fst:Int)/\(x.fst:Int)<(↑(mG 30 sw).len:Int)/\(0<(g.len:Int)->(0:Int)<=0/\0<(↑(2:
Nat):Int)/\((g.len:Int)=0->False)/\(0:Int)<=1/\1<(↑(2:Nat):Int)/\((g.len:Int)=0->False)/\False)/\((0<(g.len:Int)->False)->fits64 ((x.fst:Int)+1)/\∃(y:Nat×List D),(y.fst<=(mG
30 sw).len/\zjr y.snd g.asList)/\(mG 30 sw).len-y.fst<(mG 30 sw).len-x.fst/\((x.fst:Int)+1=(y.fst:Int)/\True)/\True))/\(((x.fst:Int)<(↑(mG 30 sw).len:Int)->False)->(zkw (dlD L) g/\(okO
(dlD L) g->zkw (dlD L) D.nil/\(okO (dlD L) D.nil->∃(x:List D×List D),mvP g ([]:List D) x.fst x.snd/\(((0:Nat)=0/\(zbQ (List.replicate g.len (D.int 0)) (orD (dlD L) g) (orD (dlD L) g).len).length=
g.len/\(zbQ (List.replicate g.len (D.int 0)) (orD (dlD L) g) (orD (dlD L) g).len).length=g.len)/\((0:Nat)=0/\(zbQ (List.replicate 0 (D.int 0)) (orD (dlD L) D.nil) (orD (dlD L) D.nil).len).length=g.len/\
(zbQ (List.replicate 0 (D.int 0)) (orD (dlD L) D.nil) (orD (dlD L) D.nil).len).length=g.len)/\True)/\zbQ (List.replicate g.len (D.int 0)) (orD (dlD L) g) (orD (dlD L) g).len=x.fst/\zbQ (List.replicate 0 (D.int
0)) (orD (dlD L) D.nil) (orD (dlD L) D.nil).len=x.snd/\True)/\((okO (dlD L) D.nil->False)->∃(x:List D×List D),mvP g ([]:List D) x.fst x.snd/\(((0:Nat)=0/\(zbQ (List.replicate g.len (D.int 0)) (orD
(dlD L) g) (orD (dlD L) g).len).length=g.len/\(zbQ (List.replicate g.len (D.int 0)) (orD (dlD L) g) (orD (dlD L) g).len).length=g.len)/\False/\True)/\zbQ (List.replicate g.len (D.int 0)) (orD (dlD L) g) (orD
(dlD L) g).len=x.fst/\False/\True))/\((okO (dlD L) g->False)->zkw (dlD L) D.nil/\(okO (dlD L) D.nil->∃(x:List D×List D),mvP g ([]:List D) x.fst x.snd/\(False/\((0:Nat)=0/\(zbQ (List.replicate 0
(D.int 0)) (orD (dlD L) D.nil) (orD (dlD L) D.nil).len).length=g.len/\(zbQ (List.replicate 0 (D.int 0)) (orD (dlD L) D.nil) (orD (dlD L) D.nil).len).length=g.len)/\True)/\False/\zbQ (List.replicate 0 (D.int 0))
(orD (dlD L) D.nil) (orD (dlD L) D.nil).len=x.snd/\True)/\((okO (dlD L) D.nil->False)->∃(x:List D×List D),mvP g ([]:List D) x.fst x.snd/\(False/\False/\True)/\False/\False/\True)))/\∀(x:List D×
List D),mvP g ([]:List D) x.fst x.snd->((((g.len:Int)=(g.len:Int)->False)->False)->(((g.len:Int)=(g.len:Int)->False)->(false=true↔True))/\((((g.len:Int)=(g.len:Int)->False)->False)->(∃
(x:Nat),x.le g.len/\(0=(x:Int)/\True)/\True)/\∀(x_1:Nat),x_1.le g.len->g.len-x_1<LIM/\((x_1:Int)<(g.len:Int)->0<=(x_1:Int)/\(x_1:Int)<(g.len:Int)/\(∃(x:Nat),(x<=([]:List
D).length/\∀(i:Nat),i<x->nmP (zad ([]:List D) i) ((el g x_1).fld 0).asStr->False)/\(0=(x:Int)/\True)/\True)/\∀(x_2:Nat),(x_2<=([]:List D).length/\∀(i:Nat),i<x_2->nmP (zad ([]:List D)
i) ((el g x_1).fld 0).asStr->False)->([]:List D).length-x_2<LIM/\((x_2:Int)<0->False)/\(((x_2:Int)<0->False)->0<=(x_1:Int)/\(x_1:Int)<(g.len:Int)/\x_1<x.fst.length/\(0:Int)<=(-1)/\
(-1)<(g.len:Int)/\0+(-1).toNat<x.snd.length/\(((zad x.fst x_1).asInt=(zad x.snd (0+(-1).toNat)).asInt->False)->(false=true↔True))/\((((zad x.fst x_1).asInt=(zad x.snd (0+(-1).toNat)).asInt->
False)->False)->fits64 ((x_1:Int)+1)/\∃(y:Nat),y.le g.len/\g.len-y<g.len-x_1/\((x_1:Int)+1=(y:Int)/\True)/\True)))/\(((x_1:Int)<(g.len:Int)->False)->(true=true↔True))))/\
(((g.len:Int)=(g.len:Int)->False)->(false=true↔True))))):=by intros;kernel_rfl
theorem s10 (l p sw g:D) (L:List D) (hu:zqo l) (hL:L=mL (m8 l) (m8 l).len) (hp:zus p) (hg:g=gsD 20 p) (hw:u8S (mG 30 sw)) (hw0:(mG 30 sw).len<=30) (F:mvF L g):
  zah (zqU (mv0 L g) L g sw) 4 10 [.dat 40 l,.dat 48 p,.dat 65 sw] (.prop True):=by
 rw [zy5]
 have T:True:=trivial
 have l8:=F.l8
 have g20:=F.g20
 have yes:(true=true↔True):=⟨λ_=>trivial,λ_=>rfl⟩
 have lim:∀{n x:Nat},n<=100->n-x<LIM:=λh=>by unfold LIM;omega
 have no:∀{p q:Prop},p->(p->False)->q:=λa b=>(b a).elim
 have gg:g.asList.length=g.len:=rfl
 -- the exchanges, where somebody is there and where nobody is
 refine ⟨⟨⟨hu,hL⟩,λh0=>⟨⟨0,⟨Nat.zero_le _,λi hi=>absurd hi (Nat.not_lt_zero _)⟩,⟨rfl,T⟩,T⟩,λx hx=>⟨lim (by omega),λhlt=>⟨by omega,hlt,by omega,T,λhk=>⟨λh=>by omega,λ_=>⟨by omega,⟨x+1,(by show x+1<=L.length;omega),⟨by omega, ?_,T⟩, ?_,T⟩,λy hy=> ?_⟩⟩,λhk=>⟨by omega,x+1,⟨by omega,λi hi=> ?_⟩,by omega,⟨by omega,T⟩,T⟩⟩,λhge=>⟨by omega,(),T,⟨?_,T⟩,T⟩⟩⟩,λh0=>⟨⟨0,⟨Nat.zero_le _,λi hi=>absurd hi (Nat.not_lt_zero _)⟩,⟨rfl,T⟩,T⟩,λx hx=>⟨by show 0-x<LIM;unfold LIM;omega,λh=>by omega,λ_=>⟨(),T,⟨?_,T⟩,T⟩⟩⟩⟩,λ_ _=>⟨⟨⟨hp,by omega,by omega⟩,hg⟩,⟨by omega,F.gr⟩,λhn=>⟨by omega,by omega,by omega,⟨(0,g.asList),⟨Nat.zero_le _,⟨.refl _⟩⟩,⟨rfl,T⟩,rfl,T⟩,λx hx=> ?_⟩,λhn=>⟨by omega,by omega,by omega,⟨(0,g.asList),⟨Nat.zero_le _,⟨.refl _⟩⟩,⟨rfl,T⟩,T⟩,λx hx=>⟨lim (by omega),λhlt=>⟨by omega,hlt,λh=>(hn (by omega)).elim,λ_=>⟨by omega,(x.1+1,x.2),⟨by show x.1+1<=_;omega,hx.2⟩,by show _-(x.1+1)<_;omega,⟨by show (x.1:Int)+1=((x.1+1:Nat):Int);omega,T⟩,T⟩⟩,λ_=> ?_⟩⟩⟩⟩
 .rw [zhI (by omega) hk,zoh hx.1 hx.2,List.length_take];omega
 .rw [zhI (by omega) hk,zoh hx.1 hx.2,List.length_take,Nat.min_eq_left (by omega),List.take_append_drop]
 .have hy:y<=L.length:=hy
  have hd:=zqZ L y
  have hdl:=zuW L y
  refine ⟨lim (by omega),λhlt=> ?_,λhge=> ?_⟩
  .have hyl:y<L.length:=by omega
   rw [zwe hyl]
   refine ⟨by omega,hlt,by omega,T,λhk=>⟨by omega,by omega,by omega,by omega,by omega,y+1,(by show y+1<=L.length;omega),by omega,⟨by omega, ?_,T⟩, ?_,T⟩,λhk=>⟨by omega,y+1,(by show y+1<=L.length;omega),by omega,⟨by omega, ?_,T⟩, ?_,T⟩⟩
   .rw [zog hyl hk,List.length_append];rfl
   .rw [F.cl y hyl,zuX (by omega),zog hyl hk]
   .rw [zhI hyl (Classical.byContradiction hk)]
   .rw [zhI hyl (Classical.byContradiction hk)]
  .have e:y=L.length:=by have h:¬(y:Int)<L.length:=hge;omega
   have hA:List.take (dlL L y).length (List.drop (0+0) (dlL L y++List.drop (dlL L y).length L))=dlL L y:=by rw [List.drop_zero,List.take_left'];rfl
   have hB:∀r s:List D,List.take (dlL L y).length (List.drop (0+0) (List.take (dlL L y).length (dlL L y++List.drop (dlL L y).length L)++r++s))=dlL L y:=λr s=>by
    rw [List.drop_zero,List.take_left' (l₁:=dlL L y) rfl,List.append_assoc,List.take_left'];rfl
   have hE:D.list (dlL L y)=dlD L:=by rw [e];exact zln h0
   refine ⟨by omega,by omega,Int.le_refl _,by omega,by omega,λ_=>⟨by omega,by omega,(by show ((dlL L y).length:Int)<=L.length;omega),by omega,(),T,⟨by rw [hA];exact hE,T⟩,T⟩,λ_=>⟨by omega,by omega,(by show ((dlL L y).length:Int)<=L.length;omega), ?_,(),T,⟨by rw [hB];exact hE,T⟩,T⟩⟩
   rw [List.length_append,List.length_append,List.length_take,List.length_replicate];omega
 .by_cases q:i=x
  .subst q;exact hk
  .exact hx.2 i (by omega)
 .have e:x=L.length:=by have h:¬(x:Int)<L.length:=hge;omega
  rw [List.take_of_length_le (Nat.le_refl _),<-zln h0,zoh (Nat.le_refl _) (by rw [<-e];exact hx.2),List.take_of_length_le (Nat.le_refl _)]
 .unfold dlD;rw [if_neg h0]
 .obtain ⟨hx1,hx2⟩:=hx
  have hM:=hx2.out
  have hl:x.2.length=g.len:=hM.length_eq
  have hgd:∀k,k<x.2.length->gD (gAt (zad x.2 k))=zad x.2 k:=λk hk=>F.gd _ (hM.mem_iff.1 (by unfold zad;rw [List.getElem?_eq_getElem hk];exact List.getElem_mem hk))
  refine ⟨lim (by omega),λhlt=>⟨by omega,hlt,λhgp=> ?_,λh=>no (by omega) h⟩,λhge=> ?_⟩
  .have hb:=hw.out x.1 (by omega)
   have ma:=zxF hb.1 hgp
   have mb:=zxF hb.2 hgp
   generalize hA:(IntKind.i64.wrap (cK (el (mG 30 sw) x.1))).tmod g.len=A at ma⊢
   generalize hB:(IntKind.i64.wrap ((el (mG 30 sw) x.1).fld 1).asInt).tmod g.len=B at mb⊢
   have hAl:A.toNat<x.2.length:=by omega
   have hBl:B.toNat<x.2.length:=by omega
   rw [hgd _ hAl,hgd _ hBl]
   refine ⟨by omega,by omega,λh=>by omega,by omega,by omega,λh=>by omega,by omega,by omega,hBl,by omega,by omega,hAl,by omega,by omega,hAl,by omega,by omega,by rw [List.length_set];exact hBl,by omega,(x.1+1,_),⟨by show x.1+1<=_;omega,⟨(zpN hAl hBl).trans hM⟩⟩,by show _-(x.1+1)<_;omega,⟨by show (x.1:Int)+1=((x.1+1:Nat):Int);omega,T⟩,rfl,T⟩
  .obtain ⟨p1,p2,p3⟩:=F.per x.2 hM
   have ht:List.take g.asList.length x.2=x.2:=List.take_of_length_le (by omega)
   rw [ht]
   refine ⟨⟨F.pre,λ_=>⟨by omega,p1,λ_=>⟨(_,_),p3,⟨⟨rfl,p3.out.1,p3.out.1⟩,⟨rfl,p3.out.2.1,p3.out.2.1⟩,T⟩,rfl,rfl,T⟩,λh=>no p2 h⟩,λh=>no F.ok h⟩,λy hy=>⟨λ_=>⟨λh=>no rfl h,λ_=>⟨⟨0,Nat.zero_le _,⟨rfl,T⟩,T⟩,λi hi=> ?_⟩⟩,λh=>no rfl h⟩⟩
   have hi:i<=g.len:=hi
   obtain ⟨y1,y2,y3⟩:=hy.out
   refine ⟨lim (by omega),λhlt=>⟨by omega,hlt,⟨0,⟨Nat.zero_le _,λi hi=>absurd hi (Nat.not_lt_zero _)⟩,⟨rfl,T⟩,T⟩,λk hk=>⟨lim (by omega),λhk2=>⟨by omega,hk2,by omega,λhe=> ?_,λhne=>⟨by omega,k+1,⟨by omega,λj hj=> ?_⟩,by omega,⟨by omega,T⟩,T⟩⟩,λhk2=> ?_⟩⟩,λ_=>yes⟩
   .exact ⟨by omega,hlt,by omega,by omega,by omega,by omega,λh=>no (y3 i k (by omega) (by omega) ⟨he.symm⟩) h,λ_=>⟨by omega,i+1,(by show i+1<=g.len;omega),by omega,⟨by omega,T⟩,T⟩⟩
   .intro hj'
    by_cases q:j=k
    .subst q;exact hne hj'.out
    .exact hk.2 j (by omega) hj'
   .obtain ⟨j,j1,j2⟩:=F.fnd x.2 hM i (by omega)
    have hk2:¬(k:Int)<g.asList.length:=hk2
    exact (hk.2 j (by omega) j2).elim
 .have hn:¬0<g.len:=hn
  have g0:g.len=0:=by omega
  have len0:∀c:D,∀k,(zbQ (List.replicate 0 (D.int 0)) c k).length=0:=λc k=>by rw [zcA];rfl
  have zlC:∀k,(zbQ (List.replicate g.len (D.int 0)) (orD (dlD L) g) k).length=g.len:=λk=>by rw [zcA,List.length_replicate]
  refine ⟨⟨F.pre,λ_=>⟨F.preN,λ_=>⟨(_,_),⟨zlC _,by rw [len0];omega,λi j hi=>by omega⟩,⟨⟨rfl,zlC _,zlC _⟩,⟨rfl,by rw [len0];omega,by rw [len0];omega⟩,T⟩,rfl,rfl,T⟩,λh=>no F.okN h⟩,λh=>no F.ok h⟩,λy hy=>⟨λ_=>⟨λh=>no rfl h,λ_=>⟨⟨0,Nat.zero_le _,⟨rfl,T⟩,T⟩,λi hi=>⟨lim (by omega),λh=>by omega,λ_=>yes⟩⟩⟩,λh=>no rfl h⟩⟩
end Go.Ev

end
