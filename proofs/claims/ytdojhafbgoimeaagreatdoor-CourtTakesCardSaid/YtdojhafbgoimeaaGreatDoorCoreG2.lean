/- Part of the proof. -/
import Derived.Test.YtdojhafbgoimeaaGreatDoorCoreG1

section

namespace Go.Ev
noncomputable section
open Go.RowKit
section
variable {P:Program} {call:Call->TypeId->zab->zaa->Option (Value×zaa)} {ops:Array Oper}
theorem Rel.upTo {Z0 O:Nat->Option Loc} {H:zaa} {w:World} (h:Rel Z0 H w) {N:Nat} (hN:H.next<=N) (he:∀i,i<H.next->O i=Z0 i) (hf:∀i,N<=i->O i=none):Rel O (H.upTo N) w:=by
 have hx:Ext Z0 O:=λi p hi=>by
  rcases Nat.lt_or_ge i H.next with h1|h1
  .rw [he i h1];exact hi
  .rw [h.fresh i h1] at hi;cases hi
 have hlt:∀i,H.get i≠none->O i=Z0 i:=λi hi=>he i (h.below i hi)
 refine ⟨hf,λi hi=>Nat.lt_of_lt_of_le (h.below i hi) hN,⟨h.top.1,h.top.2.1.mono hx,λx m i q hi hr hq=>h.top.2.2 x m i q hi hr ((hlt i hi).symm.trans hq)⟩,trivial,λi cs e esz m ro p hg hp=> ?_,λi st pend F ps as_ bd p hg hp=> ?_,λi p hg hp=> ?_,λi j p q hij hgi hgj hp hq e=> ?_⟩
 .have hg':H.get i=some (.cells cs e esz m ro):=hg
  rw [hlt i (by rw [hg'];simp)] at hp
  exact (h.cells i cs e esz m ro p hg' hp).mono hx
 .have hg':H.get i=some (.loop st pend F ps as_ bd):=hg
  rw [hlt i (by rw [hg'];simp)] at hp
  obtain ⟨fn,tmps,D,a,b,c⟩:=h.loops i st pend F ps as_ bd p hg' hp
  exact ⟨fn,tmps,D,a,b.mono hx,c⟩
 .have hg':H.get i=some .deferred:=hg
  rw [hlt i (by rw [hg'];simp)] at hp
  exact h.defs i p hg' hp
 .have h1:H.get i≠none:=hgi
  have h2:H.get j≠none:=hgj
  rw [hlt i h1] at hp
  rw [hlt j h2] at hq
  exact h.excl i j p q hij h1 h2 hp hq e
theorem zdy {o:Op} (h:zak o=true):zbl o=true:=by
 cases o<;>simp_all [zak,zbl]
theorem zfF {o:Op} (h:zbl o=false):zak o=false:=by
 cases hf:zak o with
 |false=>rfl
 |true=>rw [zdy hf] at h;cases h
def zri (P:Program) (call:Call->TypeId->zab->zaa->Option (Value×zaa)) (ops:Array Oper) (h0:zaa) (g:Bool) (j:Nat) (F:zab) (h:zaa) (v:Value) (F1:zab) (h1:zaa):Prop:=
 ∃o,ops[j]? =some o/\F.put o.dst v=some F1/\
  ((za6 F ops o=false/\v=undef/\h1=h)\/
  (za6 F ops o=true/\zbl o.op=true/\h1=h/\∃h2,opA call P F o.op o.type (h0.upTo h.next)=some (v,h2)/\h2.next=h.next/\h.next<=h2.wlow)\/
  (za6 F ops o=true/\zbl o.op=false/\∃h2,opA call P F o.op o.type {h with wlow:=h.next}=some (v,h2)/\(cond g h.next h0.next)<=h2.wlow/\h1={h2 with wlow:=cond (Nat.ble h.wlow h2.wlow) h.wlow h2.wlow}))
def zcM (R:Nat->zab->zaa->Value->zab->zaa->Prop) (k n:Nat) (F:zab) (h:zaa) (F':zab) (h':zaa):Prop:=
 ∃(Fs:Nat->zab) (hs:Nat->zaa) (vs:Nat->Value),Fs k=F/\hs k=h/\Fs (k+n)=F'/\hs (k+n)=h'/\∀j,k<=j->j<k+n->R j (Fs j) (hs j) (vs j) (Fs (j+1)) (hs (j+1))
theorem zcM.nil {R:Nat->zab->zaa->Value->zab->zaa->Prop} {k:Nat} {F:zab} {h:zaa}:zcM R k 0 F h F h:=
 ⟨λ_=>F,λ_=>h,λ_=>undef,rfl,rfl,rfl,rfl,λj h1 h2=>by omega⟩
theorem zcM.append {R:Nat->zab->zaa->Value->zab->zaa->Prop} {k n m:Nat} {F F1 F':zab} {h h1 h':zaa} (a:zcM R k n F h F1 h1) (b:zcM R (k+n) m F1 h1 F' h'):zcM R k (n+m) F h F' h':=by
 obtain ⟨Fs,hs,vs,e1,e2,e3,e4,ha⟩:=a
 obtain ⟨Fs2,hs2,vs2,f1,f2,f3,f4,hb⟩:=b
 have cF:∀j,k+n<=j->(if j<k+n then Fs j else Fs2 j)=Fs2 j:=λj hj=>if_neg (by omega)
 have cH:∀j,k+n<=j->(if j<k+n then hs j else hs2 j)=hs2 j:=λj hj=>if_neg (by omega)
 have dF:∀j,j<=k+n->(if j<k+n then Fs j else Fs2 j)=Fs j:=λj hj=>by
  rcases Nat.eq_or_lt_of_le hj with e|e
  .subst e;rw [if_neg (Nat.lt_irrefl _),f1,e3]
  .exact if_pos e
 have dH:∀j,j<=k+n->(if j<k+n then hs j else hs2 j)=hs j:=λj hj=>by
  rcases Nat.eq_or_lt_of_le hj with e|e
  .subst e;rw [if_neg (Nat.lt_irrefl _),f2,e4]
  .exact if_pos e
 refine ⟨λj=>if j<k+n then Fs j else Fs2 j,λj=>if j<k+n then hs j else hs2 j,λj=>if j<k+n then vs j else vs2 j,(dF k (by omega)).trans e1,(dH k (by omega)).trans e2, ?_, ?_,λj h1' h2'=> ?_⟩
 .exact (cF (k+(n+m)) (by omega)).trans (by rw [<-Nat.add_assoc];exact f3)
 .exact (cH (k+(n+m)) (by omega)).trans (by rw [<-Nat.add_assoc];exact f4)
 .by_cases hj:j<k+n
  .have:=ha j h1' hj
   show R j (if j<k+n then Fs j else Fs2 j) (if j<k+n then hs j else hs2 j) (if j<k+n then vs j else vs2 j) (if j+1<k+n then Fs (j+1) else Fs2 (j+1)) (if j+1<k+n then hs (j+1) else hs2 (j+1))
   rw [dF j (by omega),dH j (by omega),dF (j+1) (by omega),dH (j+1) (by omega),if_pos hj]
   exact this
  .have:=hb j (by omega) (by omega)
   show R j (if j<k+n then Fs j else Fs2 j) (if j<k+n then hs j else hs2 j) (if j<k+n then vs j else vs2 j) (if j+1<k+n then Fs (j+1) else Fs2 (j+1)) (if j+1<k+n then hs (j+1) else hs2 (j+1))
   rw [cF j (by omega),cH j (by omega),cF (j+1) (by omega),cH (j+1) (by omega),if_neg hj]
   exact this
theorem zcM.one {R:Nat->zab->zaa->Value->zab->zaa->Prop} {k:Nat} {F F1:zab} {h h1:zaa} {v:Value} (hr:R k F h v F1 h1):zcM R k 1 F h F1 h1:=by
 refine ⟨λj=>if j=k then F else F1,λj=>if j=k then h else h1,λ_=>v,if_pos rfl,if_pos rfl,if_neg (by omega),if_neg (by omega),λj h1' h2'=> ?_⟩
 have:j=k:=by omega
 subst this
 show R j (if j=j then F else F1) (if j=j then h else h1) v (if j+1=j then F else F1) (if j+1=j then h else h1)
 rw [if_pos rfl,if_pos rfl,if_neg (by omega),if_neg (by omega)]
 exact hr
theorem zcM.mono {R R':Nat->zab->zaa->Value->zab->zaa->Prop} {k n:Nat} {F F':zab} {h h':zaa} (a:zcM R k n F h F' h') (hm:∀j F h v F1 h1,k<=j->j<k+n->R j F h v F1 h1->R' j F h v F1 h1):zcM R' k n F h F' h':=by
 obtain ⟨Fs,hs,vs,e1,e2,e3,e4,ha⟩:=a
 exact ⟨Fs,hs,vs,e1,e2,e3,e4,λj h1 h2=>hm j _ _ _ _ _ h1 h2 (ha j h1 h2)⟩
theorem zef {h0:zaa} {g:Bool}:∀(l:List Oper) (k:Nat) (F F':zab) (h h':zaa),(∀i o,l[i]? =some o->ops[k+i]? =some o)->zcj call P ops h0 g l F h=some (F',h')->
  zcM (zri P call ops h0 g) k l.length F h F' h'
 | [],k,F,F',h,h',_,he=>by
  simp only [zcj,Option.some.injEq,Prod.mk.injEq] at he
  obtain ⟨rfl,rfl⟩:=he
  exact .nil
 |o::l,k,F,F',h,h',hl,he=>by
  have ho:ops[k]? =some o:=by simpa using hl 0 o rfl
  have hl':∀i o',l[i]? =some o'->ops[k+1+i]? =some o':=λi o' hi=>by
   have:=hl (i+1) o' (by simpa using hi)
   rwa [show k+1+i=k+(i+1) by omega]
  have key:∀(v:Value) (F1:zab) (h1:zaa),zri P call ops h0 g k F h v F1 h1->zcj call P ops h0 g l F1 h1=some (F',h')->zcM (zri P call ops h0 g) k (o::l).length F h F' h':=λv F1 h1 hst hrest=>by
   have:=zcM.append (zcM.one hst) (zef l (k+1) F1 F' h1 h' hl' hrest)
   rwa [show 1+l.length=(o::l).length by simp;omega] at this
  simp only [zcj] at he
  cases hf:za6 F ops o with
  |true=>
   rw [hf] at he
   simp only [cond_true] at he
   cases hsf:zbl o.op with
   |true=>
    rw [hsf] at he
    simp only [cond_true] at he
    split at he
    .rename_i v h1 hop
     cases hq:(Nat.beq h1.next h.next&&Nat.ble h.next h1.wlow) with
     |false=>rw [hq] at he;cases he
     |true=>
      rw [hq] at he
      simp only [cond_true,za8] at he
      simp only [Bool.and_eq_true] at hq
      split at he
      .rename_i F1 hput
       exact key v F1 h ⟨o,ho,hput,.inr (.inl ⟨hf,hsf,rfl,h1,hop,Nat.eq_of_beq_eq_true hq.1,Nat.le_of_ble_eq_true hq.2⟩)⟩ he
      .cases he
    .cases he
   |false=>
    rw [hsf] at he
    simp only [cond_false] at he
    split at he
    .rename_i v h1 hop
     cases hq:Nat.ble (cond g h.next h0.next) h1.wlow with
     |false=>rw [hq] at he;cases he
     |true=>
      rw [hq] at he
      simp only [cond_true,za8] at he
      split at he
      .rename_i F1 hput
       exact key v F1 _ ⟨o,ho,hput,.inr (.inr ⟨hf,hsf,h1,hop,Nat.le_of_ble_eq_true hq,rfl⟩)⟩ he
      .cases he
    .cases he
  |false=>
   rw [hf] at he
   simp only [cond_false] at he
   split at he
   .rename_i F1 hput
    exact key undef F1 h ⟨o,ho,hput,.inl ⟨hf,rfl,rfl⟩⟩ he
   .cases he
structure zbP (P:Program) (call:Call->TypeId->zab->zaa->Option (Value×zaa)) (ops:Array Oper) (Fs:Nat->zab) (hs:Nat->zaa) (vs:Nat->Value) (T W:Nat) (Z0:Nat->Option Loc) (w0:World) (a0:Act):Prop where
 calls:zcy P call
 ok:∀o,o∈ops.toList->zcx o.op=true
 leT:T<=W
 le:W<=ops.size
 pre:∀j,j<W->zri P call ops (hs 0) (Nat.blt j T) j (Fs j) (hs j) (vs j) (Fs (j+1)) (hs (j+1))
 tail:∀j,W<=j->j<ops.size->zeu P call ops j (Fs j) (hs j) (vs j) (Fs (j+1)) (hs (j+1))
 rel:Rel Z0 (hs 0) w0
 fr:FR Z0 (Fs 0) a0.tmps
 ndst:∀i j d,i<j->zbB ops i=some d->zbB ops j≠some d
 dep:∀i j oi oj,i<j->ops[i]? =some oi->ops[j]? =some oj->oi.apart ops oj=true\/((zaX ops.toList []).getD j 0).testBit i=true
 grd:∀j oj g b,ops[j]? =some oj->oj.guard=some (g,b)->g<j/\((zaX ops.toList []).getD j 0).testBit g=true
 edges:zcG ops.toList 0=true
 forced:∀i j oi oj,W<=j->i<j->ops[i]? =some oi->ops[j]? =some oj->zak oj.op=false->zak oi.op=false->((zaX ops.toList []).getD j 0).testBit i=true
 mids:∀i j oi oj,T<=j->j<W->i<j->ops[i]? =some oi->ops[j]? =some oj->zbl oj.op=false->zbl oi.op=false->((zaX ops.toList []).getD j 0).testBit i=true
theorem zhs {Z Z':Nat->Option Loc} {H H':zaa} {w w':World} (h:Rel Z H w) (hp:zaK Z H w Z' H' w') (hn:H'.next=H.next):Z'=Z:=by
 funext i
 rcases Nat.lt_or_ge i H.next with h1|h1
 .exact hp.only i h1
 .rw [h.fresh i h1,hp.rel.fresh i (by omega)]
variable {Fs:Nat->zab} {hs:Nat->zaa} {vs:Nat->Value} {T W:Nat} {Z0:Nat->Option Loc} {w0:World} {a0:Act}
structure Old (hs:Nat->zaa) (Z0:Nat->Option Loc) (w0:World) (Z:Nat->Option Loc) (w:World):Prop where
 only:∀i,i<(hs 0).next->Z i=Z0 i
 idle:zlC w0 w
 news:∀i p,(hs 0).next<=i->Z i=some p->w0.heap.size<=p.b
theorem Old.idles {Z:Nat->Option Loc} {w w':World} (h:Old hs Z0 w0 Z w) (hi:zlC w w'):Old hs Z0 w0 Z w':=
 ⟨h.only,⟨λb hb=>(hi.still b (Nat.lt_of_lt_of_le hb h.idle.grown)).trans (h.idle.still b hb),Nat.le_trans h.idle.grown hi.grown,hi.os.trans h.idle.os,hi.tape.trans h.idle.tape,hi.output.trans h.idle.output⟩,h.news⟩
theorem Old.post {Z Z':Nat->Option Loc} {H H':zaa} {w w':World} (h:Old hs Z0 w0 Z w) (hp:zaK Z H w Z' H' w') (hlo:(hs 0).next<=H'.wlow) (hH:(hs 0).next<=H.next):Old hs Z0 w0 Z' w':=by
 obtain ⟨k1,k2⟩:=hp.keep (hs 0).next w0.heap.size hlo h.idle.grown h.news
 exact ⟨λi hi=>(hp.only i (by omega)).trans (h.only i hi),⟨λb hb=>(k1 b hb).trans (h.idle.still b hb),Nat.le_trans h.idle.grown hp.size,hp.os.trans h.idle.os,hp.tape.trans h.idle.tape,hp.output.trans h.idle.output⟩,k2⟩
structure zga (hs:Nat->zaa) (T j:Nat):Prop where
 nx:∀i,i<=j->(hs i).next<=(hs j).next
 low:∀d,d<(hs 0).next->(hs j).get d=(hs 0).get d
 wl:(hs j).wlow<=(hs 0).wlow
 pre:j<=T->∀i,i<=j->∀k,k<(hs i).next->(hs j).get k=(hs i).get k
theorem zga.stay {j:Nat} (h:zga hs T j) (e:hs (j+1)=hs j):zga hs T (j+1):=
 ⟨λi hi=>by
  rcases Nat.eq_or_lt_of_le hi with e1|e1
  .subst e1;exact Nat.le_refl _
  .rw [e];exact h.nx i (by omega),by rw [e];exact h.low,by rw [e];exact h.wl,λhT i hi k hk=>by
  rcases Nat.eq_or_lt_of_le hi with e1|e1
  .subst e1;rfl
  .rw [e];exact h.pre (by omega) i (by omega) k hk⟩
theorem zwG {a b:Nat}:cond (Nat.ble a b) a b<=a:=by
 cases h:Nat.ble a b with
 |true=>exact Nat.le_refl _
 |false=>
  show b<=a
  rcases Nat.lt_or_ge b a with h1|h1
  .omega
  .rw [Nat.ble_eq_true_of_le h1] at h;cases h
theorem zga.hard {j:Nat} (h:zga hs T j) {h2:zaa} {Z Z':Nat->Option Loc} {w w':World} (hp:zaK Z {hs j with wlow:=(hs j).next} w Z' h2 w') (hq:(cond (Nat.blt j T) (hs j).next (hs 0).next)<=h2.wlow) (e:hs (j+1)={h2 with wlow:=cond (Nat.ble (hs j).wlow h2.wlow) (hs j).wlow h2.wlow}):
  zga hs T (j+1)/\(hs 0).next<=h2.wlow:=by
 have h0:=h.nx 0 (Nat.zero_le _)
 have hlo:(hs 0).next<=h2.wlow:=by
  cases hb:Nat.blt j T with
  |true=>rw [hb] at hq;exact Nat.le_trans h0 hq
  |false=>rw [hb] at hq;exact hq
 have hnx:(hs j).next<=(hs (j+1)).next:=by rw [e];exact hp.nxt
 have hget:∀d,(hs (j+1)).get d=h2.get d:=λd=>by rw [e];rfl
 refine ⟨⟨λi hi=> ?_,λd hd=> ?_, ?_,λhT i hi k hk=> ?_⟩,hlo⟩
 .rcases Nat.eq_or_lt_of_le hi with e1|e1
  .subst e1;exact Nat.le_refl _
  .exact Nat.le_trans (h.nx i (by omega)) hnx
 .rw [hget,hp.old d (by omega) (show d<(hs j).next by omega)];exact h.low d hd
 .rw [e];exact Nat.le_trans zwG h.wl
 .rcases Nat.eq_or_lt_of_le hi with e1|e1
  .subst e1;rfl
  .have hb:Nat.blt j T=true:=Nat.ble_eq_true_of_le (by omega)
   rw [hb] at hq
   have hq':(hs j).next<=h2.wlow:=hq
   have:=h.nx i (by omega)
   rw [hget,hp.old k (by omega) (show k<(hs j).next by omega)]
   exact h.pre (by omega) i (by omega) k hk
theorem zbP.facts (K:zbP P call ops Fs hs vs T W Z0 w0 a0):∀j,j<=W->zga hs T j/\∃(Z:Nat->Option Loc) (w:World) (a:Act),Rel Z (hs j) w/\FR Z (Fs j) a.tmps/\Old hs Z0 w0 Z w:=by
 intro j
 induction j with
 |zero=>
  refine λ_=>⟨⟨λi hi=> ?_,λ_ _=>rfl,Nat.le_refl _,λ_ i hi k hk=> ?_⟩,Z0,w0,a0,K.rel,K.fr,λ_ _=>rfl,⟨λ_ _=>rfl,Nat.le_refl _,rfl,rfl,.refl _⟩,λi p hi hp=>(by rw [K.rel.fresh i hi] at hp;cases hp)⟩
  .have:i=0:=by omega
   subst this;exact Nat.le_refl _
  .have:i=0:=by omega
   subst this;rfl
 |succ j ih=>
  intro hj
  obtain ⟨f,Z,w,a,hr,hF,hO⟩:=ih (by omega)
  obtain ⟨o,ho,hput,h⟩:=K.pre j (by omega)
  have hmem:o∈ops.toList:=by rw [Array.mem_toList_iff];exact Array.mem_of_getElem? ho
  rcases h with ⟨_,hv,e⟩| ⟨_,_,e,h2,hop,hn,hq⟩| ⟨_,_,h2,hop,hq,e⟩
  .rw [hv] at hput
   obtain ⟨hF',_⟩:=FR.put hF (.undef Z) hput
   exact ⟨f.stay e,Z,w,a.put o.dst undef,by rw [e];exact hr,hF',hO⟩
  .have hru:=(K.rel.world hO.idle.still).upTo (f.nx 0 (Nat.zero_le _)) hO.only hr.fresh
   obtain ⟨Z',v',w',hv,hp⟩:=zeR K.calls hop (K.ok o hmem) hru (λx hx=>zeF hru.top.2.1 hF (zaI (K.ok o hmem) x hx))
   have eμ:=zhs hru hp hn
   subst eμ
   obtain ⟨hF',_⟩:=FR.put hF hv hput
   exact ⟨f.stay e,_,w,a.put o.dst v',by rw [e];exact hr,hF',hO⟩
  .obtain ⟨Z',v',w',hv,hp⟩:=zeR K.calls hop (K.ok o hmem) (hr.wlow _) (λx hx=>zeF hr.top.2.1 hF (zaI (K.ok o hmem) x hx))
   obtain ⟨f',hlo⟩:=f.hard hp hq e
   obtain ⟨hF',_⟩:=FR.put (hF.mono hp.ext) hv hput
   exact ⟨f',Z',w',a.put o.dst v',by rw [e];exact hp.rel.wlow _,hF',hO.post hp hlo (f.nx 0 (Nat.zero_le _))⟩
theorem zbP.all (K:zbP P call ops Fs hs vs T W Z0 w0 a0):∀d,W+d<=ops.size->(∃(Z':Nat->Option Loc) (w':World) (a':Act),Rel Z' (hs (W+d)) w'/\FR Z' (Fs (W+d)) a'.tmps)/\∀i,i<=W+d->(hs i).next<=(hs (W+d)).next
 |0,_=>by
  obtain ⟨f,Z,w,a,h1,h2,_⟩:=K.facts W (Nat.le_refl _)
  exact ⟨⟨Z,w,a,h1,h2⟩,f.nx⟩
 |d+1,hd=>by
  obtain ⟨⟨Z1,w1,a1,hr,hF⟩,hall⟩:=K.all d (by omega)
  obtain ⟨o,ho,hput,h⟩:=K.tail (W+d) (by omega) (by omega)
  have hmem:o∈ops.toList:=by rw [Array.mem_toList_iff];exact Array.mem_of_getElem? ho
  rcases h with ⟨_,hop⟩| ⟨_,hv,e⟩
  .obtain ⟨Z',v',w',hv,hp⟩:=zeR K.calls hop (K.ok o hmem) hr (λx hx=>zeF hr.top.2.1 hF (zaI (K.ok o hmem) x hx))
   obtain ⟨hF',_⟩:=FR.put (hF.mono hp.ext) hv hput
   refine ⟨⟨Z',w',a1.put o.dst v',hp.rel,hF'⟩,λi hi=> ?_⟩
   by_cases ei:i=W+(d+1)
   .subst ei;exact Nat.le_refl _
   .exact Nat.le_trans (hall i (by omega)) hp.nxt
  .rw [hv] at hput
   obtain ⟨hF',_⟩:=FR.put hF (.undef Z1) hput
   have e':hs (W+(d+1))=hs (W+d):=e
   refine ⟨⟨Z1,w1,a1.put o.dst undef,by rw [e'];exact hr,hF'⟩,λi hi=> ?_⟩
   by_cases ei:i=W+(d+1)
   .subst ei;exact Nat.le_refl _
   .rw [e'];exact hall i (by omega)
theorem zbP.gen (K:zbP P call ops Fs hs vs T W Z0 w0 a0):zet P call ops Fs hs vs W Z0 w0 a0:=by
 refine ⟨K.calls,K.ok,K.le,λj hj=> ?_,λ{j} hj {o} ho hf=> ?_,λ{i j} h hj=> ?_,K.tail,K.rel,K.fr,K.ndst,K.dep,K.grd,K.edges,K.forced⟩
 .rcases Nat.lt_or_ge j W with h|h
  .obtain ⟨o,a,b,_⟩:=K.pre j h;exact ⟨o,a,b⟩
  .obtain ⟨o,a,b,_⟩:=K.tail j h hj;exact ⟨o,a,b⟩
 .rcases Nat.lt_or_ge j W with h|h
  .obtain ⟨o',a,b,c⟩:=K.pre j h
   rw [ho] at a;cases a
   rcases c with ⟨c1,c2,c3⟩| ⟨c1,_,c3,h2,c4,_⟩| ⟨_,c2,_⟩
   .exact ⟨c3,.inr ⟨c1,c2⟩⟩
   .exact ⟨c3,.inl ⟨c1,(zdJ hf c4).2⟩⟩
   .rw [zdy hf] at c2;cases c2
  .obtain ⟨o',a,b,c⟩:=K.tail j h hj
   rw [ho] at a;cases a
   rcases c with ⟨c1,c2⟩| ⟨c1,c2,c3⟩
   .obtain ⟨e1,e2⟩:=zdJ hf c2
    exact ⟨e1,.inl ⟨c1,e2⟩⟩
   .exact ⟨c3,.inr ⟨c1,c2⟩⟩
 .rcases Nat.lt_or_ge j W with h'|h'
  .exact (K.facts j (by omega)).1.nx i h
  .obtain ⟨d,rfl⟩:∃d,j=W+d:=⟨j-W,by omega⟩
   exact (K.all d hj).2 i h
end
end
end Go.Ev
namespace Go.Ev
noncomputable section
open Go.RowKit
def sf (W i:Nat) (o:Op):Bool:=cond (Nat.blt i W) (zbl o) (zak o)
theorem zk3 {W i:Nat} {o:Op} (h:i<W):sf W i o=zbl o:=by unfold sf;rw [show Nat.blt i W=true from Nat.ble_eq_true_of_le h];rfl
theorem zw1 {W i:Nat} {o:Op} (h:W<=i):sf W i o=zak o:=by
 unfold sf
 have:Nat.blt i W=false:=by
  cases hb:Nat.blt i W with
  |false=>rfl
  |true=>have:=zbg hb;omega
 rw [this];rfl
theorem zqs {W i:Nat} {o:Op} (h:zak o=true):sf W i o=true:=by
 rcases Nat.lt_or_ge i W with h1|h1
 .rw [zk3 h1];exact zdy h
 .rw [zw1 h1];exact h
structure PhA (ops:Array Oper) (hs:Nat->zaa) (T W:Nat) (Z0:Nat->Option Loc) (w0:World) (L:Array Bool) (w:World) (Z:Nat->Option Loc):Prop where
 rel:∀k,k<=T->Rel (cut Z (hs k).next) (hs k) w
 un:∀i,i<T->L.getD i false=false->∀d,(hs i).next<=d->d<(hs (i+1)).next->Z d=none
 top:∀d,(hs T).next<=d->Z d=none
 far:∀i o,T<=i->ops[i]? =some o->sf W i o.op=false->L.getD i false=false
 idle:zlC w0 w
 news:∀i p,(hs 0).next<=i->Z i=some p->w0.heap.size<=p.b
structure PhB (ops:Array Oper) (hs:Nat->zaa) (T W:Nat) (Z0:Nat->Option Loc) (w0:World) (L:Array Bool) (w:World) (Z:Nat->Option Loc) (j:Nat):Prop where
 ge:T<=j
 le:j<=W
 listed:∀i o,ops[i]? =some o->sf W i o.op=false->(L.getD i false=true↔i<j)
 rel:Rel Z (hs j) w
 idle:zlC w0 w
 news:∀i p,(hs 0).next<=i->Z i=some p->w0.heap.size<=p.b
section
variable {P:Program} {call:Call->TypeId->zab->zaa->Option (Value×zaa)} {ops:Array Oper}
variable {Fs:Nat->zab} {hs:Nat->zaa} {vs:Nat->Value} {T W:Nat} {Z0:Nat->Option Loc} {w0:World} {a0:Act}
def StB (ops:Array Oper) (hs:Nat->zaa) (vs:Nat->Value) (T W:Nat) (Z0:Nat->Option Loc) (w0:World) (a0:Act) (L:Array Bool) (a:Act) (w:World):Prop:=
 ∃Z,zcu ops hs vs Z0 a0 L a Z/\(PhA ops hs T W Z0 w0 L w Z\/(∃j,PhB ops hs T W Z0 w0 L w Z j)\/∃j,zbQ ops hs W Z0 w0 L w Z j)
theorem StB.init (K:zbP P call ops Fs hs vs T W Z0 w0 a0) {L:Array Bool} (hL:∀i,L.getD i false=false):StB ops hs vs T W Z0 w0 a0 L a0 w0:=by
 have hTW:=K.leT
 have hWN:=K.le
 refine ⟨Z0,⟨λ_ _=>rfl,λi d _ h=>(by rw [hL] at h;cases h),λ_ _=>rfl,rfl,rfl⟩,.inl ⟨λk hk=> ?_,λi hi _ d h1 h2=>K.rel.fresh d (Nat.le_trans (K.gen.nx (Nat.zero_le i) (by omega)) h1),λd hd=>K.rel.fresh d (Nat.le_trans (K.gen.nx (Nat.zero_le T) (by omega)) hd),λi o _ _ _=>hL i,⟨λ_ _=>rfl,Nat.le_refl _,rfl,rfl,.refl _⟩,λi p hi hp=>(by rw [K.rel.fresh i hi] at hp;cases hp)⟩⟩
 obtain ⟨f,Z',w',a',hr,_⟩:=K.facts k (by omega)
 have h1:=f.nx 0 (Nat.zero_le _)
 have e:cut Z0 (hs k).next=Z0:=by
  funext i
  unfold cut
  split
  .rfl
  .exact (K.rel.fresh i (by omega)).symm
 rw [e]
 exact K.rel.init hr h1 f.low
theorem zbP.same (K:zbP P call ops Fs hs vs T W Z0 w0 a0) (j:Nat):∀d,j+d<=W->(∀i o,j<=i->i<j+d->ops[i]? =some o->zbl o.op=true)->hs (j+d)=hs j
 |0,_,_=>rfl
 |d+1,hd,h=>by
  obtain ⟨o,ho,_,hc⟩:=K.pre (j+d) (by omega)
  have hsf:=h (j+d) o (by omega) (by omega) ho
  have:hs (j+d+1)=hs (j+d):=by
   rcases hc with ⟨_,_,e⟩| ⟨_,_,e,_⟩| ⟨_,e,_⟩
   .exact e
   .exact e
   .rw [hsf] at e;cases e
  exact this.trans (K.same j d (by omega) λi o h1 h2 h3=>h i o h1 (by omega) h3)
theorem PhA.turn (K:zbP P call ops Fs hs vs T W Z0 w0 a0) {L:Array Bool} {w:World} {Z:Nat->Option Loc} (I:PhA ops hs T W Z0 w0 L w Z)
  (hall:∀i o,i<T->ops[i]? =some o->zbl o.op=false->L.getD i false=true):PhB ops hs T W Z0 w0 L w Z T:=by
 have hTW:=K.leT
 have e:cut Z (hs T).next=Z:=by
  funext i
  unfold cut
  split
  .rfl
  .exact (I.top i (by omega)).symm
 have hr:=I.rel T (Nat.le_refl _)
 rw [e] at hr
 refine ⟨Nat.le_refl _,hTW,λi o ho hf=>⟨λh=> ?_,λh=>hall i o h ho (by rw [<-zk3 (W:=W) (i:=i) (by omega)];exact hf)⟩,hr,I.idle,I.news⟩
 rcases Nat.lt_or_ge i T with h'|h'
 .exact h'
 .rw [I.far i o h' ho hf] at h;cases h
theorem PhB.turn (K:zbP P call ops Fs hs vs T W Z0 w0 a0) {L:Array Bool} {a:Act} {w:World} {Z:Nat->Option Loc} {j:Nat} (S:zcu ops hs vs Z0 a0 L a Z) (I:PhB ops hs T W Z0 w0 L w Z j)
  (hall:∀i o,i<W->ops[i]? =some o->zak o.op=false->L.getD i false=true):zbQ ops hs W Z0 w0 L w Z W:=by
 have hge:=I.ge
 have hle:=I.le
 have hsame:hs W=hs j:=by
  obtain ⟨d,hd⟩:∃d,W=j+d:=⟨W-j,by omega⟩
  rw [hd]
  refine K.same j d (by omega) λi o h1 h2 h3=> ?_
  cases hsf:zbl o.op with
  |true=>rfl
  |false=>
   have h4:=hall i o (by omega) h3 (zfF hsf)
   have:=(I.listed i o h3 (by rw [zk3 (by omega)];exact hsf)).1 h4
   omega
 obtain ⟨f,_⟩:=K.facts W (Nat.le_refl _)
 have hr:Rel Z (hs W) w:=by rw [hsame];exact I.rel
 refine ⟨Nat.le_refl _,K.le,λi o ho hf=>⟨λh=> ?_,λh=>hall i o h ho hf⟩,λd p hp=> ?_,S.only,hr,I.idle.os,I.idle.tape,I.idle.output,I.idle.grown,f.wl,f.nx 0 (Nat.zero_le _),λi _ hi=>f.low i hi,λS' N hS hN hμ=>⟨λb hb=>I.idle.still b (by omega),λi p hi hp=> ?_⟩⟩
 .rcases Nat.lt_or_ge i W with h'|h'
  .exact h'
  .have:=(I.listed i o ho (by rw [zw1 h'];exact hf)).1 h
   omega
 .exact (zbc.1 (K.gen.ext0 S.only K.le d p hp)).2
 .rcases Nat.lt_or_ge i (hs 0).next with h|h
  .rw [S.only i h] at hp;exact hμ i p hi hp
  .exact Nat.le_trans hN (I.news i p h hp)
theorem PhA.idles {L:Array Bool} {w w':World} {Z:Nat->Option Loc} (I:PhA ops hs T W Z0 w0 L w Z) (hi:zlC w w') {j:Nat} {o:Oper} (ho:ops[j]? =some o) (hf:sf W j o.op=true) (hLs:j<L.size):
  PhA ops hs T W Z0 w0 (L.setIfInBounds j true) w' Z:=by
 refine ⟨λk hk=>(I.rel k hk).world hi.still,λi h1 h2=>I.un i h1 ?_,I.top,λi oi h1 h2 h3=> ?_,⟨λb hb=>(hi.still b (Nat.lt_of_lt_of_le hb I.idle.grown)).trans (I.idle.still b hb),Nat.le_trans I.idle.grown hi.grown,hi.os.trans I.idle.os,hi.tape.trans I.idle.tape,hi.output.trans I.idle.output⟩,I.news⟩
 .rw [zaR hLs] at h2
  split at h2
  .cases h2
  .exact h2
 .rw [zaR hLs]
  split
  .rename_i e;subst e;rw [ho] at h2;cases h2;rw [hf] at h3;cases h3
  .exact I.far i oi h1 h2 h3
theorem PhB.idles {L:Array Bool} {w w':World} {Z:Nat->Option Loc} {j':Nat} (I:PhB ops hs T W Z0 w0 L w Z j') (hi:zlC w w') {j:Nat} {o:Oper} (ho:ops[j]? =some o) (hf:sf W j o.op=true) (hLs:j<L.size):
  PhB ops hs T W Z0 w0 (L.setIfInBounds j true) w' Z j':=by
 refine ⟨I.ge,I.le,λi oi h2 h3=> ?_,I.rel.world hi.still,⟨λb hb=>(hi.still b (Nat.lt_of_lt_of_le hb I.idle.grown)).trans (I.idle.still b hb),Nat.le_trans I.idle.grown hi.grown,hi.os.trans I.idle.os,hi.tape.trans I.idle.tape,hi.output.trans I.idle.output⟩,I.news⟩
 rw [zaR hLs,if_neg ?_]
 .exact I.listed i oi h2 h3
 .intro e;subst e;rw [ho] at h2;cases h2;rw [hf] at h3;cases h3
theorem StB.free (K:zbP P call ops Fs hs vs T W Z0 w0 a0) {L:Array Bool} {a:Act} {w:World} (hS:StB ops hs vs T W Z0 w0 a0 L a w) (hD:ziX ops L) {j:Nat} (hj:j<ops.size) (hLj:L.getD j false=false) (hLs:j<L.size) {o:Oper} (ho:ops[j]? =some o)
  (haft:∀e,e∈o.after.toList->Region.binds .any e=true->L.getD e.on false=true) (hf:zak o.op=true) {rd:Option Nat} {n:Nat} {Q:Exit->Act->World->Prop} {C:Act->World->Prop}
  (hC:∀a' w',StB ops hs vs T W Z0 w0 a0 (L.setIfInBounds j true) a' w'->C a' w'):wpOpIn (FNC rd) n P ops Q j C a w:=by
 obtain ⟨Z,S,hph⟩:=hS
 obtain ⟨hρ,hfetch⟩:=S.look K.gen hD hj hLj ho haft
 have hmem:o∈ops.toList:=by rw [Array.mem_toList_iff];exact Array.mem_of_getElem? ho
 have go:∀v' w',zlC w w'->VR (cut Z (hs (j+1)).next) (vs j) v'->C (a.put o.dst v') w':=λv' w' hi hv=>
  hC _ _ ⟨Z,S.next K.gen hj hLs ho (.refl _) S.only hv,hph.imp (λI=>I.idles hi ho (zqs hf) hLs) (λh=>h.imp (λ⟨j',I⟩=>⟨j',I.idles hi ho (zqs hf) hLs⟩) (λ⟨j',I⟩=>⟨j',I.idles hi ho hf hLs⟩))⟩
 obtain ⟨hnx,hst⟩:=K.gen.free hj ho hf
 unfold wpOpIn
 simp only [ho]
 rw [hfetch]
 rcases hst with ⟨hft,hany⟩| ⟨hft,hv⟩
 .rw [hft,if_pos rfl]
  have hlaid:LaidG w:=by
   rcases hph with I| ⟨j',I⟩| ⟨j',I⟩
   .exact (I.rel 0 (Nat.zero_le _)).top.1
   .exact I.rel.top.1
   .exact I.post.rel.top.1
  have hbare:=Rel.bare Z (N:=(hs j).next) w hlaid (K.gen.rel.top.2.1.mono (K.gen.ext0 S.only (by omega)))
  refine zdb K.calls (hany _) (K.ok o hmem) hbare hρ λZ' v' w' hv hp=> ?_
  obtain ⟨q1,_⟩:=zaK.quiet hbare hp (Nat.le_refl _)
  refine go v' w' ⟨q1,hp.size,hp.os,hp.tape,hp.output⟩ (hv.mono λx p hx=> ?_)
  have hxl:x<(hs j).next:=by
   rcases Nat.lt_or_ge x (hs j).next with h|h
   .exact h
   .rw [hp.rel.fresh x h] at hx;cases hx
  rw [hp.only x hxl] at hx
  rw [hnx];exact hx
 .rw [hft,if_neg (by simp)]
  exact ⟨λ_ _=>trivial,go undef w ⟨λ_ _=>rfl,Nat.le_refl _,rfl,rfl,.refl _⟩ (by rw [hv];exact .undef _)⟩
theorem StB.soft (K:zbP P call ops Fs hs vs T W Z0 w0 a0) {L:Array Bool} {a:Act} {w:World} (hS:StB ops hs vs T W Z0 w0 a0 L a w) (hD:ziX ops L) {j:Nat} (hj:j<W) (hLj:L.getD j false=false) (hLs:j<L.size) {o:Oper} (ho:ops[j]? =some o)
  (haft:∀e,e∈o.after.toList->Region.binds .any e=true->L.getD e.on false=true) (hf:zbl o.op=true) (hnf:zak o.op=false) {rd:Option Nat} {n:Nat} {Q:Exit->Act->World->Prop} {C:Act->World->Prop}
  (hC:∀a' w',StB ops hs vs T W Z0 w0 a0 (L.setIfInBounds j true) a' w'->C a' w'):wpOpIn (FNC rd) n P ops Q j C a w:=by
 have hWN:=K.le
 obtain ⟨Z,S,hph⟩:=hS
 obtain ⟨hρ,hfetch⟩:=S.look K.gen hD (by omega) hLj ho haft
 have hmem:o∈ops.toList:=by rw [Array.mem_toList_iff];exact Array.mem_of_getElem? ho
 have hsf:sf W j o.op=true:=by rw [zk3 hj];exact hf
 -- not in the tail
 have hidle:zlC w0 w:=by
  rcases hph with I| ⟨j',I⟩| ⟨j',I⟩
  .exact I.idle
  .exact I.idle
  .have:=(I.listed j o ho hnf).2 (by have:=I.ge;omega)
   rw [hLj] at this;cases this
 have go:∀v' w',zlC w w'->VR (cut Z (hs (j+1)).next) (vs j) v'->C (a.put o.dst v') w':=λv' w' hi hv=>
  hC _ _ ⟨Z,S.next K.gen (by omega) hLs ho (.refl _) S.only hv,hph.imp (λI=>I.idles hi ho hsf hLs) (λh=>h.imp (λ⟨j',I⟩=>⟨j',I.idles hi ho hsf hLs⟩) (λ⟨j',I⟩=>by
   have:=(I.listed j o ho hnf).2 (by have:=I.ge;omega)
   rw [hLj] at this;cases this))⟩
 obtain ⟨o',ho',hput,hst⟩:=K.pre j hj
 rw [ho] at ho';cases ho'
 unfold wpOpIn
 simp only [ho]
 rw [hfetch]
 rcases hst with ⟨hft,hv,e⟩| ⟨hft,_,e,h2,hop,hn,hq⟩| ⟨_,h',_⟩
 .rw [hft,if_neg (by simp)]
  exact ⟨λ_ _=>trivial,go undef w ⟨λ_ _=>rfl,Nat.le_refl _,rfl,rfl,.refl _⟩ (by rw [hv];exact .undef _)⟩
 .rw [hft,if_pos rfl]
  have h0:=K.gen.nx (Nat.zero_le j) (show j<=ops.size by omega)
  have hru:=(K.rel.world hidle.still).upTo (N:=(hs j).next) (O:=cut Z (hs j).next) h0 (λi hi=>by unfold cut;rw [if_pos (by omega)];exact S.only i hi) (λi hi=>by unfold cut;rw [if_neg (by omega)])
  refine zdb K.calls hop (K.ok o hmem) hru hρ λZ' v' w' hv hp=> ?_
  obtain ⟨q1,_⟩:=zaK.quiet hru hp hq
  have eμ:=zhs hru hp hn
  subst eμ
  exact go v' w' ⟨q1,hp.size,hp.os,hp.tape,hp.output⟩ (by rw [e];exact hv)
 .rw [hf] at h';cases h'
theorem PhA.next (K:zbP P call ops Fs hs vs T W Z0 w0 a0) {L:Array Bool} {a:Act} {w:World} {Z:Nat->Option Loc} (S:zcu ops hs vs Z0 a0 L a Z) (I:PhA ops hs T W Z0 w0 L w Z) {j:Nat} (hj:j<T) (hLj:L.getD j false=false) (hLs:j<L.size) {o:Oper} (ho:ops[j]? =some o)
  {Z':Nat->Option Loc} {h1:zaa} {w':World} {v':Value} {wl:Nat} (hp:zaK (cut Z (hs j).next) {hs j with wlow:=(hs j).next} w Z' h1 w') (hq:(hs j).next<=h1.wlow) (e:hs (j+1)={h1 with wlow:=wl}) (hv:VR Z' (vs j) v'):
  StB ops hs vs T W Z0 w0 a0 (L.setIfInBounds j true) (a.put o.dst v') w':=by
 have hTW:=K.leT
 have hWN:=K.le
 have nx:∀{i k:Nat},i<=k->k<=ops.size->(hs i).next<=(hs k).next:=λh h'=>K.gen.nx h h'
 obtain ⟨q1,q2⟩:=zaK.quiet ((I.rel j (by omega)).wlow _) hp hq
 have hB:Rel Z' (hs (j+1)) w':=by rw [e];exact hp.rel.wlow _
 have honly:∀i,i<(hs j).next->Z' i=Z i:=λi hi=>by
  rw [hp.only i hi];unfold cut;rw [if_pos hi]
 have hun:∀i,(hs j).next<=i->i<(hs (j+1)).next->Z i=none:=I.un j hj hLj
 generalize hμ2:(λi=>if (hs j).next<=i/\i<(hs (j+1)).next then Z' i else Z i)=Z2
 have m2:∀i,Z2 i=if (hs j).next<=i/\i<(hs (j+1)).next then Z' i else Z i:=λi=>by rw [<-hμ2]
 have ex:Ext Z Z2:=λi p hi=>by
  rw [m2]
  by_cases h:(hs j).next<=i/\i<(hs (j+1)).next
  .rw [hun i h.1 h.2] at hi;cases hi
  .rw [if_neg h];exact hi
 have hjj:(hs j).next<=(hs (j+1)).next:=nx (Nat.le_succ j) (show j+1<=ops.size by omega)
 have h0j:(hs 0).next<=(hs j).next:=nx (Nat.zero_le j) (by omega)
 have hjT:(hs (j+1)).next<=(hs T).next:=nx (show j+1<=T by omega) (by omega)
 refine ⟨Z2,S.next K.gen (by omega) hLs ho ex (λi hi=>by rw [m2,if_neg (by omega)];exact S.only i hi) (hv.mono λx p hx=> ?_),.inl ⟨λk hk=> ?_,λi hi hL d h1 h2=> ?_,λd hd=> ?_,λi oi h1 h2 h3=> ?_,⟨λb hb=>(q1 b (Nat.lt_of_lt_of_le hb I.idle.grown)).trans (I.idle.still b hb),Nat.le_trans I.idle.grown hp.size,hp.os.trans I.idle.os,hp.tape.trans I.idle.tape,hp.output.trans I.idle.output⟩,λi p hi h=> ?_⟩⟩
 .have hxl:x<(hs (j+1)).next:=by
   rcases Nat.lt_or_ge x (hs (j+1)).next with h|h
   .exact h
   .rw [hB.fresh x h] at hx;cases hx
  refine zbc.2 ⟨hxl, ?_⟩
  rw [m2]
  by_cases h:(hs j).next<=x
  .rw [if_pos ⟨h,hxl⟩];exact hx
  .rw [if_neg (by omega),<-honly x (by omega)];exact hx
 .by_cases hkj:k<=j
  .have hnk:=nx hkj (by omega)
   have ec:cut Z2 (hs k).next=cut Z (hs k).next:=by
    funext i;unfold cut
    split
    .rw [m2,if_neg (by omega)]
    .rfl
   rw [ec]
   exact (I.rel k hk).world q1
  .have hnk:=nx (show j+1<=k by omega) (show k<=ops.size by omega)
   have hA:=I.rel k hk
   have:=Rel.glue (lo:=(hs j).next) hA hB (λi hi=>by rw [honly i hi];unfold cut;rw [if_pos (by omega)])
    (λi h1 h2=>by unfold cut;rw [if_pos (by omega)];exact hun i h1 h2) q1 q2 (λi hi=>(K.facts k (by omega)).1.pre hk (j+1) (by omega) i hi) hnk
   have ec:cut Z2 (hs k).next=(λi=>if (hs j).next<=i/\i<(hs (j+1)).next then Z' i else cut Z (hs k).next i):=by
    funext i;unfold cut
    by_cases h:(hs j).next<=i/\i<(hs (j+1)).next
    .rw [if_pos (by omega),m2,if_pos h,if_pos h]
    .rw [m2,if_neg h,if_neg h]
   rw [ec];exact this
 .rw [zaR hLs] at hL
  by_cases eij:i=j
  .rw [if_pos eij] at hL;cases hL
  .rw [if_neg eij] at hL
   rw [m2,if_neg ?_]
   .exact I.un i hi hL d h1 h2
   .rcases Nat.lt_or_ge i j with h|h
    .have:=nx (show i+1<=j by omega) (by omega);omega
    .have:=nx (show j+1<=i by omega) (by omega);omega
 .rw [m2,if_neg (by omega)];exact I.top d hd
 .rw [zaR hLs,if_neg (by omega)];exact I.far i oi h1 h2 h3
 .rw [m2] at h
  by_cases hh:(hs j).next<=i/\i<(hs (j+1)).next
  .rw [if_pos hh] at h
   exact Nat.le_trans I.idle.grown (q2 i p hh.1 h)
  .rw [if_neg hh] at h;exact I.news i p hi h
theorem PhA.step (K:zbP P call ops Fs hs vs T W Z0 w0 a0) {L:Array Bool} {a:Act} {w:World} {Z:Nat->Option Loc} (S:zcu ops hs vs Z0 a0 L a Z) (I:PhA ops hs T W Z0 w0 L w Z) (hD:ziX ops L) {j:Nat} (hj:j<T) (hLj:L.getD j false=false) (hLs:j<L.size) {o:Oper} (ho:ops[j]? =some o)
  (haft:∀e,e∈o.after.toList->Region.binds .any e=true->L.getD e.on false=true) (hf:zbl o.op=false) {rd:Option Nat} {n:Nat} {Q:Exit->Act->World->Prop} {C:Act->World->Prop}
  (hC:∀a' w',StB ops hs vs T W Z0 w0 a0 (L.setIfInBounds j true) a' w'->C a' w'):wpOpIn (FNC rd) n P ops Q j C a w:=by
 have hTW:=K.leT
 have hWN:=K.le
 obtain ⟨hρ,hfetch⟩:=S.look K.gen hD (by omega) hLj ho haft
 have hmem:o∈ops.toList:=by rw [Array.mem_toList_iff];exact Array.mem_of_getElem? ho
 obtain ⟨o',ho',hput,hst⟩:=K.pre j (by omega)
 rw [ho] at ho';cases ho'
 unfold wpOpIn
 simp only [ho]
 rw [hfetch]
 rcases hst with ⟨hft,hv,e⟩| ⟨_,h',_⟩| ⟨hft,_,h2,hop,hq,e⟩
 .rw [hft,if_neg (by simp)]
  have hrj:=I.rel j (by omega)
  have htop:(hs j).next<=(hs j).next:=Nat.le_refl _
  exact ⟨λ_ _=>trivial,hC _ _ (I.next K S hj hLj hLs ho (v':=undef) (wl:=(hs j).wlow) (zaK.refl (hrj.wlow _)) htop (by rw [e]) (by rw [hv];exact .undef _))⟩
 .rw [hf] at h';cases h'
 .rw [hft,if_pos rfl]
  rw [show Nat.blt j T=true from Nat.ble_eq_true_of_le hj] at hq
  exact zdb K.calls hop (K.ok o hmem) ((I.rel j (by omega)).wlow _) hρ λZ' v' w' hv hp=>hC _ _ (I.next K S hj hLj hLs ho hp hq e hv)
theorem PhB.step (K:zbP P call ops Fs hs vs T W Z0 w0 a0) {L:Array Bool} {a:Act} {w:World} {Z:Nat->Option Loc} (S:zcu ops hs vs Z0 a0 L a Z) {j':Nat} (I:PhB ops hs T W Z0 w0 L w Z j') (hD:ziX ops L) {j:Nat} (hj:j<W) (hLj:L.getD j false=false) (hLs:j<L.size) {o:Oper} (ho:ops[j]? =some o)
  (haft:∀e,e∈o.after.toList->Region.binds .any e=true->L.getD e.on false=true) (hf:zbl o.op=false) {rd:Option Nat} {n:Nat} {Q:Exit->Act->World->Prop} {C:Act->World->Prop}
  (hC:∀a' w',StB ops hs vs T W Z0 w0 a0 (L.setIfInBounds j true) a' w'->C a' w'):wpOpIn (FNC rd) n P ops Q j C a w:=by
 have hTW:=K.leT
 have hWN:=K.le
 obtain ⟨hρ,hfetch⟩:=S.look K.gen hD (by omega) hLj ho haft
 have hmem:o∈ops.toList:=by rw [Array.mem_toList_iff];exact Array.mem_of_getElem? ho
 have hsfj:sf W j o.op=false:=by rw [zk3 hj];exact hf
 have hge:j'<=j:=by
  rcases Nat.lt_or_ge j j' with h|h
  .have:=(I.listed j o ho hsfj).2 h;rw [hLj] at this;cases this
  .exact h
 have hTj:T<=j:=Nat.le_trans I.ge hge
 have hdone:∀i oi,i<j->ops[i]? =some oi->zbl oi.op=false->L.getD i false=true:=λi oi hi hoi hfi=>
  zdr hD K.edges j o i ho haft (K.mids i j oi o hTj hj hi hoi ho hf hfi)
 have hsame:hs j=hs j':=by
  obtain ⟨d,rfl⟩:∃d,j=j'+d:=⟨j-j',by omega⟩
  refine K.same j' d (by omega) λi oi h1 h2 h3=> ?_
  cases hfi:zbl oi.op with
  |true=>rfl
  |false=>have:=(I.listed i oi h3 (by rw [zk3 (by omega)];exact hfi)).1 (hdone i oi h2 h3 hfi);omega
 have hrel:Rel Z (hs j) w:=by rw [hsame];exact I.rel
 have h0j:=K.gen.nx (Nat.zero_le j) (show j<=ops.size by omega)
 have hlist:∀i oi,ops[i]? =some oi->sf W i oi.op=false->((L.setIfInBounds j true).getD i false=true↔i<j+1):=λi oi hoi hfi=>by
  rw [zaR hLs]
  by_cases e:i=j
  .subst e;simp
  .rw [if_neg e,I.listed i oi hoi hfi]
   constructor
   .intro h;omega
   .intro h;exact (I.listed i oi hoi hfi).1 (hdone i oi (by omega) hoi (by rw [<-zk3 (W:=W) (i:=i) (by omega)];exact hfi))
 obtain ⟨o',ho',hput,hst⟩:=K.pre j hj
 rw [ho] at ho';cases ho'
 unfold wpOpIn
 simp only [ho]
 rw [hfetch]
 rcases hst with ⟨hft,hv,e⟩| ⟨_,h',_⟩| ⟨hft,_,h2,hop,hq,e⟩
 .rw [hft,if_neg (by simp)]
  exact ⟨λ_ _=>trivial,hC _ _ ⟨Z,S.next K.gen (by omega) hLs ho (.refl _) S.only (by rw [hv];exact .undef _),.inr (.inl ⟨j+1,Nat.le_succ_of_le hTj,hj,hlist,by rw [e];exact hrel,I.idle,I.news⟩)⟩⟩
 .rw [hf] at h';cases h'
 .rw [hft,if_pos rfl]
  have hbl:Nat.blt j T=false:=by
   cases hb:Nat.blt j T with
   |false=>rfl
   |true=>have:=zbg hb;omega
  rw [hbl] at hq
  have hq':(hs 0).next<=h2.wlow:=hq
  refine zdb K.calls hop (K.ok o hmem) (hrel.wlow _) (λx hx=>(hρ x hx).mono (zee Z _)) λZ' v' w' hv hp=> ?_
  have hO:=Old.post (hs:=hs) (Z0:=Z0) ⟨S.only,I.idle,I.news⟩ hp hq' h0j
  have hrel':Rel Z' (hs (j+1)) w':=by rw [e];exact hp.rel.wlow _
  refine hC _ _ ⟨Z',S.next K.gen (by omega) hLs ho hp.ext hO.only (hv.mono λx p hx=>zbc.2 ⟨?_,hx⟩),.inr (.inl ⟨j+1,Nat.le_succ_of_le hTj,hj,hlist,hrel',hO.idle,hO.news⟩)⟩
  rcases Nat.lt_or_ge x (hs (j+1)).next with h|h
  .exact h
  .rw [hrel'.fresh x h] at hx;cases hx
theorem ztY (K:zbP P call ops Fs hs vs T W Z0 w0 a0) (hM:MR Z0 (Fs 0).marks a0.defers)
  {rd:Option Nat} {n:Nat} {Q:Exit->Act->World->Prop} (hQ:∀(Z':Nat->Option Loc) (a':Act) (w':World),FR Z' (Fs ops.size) a'.tmps->MR Z' (Fs ops.size).marks a'.defers->zaK Z0 (hs 0) w0 Z' (hs ops.size) w'->Q .normal a' w'):
  ∀(fuel:Nat) (L:Array Bool) (a:Act) (w:World),L.size=ops.size->L.toList.count false<=fuel->ziX ops L->StB ops hs vs T W Z0 w0 a0 L a w->wpAnyIn (FNC rd) n P .any ops Q fuel L a w:=by
 have hTW:=K.leT
 have hWN:=K.le
 have up:∀{L:Array Bool} {a:Act} {w:World} {Z:Nat->Option Loc},zcu ops hs vs Z0 a0 L a Z->(PhA ops hs T W Z0 w0 L w Z\/∃j,PhB ops hs T W Z0 w0 L w Z j)->(∀i o,i<W->ops[i]? =some o->zak o.op=false->L.getD i false=true)->zbQ ops hs W Z0 w0 L w Z W:=λS hph hall=>by
  rcases hph with I| ⟨j,I⟩
  .exact (I.turn K λi o hi ho hf=>hall i o (by omega) ho (zfF hf)).turn K S hall
  .exact I.turn K S hall
 have nil:∀(L:Array Bool) (a:Act) (w:World),L.size=ops.size->StB ops hs vs T W Z0 w0 a0 L a w->Region.ready .any ops L= []->Q .normal a w:=by
  intro L a w hLs ⟨Z,S,hph⟩ hnil
  have hall:=ze8 K.edges hLs hnil
  have hidx:∀i o,ops[i]? =some o->i<ops.size:=λi o h=>(Array.getElem?_eq_some_iff.1 h).1
  obtain ⟨j,I⟩:∃j,zbQ ops hs W Z0 w0 L w Z j:=by
   rcases hph with I|I|I
   .exact ⟨W,up S (.inl I) λi o _ ho _=>hall i (hidx i o ho)⟩
   .exact ⟨W,up S (.inr I) λi o _ ho _=>hall i (hidx i o ho)⟩
   .exact I
  have hsame:hs ops.size=hs j:=by
   have hle:=I.le
   obtain ⟨d,hd⟩:∃d,ops.size=j+d:=⟨ops.size-j,by omega⟩
   rw [hd]
   refine K.gen.same j d (by omega) λi oi h1 h2 h3=> ?_
   cases hfi:zak oi.op with
   |true=>rfl
   |false=>have:=(I.listed i oi h3 hfi).1 (hall i (hidx i oi h3));omega
  have hpost:zaK Z0 (hs 0) w0 Z (hs ops.size) w:=by rw [hsame];exact I.post
  obtain ⟨s1,m1,g1,g2⟩:=K.gen.frame ops.size (Nat.le_refl _)
  refine hQ Z a w ⟨?_, ?_,λt=> ?_⟩ (by rw [m1,S.defers];exact hM.mono hpost.ext) hpost
  .rw [s1,S.size];exact K.fr.1
  .rw [s1];exact K.fr.2.1
  .by_cases hex:∃i,i<ops.size/\zbB ops i=some t
   .obtain ⟨i,hi,ht⟩:=hex
    rw [g2 i t hi ht]
    exact (S.put i t hi (hall i hi) ht).mono (zee Z _)
   .rw [g1 t λi hi ht=>hex ⟨i,hi,ht⟩,S.unput t λi hi _ ht=>hex ⟨i,hi,ht⟩]
    exact (K.fr.2.2 t).mono hpost.ext
 intro fuel
 induction fuel with
 |zero=>
  intro L a w hLs hcnt hD hS
  have hnil:Region.ready .any ops L= []:=by
   cases hr:Region.ready .any ops L with
   |nil=>rfl
   |cons i r=>
    obtain ⟨o,ho,hLi,_⟩:=zcP (ops:=ops) (L:=L) (i:=i) (by rw [hr];simp)
    have hi:i<L.size:=by rw [hLs];exact (Array.getElem?_eq_some_iff.1 ho).1
    have:=zgm hi (by rw [Array.getD_eq_getD_getElem?,Array.getElem?_eq_getElem hi] at hLi⊢;simpa using hLi)
    omega
  exact ⟨hnil,nil L a w hLs hS hnil⟩
 |succ fuel ih=>
  intro L a w hLs hcnt hD hS
  refine ⟨nil L a w hLs hS,λi hi=> ?_⟩
  obtain ⟨o,ho,hLt,haft⟩:=zcP hi
  have hiN:i<ops.size:=(Array.getElem?_eq_some_iff.1 ho).1
  have hLi:L.getD i false=false:=by rw [Array.getD_eq_getD_getElem?,Array.getElem?_eq_getElem (by omega)] at hLt⊢;simpa using hLt
  have hC:∀a' w',StB ops hs vs T W Z0 w0 a0 (L.setIfInBounds i true) a' w'->wpAnyIn (FNC rd) n P .any ops Q fuel (L.setIfInBounds i true) a' w':=
   λa' w' hS'=>ih _ a' w' (by simpa using hLs) (zfc (by omega) hLi hcnt) (hD.set ho (by omega) haft) hS'
  cases hfree:zak o.op with
  |true=>exact hS.free K hD hiN hLi (by omega) ho haft hfree hC
  |false=>
   rcases Nat.lt_or_ge i W with hiW|hiW
   .cases hsoft:zbl o.op with
    |true=>exact hS.soft K hD hiW hLi (by omega) ho haft hsoft hfree hC
    |false=>
     obtain ⟨Z,S,hph⟩:=hS
     rcases hph with I| ⟨j,I⟩| ⟨j,I⟩
     .by_cases hiT:i<T
      .exact I.step K S hD hiT hLi (by omega) ho haft hsoft hC
      .have I2:=I.turn K λk ok hk hok hfk=>zdr hD K.edges i o k ho haft (K.mids k i ok o (by omega) hiW (by omega) hok ho hsoft hfk)
       exact I2.step K S hD hiW hLi (by omega) ho haft hsoft hC
     .exact I.step K S hD hiW hLi (by omega) ho haft hsoft hC
     .have:=(I.listed i o ho hfree).2 (by have:=I.ge;omega)
      rw [hLi] at this;cases this
   .obtain ⟨Z,S,hph⟩:=hS
    have hC2:∀a' w',St ops hs vs W Z0 w0 a0 (L.setIfInBounds i true) a' w'->(∃j,∃Z,zcu ops hs vs Z0 a0 (L.setIfInBounds i true) a' Z/\zbQ ops hs W Z0 w0 (L.setIfInBounds i true) w' Z j)->wpAnyIn (FNC rd) n P .any ops Q fuel (L.setIfInBounds i true) a' w':=
     λa' w' _ ⟨j,Z,S,I⟩=>hC a' w' ⟨Z,S,.inr (.inr ⟨j,I⟩)⟩
    have hmask:∀k ok,k<W->ops[k]? =some ok->zak ok.op=false->L.getD k false=true:=λk ok hk hok hfk=>zdr hD K.edges i o k ho haft (K.forced k i ok o hiW (by omega) hok ho hfree hfk)
    obtain ⟨j,I⟩:∃j,zbQ ops hs W Z0 w0 L w Z j:=by
     rcases hph with I|I|I
     .exact ⟨W,up S (.inl I) hmask⟩
     .exact ⟨W,up S (.inr I) hmask⟩
     .exact I
    exact I.step2 K.gen S hD hiN hLi (by omega) ho haft hfree λa' w' Z' j' S' I'=>hC a' w' ⟨Z',S',.inr (.inr ⟨j',I'⟩)⟩
theorem zhI {R1 R2:Nat->zab->zaa->Value->zab->zaa->Prop} {k n m:Nat} {F F1 F':zab} {h h1 h':zaa} (a:zcM R1 k n F h F1 h1) (b:zcM R2 (k+n) m F1 h1 F' h'):
  zcM (λj F h v F1 h1=>(j<k+n->R1 j F h v F1 h1)/\(k+n<=j->R2 j F h v F1 h1)) k (n+m) F h F' h':=
 zcM.append (a.mono λj F h v F1 h1 _ h2 hr=>⟨λ_=>hr,λh3=>by omega⟩) (b.mono λj F h v F1 h1 h2 _ hr=>⟨λh3=>by omega,λ_=>hr⟩)
theorem zrO (hc:zcy P call) (hok:∀o,o∈ops.toList->zcx o.op=true) {T W:Nat} (hWN:W<=ops.size) {F F':zab} {h h':zaa} (hev:zkw call P ops (zaX ops.toList []) T W F h=some (F',h'))
  {Z:Nat->Option Loc} {a:Act} {w:World} (hr:Rel Z h w) (hF:FR Z F a.tmps) (hM:MR Z F.marks a.defers) {rd:Option Nat} {n:Nat} {Q:Exit->Act->World->Prop}
  (hQ:∀(Z':Nat->Option Loc) (a':Act) (w':World),FR Z' F' a'.tmps->MR Z' F'.marks a'.defers->zaK Z h w Z' h' w'->Q .normal a' w'):wpAnyIn (FNC rd) n P .any ops Q ops.size (Array.replicate ops.size false) a w:=by
 unfold zkw at hev
 cases hd:zkv ops (zaX ops.toList []) T W with
 |false=>rw [hd] at hev;cases hev
 |true=>
  rw [hd] at hev
  simp only [cond_true] at hev
  simp only [zkv,Bool.and_eq_true] at hd
  obtain ⟨hd,hTW',hmid⟩:=hd
  have hTW:T<=W:=Nat.le_of_ble_eq_true hTW'
  split at hev
  .rename_i F1 h1 hpre
   split at hev
   .rename_i F2 h2 hmd
    have t1:=zef (ops.toList.take T) 0 F F1 h h1 (λi o hi=>by
     rw [Nat.zero_add]
     rw [List.getElem?_take] at hi
     split at hi
     .simpa using hi
     .cases hi) hpre
    have t2:=zef ((ops.toList.take W).drop T) T F1 F2 h1 h2 (λi o hi=>by
     rw [List.getElem?_drop,List.getElem?_take] at hi
     split at hi
     .simpa using hi
     .cases hi) hmd
    obtain ⟨Fs3,hs3,vs3,f1,f2,f3,f4,hst3⟩:=zft (ops.toList.drop W) W F2 F' h2 h' (λi o hi=>by
     rw [List.getElem?_drop] at hi
     simpa using hi) hev
    have t3:zcM (zeu P call ops) W (ops.toList.drop W).length F2 h2 F' h':=⟨Fs3,hs3,vs3,f1,f2,f3,f4,hst3⟩
    have hl1:(ops.toList.take T).length=T:=by simp;omega
    have hl2:((ops.toList.take W).drop T).length=W-T:=by simp;omega
    have hl3:(ops.toList.drop W).length=ops.size-W:=by simp
    rw [hl1] at t1
    rw [hl2] at t2
    rw [hl3] at t3
    have t12:=zhI t1 (by rw [Nat.zero_add];exact t2)
    rw [show T+(W-T)=W by omega] at t12
    have t123:=zhI t12 (by rw [Nat.zero_add];exact t3)
    rw [show W+(ops.size-W)=ops.size by omega] at t123
    obtain ⟨Fs,hs,vs,z1,z2,z3,z4,hst⟩:=t123
    rw [Nat.zero_add] at z3 z4
    simp only [zgn,Bool.and_eq_true] at hd
    obtain ⟨⟨⟨⟨hed,hdep⟩,hgrd⟩,hnd⟩,htl⟩:=hd
    have hml:(zaX ops.toList []).length=ops.size:=by
     obtain ⟨r,h1,h2,_⟩:=zds ops.toList []
     rw [h1];simpa using h2
    have zmem:∀(j:Nat) (o:Oper),ops[j]? =some o->(o,j)∈ops.toList.zipIdx:=λj o ho=>by
     rw [List.mem_zipIdx_iff_getElem?];simpa using ho
    have hfreeD:∀(j:Nat) (o:Oper),ops[j]? =some o->(zfE ops).getD j false=zak o.op:=λj o ho=>by
     have:ops.toList[j]? =some o:=by simpa using ho
     simp [zfE,List.getD_eq_getElem?_getD,this]
    have hsoftD:∀(j:Nat) (o:Oper),ops[j]? =some o->(zfL ops).getD j false=zbl o.op:=λj o ho=>by
     have:ops.toList[j]? =some o:=by simpa using ho
     simp [zfL,List.getD_eq_getElem?_getD,this]
    have K:zbP P call ops Fs hs vs T W Z w a:=by
     refine ⟨hc,hok,hTW,hWN,λj hj=> ?_,λj hj hjN=> ?_,by rw [z2];exact hr,by rw [z1];exact hF,λi j d hij hi=> ?_,λi j oi oj hij hi hj=> ?_,λj oj g b hj hg=> ?_,hed,λi j oi oj hTj hij hi hj hfj hfi=> ?_,λi j oi oj hTj hjW hij hi hj hfj hfi=> ?_⟩
     .have h12:=(hst j (Nat.zero_le _) (by omega)).1 (by omega)
      rw [z2]
      rcases Nat.lt_or_ge j T with h|h
      .rw [show Nat.blt j T=true from Nat.ble_eq_true_of_le h]
       exact h12.1 (by omega)
      .have hbl:Nat.blt j T=false:=by
        cases hb:Nat.blt j T with
        |false=>rfl
        |true=>have:=zbg hb;omega
       rw [hbl]
       -- the middle's start's heap is the region's
       exact h12.2 (by omega)
     .exact (hst j (Nat.zero_le _) (by omega)).2 (by omega)
     .have:=zeP ops.toList hnd i j d hij (by simpa [zbB] using hi)
      simpa [zbB] using this
     .have h1:=List.all_eq_true.1 hdep (oj,j) (zmem j oj hj)
      have h2:=List.all_eq_true.1 h1 (oi,i) (zmem i oi hi)
      simp only [Bool.or_eq_true,Bool.not_eq_true'] at h2
      rcases h2 with (h2|h2)|h2
      .have:=Nat.ble_eq_true_of_le hij
       rw [show Nat.blt i j=Nat.ble (i+1) j from rfl,this] at h2;cases h2
      .exact .inl h2
      .exact .inr h2
     .have h1:=List.all_eq_true.1 hgrd (oj,j) (zmem j oj hj)
      simp only [hg,Bool.and_eq_true] at h1
      exact ⟨Nat.le_of_ble_eq_true h1.1,h1.2⟩
     .have hjN:j<ops.size:=(Array.getElem?_eq_some_iff.1 hj).1
      have h1:=List.all_eq_true.1 htl j (by rw [List.mem_range,hml];exact hjN)
      simp only [Bool.or_eq_true,zdp] at h1
      rcases h1 with h1|h1|h1
      .have:j+1<=W:=Nat.le_of_ble_eq_true h1
       omega
      .rw [hfreeD j oj hj,hfj] at h1;cases h1
      .have h2:=List.all_eq_true.1 h1 i (List.mem_range.2 hij)
       simp only [Bool.or_eq_true] at h2
       rcases h2 with h2|h2
       .rw [hfreeD i oi hi,hfi] at h2;cases h2
       .exact h2
     .have h1:=List.all_eq_true.1 hmid j (List.mem_range.2 hjW)
      simp only [Bool.or_eq_true,zdp] at h1
      rcases h1 with h1|h1|h1
      .have:j+1<=T:=Nat.le_of_ble_eq_true h1
       omega
      .rw [hsoftD j oj hj,hfj] at h1;cases h1
      .have h2:=List.all_eq_true.1 h1 i (List.mem_range.2 hij)
       simp only [Bool.or_eq_true] at h2
       rcases h2 with h2|h2
       .rw [hsoftD i oi hi,hfi] at h2;cases h2
       .exact h2
    have hrep:∀i,(Array.replicate ops.size false).getD i false=false:=λi=>by
     rw [Array.getD_eq_getD_getElem?,Array.getElem?_replicate];split<;>rfl
    exact ztY K (by rw [z1];exact hM) (by rw [z2,z3,z4];exact hQ) ops.size _ a w (by simp) (by simp) (λk o hk=>by rw [hrep] at hk;cases hk) (StB.init K hrep)
   .cases hev
  .cases hev
theorem zgJ {F:zab} {t:TypeId} {H H1:zaa} {v:Value} {l s:List Nat} {o:Op} (hp:zeJ o=true) (hf:zdZ F H o=some (l,s)) (h:opA call P F o t H=some (v,H1)):
  H1.next=H.next/\(∀x,x∉s->H1.get x=H.get x)/\(∀x,H.get x=none->H1.get x=none)/\
   (zaq o=false->H1=H/\∀H',(∀x,x∈l->H'.get x=H.get x)->opA call P F o t H'=some (v,H'))/\(zaq o=true->∀i r,s=i::r->∀y,y∈r->y≠i->H1.get y=none):=by
 have calm:zaq o≠true->H1=H->(zaq o=false->∀H',(∀x,x∈l->H'.get x=H.get x)->opA call P F o t H'=some (v,H'))->H1.next=H.next/\(∀x,x∉s->H1.get x=H.get x)/\(∀x,H.get x=none->H1.get x=none)/\
   (zaq o=false->H1=H/\∀H',(∀x,x∈l->H'.get x=H.get x)->opA call P F o t H'=some (v,H'))/\(zaq o=true->∀i r,s=i::r->∀y,y∈r->y≠i->H1.get y=none):=λhns e k=>by
  subst e
  refine ⟨rfl,λ_ _=>rfl,λ_ hx=>hx,λhs=>⟨rfl,k hs⟩,λhs=> ?_⟩
  exact absurd hs hns
 cases hfree:zak o with
 |true=>
  obtain ⟨e,k⟩:=zdJ hfree h
  exact calm (λhs=>by cases o<;>simp_all [zaq,zak]) e λ_ H' _=>k H'
 |false=>
  cases o with
  |load t0 a=>
   simp only [zdZ] at hf
   split at hf
   .rename_i i off ha
    simp only [Option.some.injEq,Prod.mk.injEq] at hf
    obtain ⟨rfl,rfl⟩:=hf
    simp only [opA,ha] at h⊢
    cases hl:zeM P H t0 (.pointer (some ⟨i,off,none⟩)) with
    |none=>rw [hl] at h;cases h
    |some u=>
     rw [hl] at h
     simp only [zdE,Option.some.injEq,Prod.mk.injEq] at h
     obtain ⟨rfl,rfl⟩:=h
     refine ⟨rfl,λ_ _=>rfl,λ_ hx=>hx,λ_=>⟨rfl,λH' hH=> ?_⟩,λhs=>(by simp [zaq] at hs)⟩
     have hg:=hH i (by simp)
     have:zeM P H' t0 (.pointer (some ⟨i,off,none⟩))=some u:=by
      rw [<-hl];unfold zeM zaa.cells;simp only [hg]
     rw [this];rfl
   .cases hf
  |convert s0 d0 x=>
   simp only [zdZ] at hf
   split at hf
   .rename_i k n hx
    simp only [opA,hx,zoL,zed] at h⊢
    obtain ⟨e,k2⟩:=zeB (f:=λH=>zaA P _ H) h zbv
    subst e
    exact ⟨rfl,λ_ _=>rfl,λ_ hx=>hx,λ_=>⟨rfl,λH' _=>k2 H'⟩,λhs=>(by simp [zaq] at hs)⟩
   .cases hf
  |indexAddr t0 x ix=>
   simp only [opA] at h⊢
   cases hq:zav P t0 (zah F x) (zah F ix) with
   |none=>rw [hq] at h;cases h
   |some u=>
    rw [hq] at h
    simp only [zdE,Option.some.injEq,Prod.mk.injEq] at h
    obtain ⟨rfl,rfl⟩:=h
    exact ⟨rfl,λ_ _=>rfl,λ_ hx=>hx,λ_=>⟨rfl,λH' _=>rfl⟩,λhs=>(by simp [zaq] at hs)⟩
  |slice t0 x lo hi mx=>
   simp only [zdZ] at hf
   split at hf
   .rename_i i off len cap hx
    simp only [Option.some.injEq,Prod.mk.injEq] at hf
    obtain ⟨rfl,rfl⟩:=hf
    simp only [opA,hx,zch] at h⊢
    cases hq:zbR P H t0 (.slice (some ⟨i,off,none⟩) len cap) (lo.map (zah F)) (hi.map (zah F)) (mx.map (zah F)) with
    |none=>
     rw [hq] at h
     have hz:za3 P H t0 (.slice (some ⟨i,off,none⟩) len cap) (lo.map (zah F)) (hi.map (zah F)) (mx.map (zah F))=none:=by
      unfold za3;split
      .rename_i hh _;cases hh
      .rfl
     simp only [hz] at h
     cases h
    |some u=>
     rw [hq] at h
     simp only [Option.some.injEq,Prod.mk.injEq] at h
     obtain ⟨rfl,rfl⟩:=h
     refine ⟨rfl,λ_ _=>rfl,λ_ hx=>hx,λ_=>⟨rfl,λH' hH=> ?_⟩,λhs=>(by simp [zaq] at hs)⟩
     have hg:=hH i (by simp)
     have hez:∀z,zfd H' i z=zfd H i z:=λz=>by unfold zfd;rw [hg]
     have hvz:∀z o c,zcK H' i z o c=zcK H i z o c:=λz o c=>by unfold zcK;rw [hg]
     have:zbR P H' t0 (.slice (some ⟨i,off,none⟩) len cap) (lo.map (zah F)) (hi.map (zah F)) (mx.map (zah F))=some u:=by
      rw [<-hq];unfold zbR
      cases P.underlying t0 with
      |none=>rfl
      |some d=>cases d<;>first|rfl|simp only [hez,hvz]
     rw [this]
   .cases hf
  |store t0 a x=>
   simp only [zdZ] at hf
   split at hf
   .rename_i i off ha
    split at hf
    .rename_i cs e z m hg
     simp only [Option.some.injEq,Prod.mk.injEq] at hf
     obtain ⟨rfl,rfl⟩:=hf
     simp only [opA,ha,zbt,zdz,za5,hg] at h
     split at h
     .rename_i h2 hst
      simp only [Option.some.injEq,Prod.mk.injEq] at h
      obtain ⟨rfl,rfl⟩:=h
      split at hst
      .rename_i sz hsz
       cases hc:Nat.beq (zah F x).cells.size sz with
       |false=>rw [hc] at hst;cases hst
       |true=>
        rw [hc] at hst
        simp only [cond_true] at hst
        cases hc2:(Nat.ble (off+(zah F x).cells.toList.length) cs.length&&(zah F x).cells.toList.all zar) with
        |false=>rw [hc2] at hst;cases hst
        |true=>
         rw [hc2] at hst
         simp only [cond_true,Option.some.injEq] at hst
         subst hst
         refine ⟨zaa.next_kill _ _,λy hy=> ?_,λy hy=> ?_,λhs=>(by simp [zaq] at hs),λ_ i' r' e y hy hyi=> ?_⟩
         .simp only [List.mem_cons,not_or] at hy
          rw [zaa.get_write,if_neg hy.1,zaa.get_kill,if_neg]
          intro e;apply hy.2;rw [e];simp
         .have hne:y≠i:=λe=>by rw [e,hg] at hy;cases hy
          rw [zaa.get_write,if_neg hne,zaa.get_kill]
          split
          .rfl
          .exact hy
         .obtain ⟨rfl,rfl⟩:=List.cons.inj e
          rw [zaa.get_write,if_neg hyi,zaa.get_kill,if_pos (by simpa using hy)]
      .cases hst
     .cases h
    .cases hf
   .cases hf
  |_=>exact absurd (hfree.symm.trans hp) (by simp)
def znQ (ops:Array Oper) (LD ST:List Nat) (j:Nat) (F:zab) (h:zaa):Prop:= ∀o,ops[j]? =some o->za6 F ops o=true->∃l s,zdZ F h o.op=some (l,s)/\(∀x,x∈l->x∈LD)/\∀x,x∈s->x∈ST
theorem zgS:∀(l:List Oper) (k:Nat) (F F':zab) (h h':zaa) (ld st:List Nat),(∀i o,l[i]? =some o->ops[k+i]? =some o)->zgR call P ops l F h ld st=some (F',h')->
  ∃(Fs:Nat->zab) (hs:Nat->zaa) (vs:Nat->Value) (LD ST:List Nat),Fs k=F/\hs k=h/\Fs (k+l.length)=F'/\hs (k+l.length)=h'/\(∀x,x∈ld->x∈LD)/\(∀x,x∈st->x∈ST)/\(∀x,x∈LD->x∉ST)/\
   ∀j,k<=j->j<k+l.length->zeu P call ops j (Fs j) (hs j) (vs j) (Fs (j+1)) (hs (j+1))/\znQ ops LD ST j (Fs j) (hs j)
 | [],k,F,F',h,h',ld,st,_,he=>by
  simp only [zgR] at he
  cases hc:(ld.all λi=>st.all λj=> !Nat.beq i j) with
  |false=>rw [hc] at he;cases he
  |true=>
   rw [hc] at he
   simp only [cond_true,Option.some.injEq,Prod.mk.injEq] at he
   obtain ⟨rfl,rfl⟩:=he
   refine ⟨λ_=>F,λ_=>h,λ_=>undef,ld,st,rfl,rfl,rfl,rfl,λ_ hx=>hx,λ_ hx=>hx,λx hx hs=> ?_,λj h1 h2=>by simp at h2;omega⟩
   have:=List.all_eq_true.1 (List.all_eq_true.1 hc x hx) x hs
   rw [Nat.beq_refl] at this;cases this
 |o::l,k,F,F',h,h',ld,st,hl,he=>by
  have ho:ops[k]? =some o:=by simpa using hl 0 o rfl
  have hl':∀i o',l[i]? =some o'->ops[k+1+i]? =some o':=λi o' hi=>by
   have:=hl (i+1) o' (by simpa using hi)
   rwa [show k+1+i=k+(i+1) by omega]
  have key:∀(v:Value) (F1:zab) (h1:zaa) (l1 s1:List Nat),F.put o.dst v=some F1->zgR call P ops l F1 h1 (l1++ld) (s1++st)=some (F',h')->
    ((za6 F ops o=true/\opA call P F o.op o.type h=some (v,h1))\/(za6 F ops o=false/\v=undef/\h1=h))->(za6 F ops o=true->zdZ F h o.op=some (l1,s1))->
    ∃(Fs:Nat->zab) (hs:Nat->zaa) (vs:Nat->Value) (LD ST:List Nat),Fs k=F/\hs k=h/\Fs (k+(o::l).length)=F'/\hs (k+(o::l).length)=h'/\(∀x,x∈ld->x∈LD)/\(∀x,x∈st->x∈ST)/\(∀x,x∈LD->x∉ST)/\
     ∀j,k<=j->j<k+(o::l).length->zeu P call ops j (Fs j) (hs j) (vs j) (Fs (j+1)) (hs (j+1))/\znQ ops LD ST j (Fs j) (hs j):=by
   intro v F1 h1 l1 s1 hput hrest hst hft
   obtain ⟨Fs,hs,vs,LD,ST,e1,e2,e3,e4,e5,e6,e7,hj⟩:=zgS l (k+1) F1 F' h1 h' _ _ hl' hrest
   refine ⟨λj=>if j=k then F else Fs j,λj=>if j=k then h else hs j,λj=>if j=k then v else vs j,LD,ST,if_pos rfl,if_pos rfl, ?_, ?_,λx hx=>e5 x (List.mem_append_right _ hx),λx hx=>e6 x (List.mem_append_right _ hx),e7,λj h1' h2'=> ?_⟩
   .simp only [List.length_cons];rw [if_neg (by omega)];rw [<-e3];congr 1;omega
   .simp only [List.length_cons];rw [if_neg (by omega)];rw [<-e4];congr 1;omega
   .by_cases e:j=k
    .subst e
     show zeu P call ops j (if j=j then F else Fs j) (if j=j then h else hs j) (if j=j then v else vs j) (if j+1=j then F else Fs (j+1)) (if j+1=j then h else hs (j+1))/\znQ ops LD ST j (if j=j then F else Fs j) (if j=j then h else hs j)
     rw [if_pos rfl,if_pos rfl,if_pos rfl,if_neg (Nat.succ_ne_self j),if_neg (Nat.succ_ne_self j),e1,e2]
     refine ⟨⟨o,ho,hput,hst⟩,λo' ho' hf=> ?_⟩
     rw [ho] at ho';cases ho'
     exact ⟨l1,s1,hft hf,λx hx=>e5 x (List.mem_append_left _ hx),λx hx=>e6 x (List.mem_append_left _ hx)⟩
    .have hj':=hj j (by omega) (by simp only [List.length_cons] at h2';omega)
     have e':¬j+1=k:=by omega
     show zeu P call ops j (if j=k then F else Fs j) (if j=k then h else hs j) (if j=k then v else vs j) (if j+1=k then F else Fs (j+1)) (if j+1=k then h else hs (j+1))/\znQ ops LD ST j (if j=k then F else Fs j) (if j=k then h else hs j)
     rw [if_neg e,if_neg e,if_neg e,if_neg e',if_neg e']
     exact hj'
  simp only [zgR] at he
  cases hf:za6 F ops o with
  |true=>
   rw [hf] at he
   simp only [cond_true] at he
   split at he
   .rename_i l1 s1 hft
    split at he
    .rename_i v h1 hop
     rw [za8] at he
     split at he
     .rename_i F1 hput
      exact key v F1 _ l1 s1 hput he (.inl ⟨hf,hop⟩) (λ_=>hft)
     .cases he
    .cases he
   .cases he
  |false=>
   rw [hf] at he
   simp only [cond_false] at he
   split at he
   .rename_i F1 hput
    exact key undef F1 h [] [] hput he (.inr ⟨hf,rfl,rfl⟩) (λh=>by rw [hf] at h;cases h)
   .cases he
structure PhC (ops:Array Oper) (hs:Nat->zaa) (Z0:Nat->Option Loc) (w0:World) (L:Array Bool) (w:World) (Z:Nat->Option Loc) (j:Nat):Prop where
 le:j<=ops.size
 listed:∀i o,ops[i]? =some o->zaq o.op=true->(L.getD i false=true↔i<j)
 post:zaK Z0 (hs 0) w0 Z (hs j) w
structure zhi (P:Program) (call:Call->TypeId->zab->zaa->Option (Value×zaa)) (ops:Array Oper) (Fs:Nat->zab) (hs:Nat->zaa) (vs:Nat->Value) (Z0:Nat->Option Loc) (w0:World) (a0:Act):Prop where
 gen:zet P call ops Fs hs vs ops.size Z0 w0 a0
 step:∀j,j<ops.size->zeu P call ops j (Fs j) (hs j) (vs j) (Fs (j+1)) (hs (j+1))
 nx:∀j,j<=ops.size->(hs j).next=(hs 0).next
 calm:∀j o,ops[j]? =some o->zaq o.op=false->hs (j+1)=hs j/\(za6 (Fs j) ops o=true->∀j',j'<=ops.size->opA call P (Fs j) o.op o.type (hs j')=some (vs j,hs j'))
 forced:∀i j oi oj,i<j->ops[i]? =some oi->ops[j]? =some oj->zaq oj.op=true->zaq oi.op=true->((zaX ops.toList []).getD j 0).testBit i=true
variable {Fs:Nat->zab} {hs:Nat->zaa} {vs:Nat->Value} {Z0:Nat->Option Loc} {w0:World} {a0:Act}
def StC (ops:Array Oper) (hs:Nat->zaa) (vs:Nat->Value) (Z0:Nat->Option Loc) (w0:World) (a0:Act) (L:Array Bool) (a:Act) (w:World):Prop:=
 ∃Z j,zcu ops hs vs Z0 a0 L a Z/\PhC ops hs Z0 w0 L w Z j
theorem zhi.same (K:zhi P call ops Fs hs vs Z0 w0 a0) (j:Nat):∀d,j+d<=ops.size->(∀i o,j<=i->i<j+d->ops[i]? =some o->zaq o.op=false)->hs (j+d)=hs j
 |0,_,_=>rfl
 |d+1,hd,h=>by
  have ho:ops[j+d]? =some ops[j+d]:=Array.getElem?_eq_getElem (by omega)
  have:=(K.calm _ _ ho (h (j+d) _ (by omega) (by omega) ho)).1
  exact this.trans (K.same j d (by omega) λi o h1 h2 h3=>h i o h1 (by omega) h3)
theorem PhC.calm (K:zhi P call ops Fs hs vs Z0 w0 a0) {L:Array Bool} {a:Act} {w:World} {Z:Nat->Option Loc} (S:zcu ops hs vs Z0 a0 L a Z) {j':Nat} (I:PhC ops hs Z0 w0 L w Z j') (hD:ziX ops L) {j:Nat} (hj:j<ops.size) (hLj:L.getD j false=false) (hLs:j<L.size) {o:Oper} (ho:ops[j]? =some o)
  (haft:∀e,e∈o.after.toList->Region.binds .any e=true->L.getD e.on false=true) (hnf:zaq o.op=false) {rd:Option Nat} {n:Nat} {Q:Exit->Act->World->Prop} {C:Act->World->Prop}
  (hC:∀a' w',StC ops hs vs Z0 w0 a0 (L.setIfInBounds j true) a' w'->C a' w'):wpOpIn (FNC rd) n P ops Q j C a w:=by
 obtain ⟨hρ,hfetch⟩:=S.look K.gen hD hj hLj ho haft
 have hmem:o∈ops.toList:=by rw [Array.mem_toList_iff];exact Array.mem_of_getElem? ho
 obtain ⟨heq,hcalm⟩:=K.calm j o ho hnf
 have hlist:∀i oi,ops[i]? =some oi->zaq oi.op=true->((L.setIfInBounds j true).getD i false=true↔i<j'):=λi oi hoi hfi=>by
  rw [zaR hLs]
  by_cases e:i=j
  .subst e;rw [ho] at hoi;cases hoi;rw [hnf] at hfi;cases hfi
  .rw [if_neg e];exact I.listed i oi hoi hfi
 have hnx:(hs (j+1)).next=(hs j').next:=(K.nx (j+1) hj).trans (K.nx j' I.le).symm
 obtain ⟨o',ho',hput,hst⟩:=K.step j hj
 rw [ho] at ho';cases ho'
 unfold wpOpIn
 simp only [ho]
 rw [hfetch]
 rcases hst with ⟨hf,_⟩| ⟨hf,hv,_⟩
 .rw [hf,if_pos rfl]
  refine zdb K.gen.calls (hcalm hf j' I.le) (K.gen.ok o hmem) I.post.rel (λx hx=>(hρ x hx).mono (zee Z _)) λZ' v' w' hv hp=> ?_
  refine hC _ _ ⟨Z',j',S.next K.gen hj hLs ho hp.ext (λi hi=>(hp.only i (by rw [K.nx j' I.le];exact hi)).trans (S.only i hi)) (hv.mono λx p hx=>zbc.2 ⟨?_,hx⟩),⟨I.le,hlist,I.post.trans hp⟩⟩
  rcases Nat.lt_or_ge x (hs (j+1)).next with h|h
  .exact h
  .rw [hp.rel.fresh x (by rw [<-hnx];exact h)] at hx;cases hx
 .rw [hf,if_neg (by simp)]
  exact ⟨λ_ _=>trivial,hC _ _ ⟨Z,j',S.next K.gen hj hLs ho (.refl _) S.only (by rw [hv];exact .undef _),⟨I.le,hlist,I.post⟩⟩⟩
theorem PhC.store (K:zhi P call ops Fs hs vs Z0 w0 a0) {L:Array Bool} {a:Act} {w:World} {Z:Nat->Option Loc} (S:zcu ops hs vs Z0 a0 L a Z) {j':Nat} (I:PhC ops hs Z0 w0 L w Z j') (hD:ziX ops L) {j:Nat} (hj:j<ops.size) (hLj:L.getD j false=false) (hLs:j<L.size) {o:Oper} (ho:ops[j]? =some o)
  (haft:∀e,e∈o.after.toList->Region.binds .any e=true->L.getD e.on false=true) (hnf:zaq o.op=true) {rd:Option Nat} {n:Nat} {Q:Exit->Act->World->Prop} {C:Act->World->Prop}
  (hC:∀a' w',StC ops hs vs Z0 w0 a0 (L.setIfInBounds j true) a' w'->C a' w'):wpOpIn (FNC rd) n P ops Q j C a w:=by
 obtain ⟨hρ,hfetch⟩:=S.look K.gen hD hj hLj ho haft
 have hmem:o∈ops.toList:=by rw [Array.mem_toList_iff];exact Array.mem_of_getElem? ho
 have hge:j'<=j:=by
  rcases Nat.lt_or_ge j j' with h|h
  .have:=(I.listed j o ho hnf).2 h;rw [hLj] at this;cases this
  .exact h
 have hdone:∀i oi,i<j->ops[i]? =some oi->zaq oi.op=true->L.getD i false=true:=λi oi hi hoi hfi=>
  zdr hD K.gen.edges j o i ho haft (K.forced i j oi o hi hoi ho hnf hfi)
 have hsame:hs j=hs j':=by
  obtain ⟨d,rfl⟩:∃d,j=j'+d:=⟨j-j',by omega⟩
  refine K.same j' d (by omega) λi oi h1 h2 h3=> ?_
  cases hfi:zaq oi.op with
  |false=>rfl
  |true=>have:=(I.listed i oi h3 hfi).1 (hdone i oi h2 h3 hfi);omega
 have hpost:zaK Z0 (hs 0) w0 Z (hs j) w:=by rw [hsame];exact I.post
 have hlist:∀i oi,ops[i]? =some oi->zaq oi.op=true->((L.setIfInBounds j true).getD i false=true↔i<j+1):=λi oi hoi hfi=>by
  rw [zaR hLs]
  by_cases e:i=j
  .subst e;simp
  .rw [if_neg e,I.listed i oi hoi hfi]
   constructor
   .intro h;omega
   .intro h;exact (I.listed i oi hoi hfi).1 (hdone i oi (by omega) hoi hfi)
 obtain ⟨o',ho',hput,hst⟩:=K.step j hj
 rw [ho] at ho';cases ho'
 unfold wpOpIn
 simp only [ho]
 rw [hfetch]
 rcases hst with ⟨hf,hop⟩| ⟨hf,hv,e⟩
 .rw [hf,if_pos rfl]
  refine zdb K.gen.calls hop (K.gen.ok o hmem) hpost.rel (λx hx=>(hρ x hx).mono (zee Z _)) λZ' v' w' hv hp=> ?_
  refine hC _ _ ⟨Z',j+1,S.next K.gen hj hLs ho hp.ext (λi hi=>(hp.only i (by rw [K.nx j (by omega)];exact hi)).trans (S.only i hi)) (hv.mono λx p hx=>zbc.2 ⟨?_,hx⟩),⟨hj,hlist,hpost.trans hp⟩⟩
  rcases Nat.lt_or_ge x (hs (j+1)).next with h|h
  .exact h
  .rw [hp.rel.fresh x h] at hx;cases hx
 .rw [hf,if_neg (by simp)]
  exact ⟨λ_ _=>trivial,hC _ _ ⟨Z,j+1,S.next K.gen hj hLs ho (.refl _) S.only (by rw [hv];exact .undef _),⟨hj,hlist,by rw [e];exact hpost⟩⟩⟩
theorem ztZ (K:zhi P call ops Fs hs vs Z0 w0 a0) (hM:MR Z0 (Fs 0).marks a0.defers)
  {rd:Option Nat} {n:Nat} {Q:Exit->Act->World->Prop} (hQ:∀(Z':Nat->Option Loc) (a':Act) (w':World),FR Z' (Fs ops.size) a'.tmps->MR Z' (Fs ops.size).marks a'.defers->zaK Z0 (hs 0) w0 Z' (hs ops.size) w'->Q .normal a' w'):
  ∀(fuel:Nat) (L:Array Bool) (a:Act) (w:World),L.size=ops.size->L.toList.count false<=fuel->ziX ops L->StC ops hs vs Z0 w0 a0 L a w->wpAnyIn (FNC rd) n P .any ops Q fuel L a w:=by
 have nil:∀(L:Array Bool) (a:Act) (w:World),L.size=ops.size->StC ops hs vs Z0 w0 a0 L a w->Region.ready .any ops L= []->Q .normal a w:=by
  intro L a w hLs ⟨Z,j,S,I⟩ hnil
  have hall:=ze8 K.gen.edges hLs hnil
  have hidx:∀i o,ops[i]? =some o->i<ops.size:=λi o h=>(Array.getElem?_eq_some_iff.1 h).1
  have hsame:hs ops.size=hs j:=by
   have hle:=I.le
   obtain ⟨d,hd⟩:∃d,ops.size=j+d:=⟨ops.size-j,by omega⟩
   rw [hd]
   refine K.same j d (by omega) λi oi h1 h2 h3=> ?_
   cases hfi:zaq oi.op with
   |false=>rfl
   |true=>have:=(I.listed i oi h3 hfi).1 (hall i (hidx i oi h3));omega
  have hpost:zaK Z0 (hs 0) w0 Z (hs ops.size) w:=by rw [hsame];exact I.post
  obtain ⟨s1,m1,g1,g2⟩:=K.gen.frame ops.size (Nat.le_refl _)
  refine hQ Z a w ⟨?_, ?_,λt=> ?_⟩ (by rw [m1,S.defers];exact hM.mono hpost.ext) hpost
  .rw [s1,S.size];exact K.gen.fr.1
  .rw [s1];exact K.gen.fr.2.1
  .by_cases hex:∃i,i<ops.size/\zbB ops i=some t
   .obtain ⟨i,hi,ht⟩:=hex
    rw [g2 i t hi ht]
    exact (S.put i t hi (hall i hi) ht).mono (zee Z _)
   .rw [g1 t λi hi ht=>hex ⟨i,hi,ht⟩,S.unput t λi hi _ ht=>hex ⟨i,hi,ht⟩]
    exact (K.gen.fr.2.2 t).mono hpost.ext
 intro fuel
 induction fuel with
 |zero=>
  intro L a w hLs hcnt hD hS
  have hnil:Region.ready .any ops L= []:=by
   cases hr:Region.ready .any ops L with
   |nil=>rfl
   |cons i r=>
    obtain ⟨o,ho,hLi,_⟩:=zcP (ops:=ops) (L:=L) (i:=i) (by rw [hr];simp)
    have hi:i<L.size:=by rw [hLs];exact (Array.getElem?_eq_some_iff.1 ho).1
    have:=zgm hi (by rw [Array.getD_eq_getD_getElem?,Array.getElem?_eq_getElem hi] at hLi⊢;simpa using hLi)
    omega
  exact ⟨hnil,nil L a w hLs hS hnil⟩
 |succ fuel ih=>
  intro L a w hLs hcnt hD hS
  refine ⟨nil L a w hLs hS,λi hi=> ?_⟩
  obtain ⟨o,ho,hLt,haft⟩:=zcP hi
  have hiN:i<ops.size:=(Array.getElem?_eq_some_iff.1 ho).1
  have hLi:L.getD i false=false:=by rw [Array.getD_eq_getD_getElem?,Array.getElem?_eq_getElem (by omega)] at hLt⊢;simpa using hLt
  have hC:∀a' w',StC ops hs vs Z0 w0 a0 (L.setIfInBounds i true) a' w'->wpAnyIn (FNC rd) n P .any ops Q fuel (L.setIfInBounds i true) a' w':=
   λa' w' hS'=>ih _ a' w' (by simpa using hLs) (zfc (by omega) hLi hcnt) (hD.set ho (by omega) haft) hS'
  obtain ⟨Z,j,S,I⟩:=hS
  cases hst:zaq o.op with
  |false=>exact I.calm K S hD hiN hLi (by omega) ho haft hst hC
  |true=>exact I.store K S hD hiN hLi (by omega) ho haft hst hC
theorem zrP (hc:zcy P call) (hok:∀o,o∈ops.toList->zcx o.op=true) {W:Nat} (hw:zly ops W=true) {F F':zab} {h h':zaa} (hev:zhU call P ops (zaX ops.toList []) F h=some (F',h'))
  {Z:Nat->Option Loc} {a:Act} {w:World} (hr:Rel Z h w) (hF:FR Z F a.tmps) (hM:MR Z F.marks a.defers) {rd:Option Nat} {n:Nat} {Q:Exit->Act->World->Prop}
  (hQ:∀(Z':Nat->Option Loc) (a':Act) (w':World),FR Z' F' a'.tmps->MR Z' F'.marks a'.defers->zaK Z h w Z' h' w'->Q .normal a' w'):wpAnyIn (FNC rd) n P .any ops Q ops.size (Array.replicate ops.size false) a w:=by
 unfold zly at hw
 simp only [Bool.and_eq_true] at hw
 have hpl:∀o,o∈ops.toList->zeJ o.op=true:=λo ho=>List.all_eq_true.1 hw.2 o ho
 unfold zhU at hev
 cases hd:zgo ops (zaX ops.toList []) with
 |false=>rw [hd] at hev;cases hev
 |true=>
  rw [hd] at hev
  simp only [cond_true] at hev
  obtain ⟨Fs,hs,vs,LD,ST,z1,z2,z3,z4,_,_,hdis,hst⟩:=zgS ops.toList 0 F F' h h' [] [] (λi o hi=>by rw [Nat.zero_add];simpa using hi) hev
  have hlen:ops.toList.length=ops.size:=by simp
  rw [Nat.zero_add,hlen] at z3 z4
  have hst:∀j,j<ops.size->zeu P call ops j (Fs j) (hs j) (vs j) (Fs (j+1)) (hs (j+1))/\znQ ops LD ST j (Fs j) (hs j):=λj hj=>hst j (Nat.zero_le _) (by omega)
  simp only [zgo,Bool.and_eq_true] at hd
  obtain ⟨⟨⟨⟨hed,hdep⟩,hgrd⟩,hnd⟩,htl⟩:=hd
  have hml:(zaX ops.toList []).length=ops.size:=by
   obtain ⟨r,h1,h2,_⟩:=zds ops.toList []
   rw [h1];simpa using h2
  have zmem:∀(j:Nat) (o:Oper),ops[j]? =some o->(o,j)∈ops.toList.zipIdx:=λj o ho=>by
   rw [List.mem_zipIdx_iff_getElem?];simpa using ho
  have hcalmD:∀(j:Nat) (o:Oper),ops[j]? =some o->(zn8 ops).getD j false= !zaq o.op:=λj o ho=>by
   have:ops.toList[j]? =some o:=by simpa using ho
   simp [zn8,List.getD_eq_getElem?_getD,this]
  have hmemO:∀(j:Nat) (o:Oper),ops[j]? =some o->o∈ops.toList:=λj o ho=>by rw [Array.mem_toList_iff];exact Array.mem_of_getElem? ho
  have hidx:∀(j:Nat) (o:Oper),ops[j]? =some o->j<ops.size:=λj o ho=>(Array.getElem?_eq_some_iff.1 ho).1
  -- what each step does
  have eff:∀j,j<ops.size->(hs (j+1)).next=(hs j).next/\∀x,x∈LD->(hs (j+1)).get x=(hs j).get x:=λj hj=>by
   obtain ⟨⟨o,ho,_,hs1⟩,hft⟩:=hst j hj
   rcases hs1 with ⟨hf,hop⟩| ⟨_,_,e⟩
   .obtain ⟨l,s,h1,_,h3⟩:=hft o ho hf
    obtain ⟨e1,e2,_⟩:=zgJ (hpl o (hmemO j o ho)) h1 hop
    exact ⟨e1,λx hx=>e2 x λhxs=>hdis x hx (h3 x hxs)⟩
   .rw [e];exact ⟨rfl,λ_ _=>rfl⟩
  have all:∀j,j<=ops.size->(hs j).next=(hs 0).next/\∀x,x∈LD->(hs j).get x=(hs 0).get x:=λj=>by
   induction j with
   |zero=>exact λ_=>⟨rfl,λ_ _=>rfl⟩
   |succ j ih=>
    intro hj
    obtain ⟨a1,a2⟩:=ih (by omega)
    obtain ⟨b1,b2⟩:=eff j (by omega)
    exact ⟨b1.trans a1,λx hx=>(b2 x hx).trans (a2 x hx)⟩
  have K:zhi P call ops Fs hs vs Z w a:=by
   refine ⟨⟨hc,hok,Nat.le_refl _,λj hj=> ?_,λ{j} hj {o} ho hfree=> ?_,λ{i j} hij hj=> ?_,λj h1 h2=>by omega,by rw [z2];exact hr,by rw [z1];exact hF,λi j d hij hi=> ?_,λi j oi oj hij hi hj=> ?_,λj oj g b hj hg=> ?_,hed,λi j oi oj hTj hij hi hj _ _=> ?_⟩,λj hj=>(hst j hj).1,λj hj=>(all j hj).1,λj o ho hns=> ?_,λi j oi oj hij hi hj hfj hfi=> ?_⟩
   .obtain ⟨o,a1,a2,_⟩:=(hst j hj).1
    exact ⟨o,a1,a2⟩
   .obtain ⟨o',a1,a2,a3⟩:=(hst j hj).1
    rw [ho] at a1;cases a1
    rcases a3 with ⟨c1,c2⟩| ⟨c1,c2,c3⟩
    .obtain ⟨e1,e2⟩:=zdJ hfree c2
     exact ⟨e1,.inl ⟨c1,e2⟩⟩
    .exact ⟨c3,.inr ⟨c1,c2⟩⟩
   .rw [(all i (by omega)).1,(all j hj).1];exact Nat.le_refl _
   .have:=zeP ops.toList hnd i j d hij (by simpa [zbB] using hi)
    simpa [zbB] using this
   .have h1:=List.all_eq_true.1 hdep (oj,j) (zmem j oj hj)
    have h2:=List.all_eq_true.1 h1 (oi,i) (zmem i oi hi)
    simp only [Bool.or_eq_true,Bool.not_eq_true'] at h2
    rcases h2 with (h2|h2)|h2
    .have:=Nat.ble_eq_true_of_le hij
     rw [show Nat.blt i j=Nat.ble (i+1) j from rfl,this] at h2;cases h2
    .exact .inl h2
    .exact .inr h2
   .have h1:=List.all_eq_true.1 hgrd (oj,j) (zmem j oj hj)
    simp only [hg,Bool.and_eq_true] at h1
    exact ⟨Nat.le_of_ble_eq_true h1.1,h1.2⟩
   .have:=hidx j oj hj;omega
   .have hj:=hidx j o ho
    obtain ⟨⟨o',a1,_,a3⟩,hft⟩:=hst j hj
    rw [ho] at a1;cases a1
    rcases a3 with ⟨c1,c2⟩| ⟨c1,_,c3⟩
    .obtain ⟨l,s,h1,h2,_⟩:=hft o ho c1
     obtain ⟨_,_,_,e4,_⟩:=zgJ (hpl o (hmemO j o ho)) h1 c2
     obtain ⟨e5,e6⟩:=e4 hns
     exact ⟨e5,λ_ j' hj'=>e6 _ λx hx=>((all j' hj').2 x (h2 x hx)).trans ((all j (by omega)).2 x (h2 x hx)).symm⟩
    .exact ⟨c3,λh=>by rw [c1] at h;cases h⟩
   .have hjN:j<ops.size:=hidx j oj hj
    have h1:=List.all_eq_true.1 htl j (by rw [List.mem_range,hml];exact hjN)
    simp only [Bool.or_eq_true,zdp] at h1
    rcases h1 with h1|h1|h1
    .exact absurd (Nat.le_of_ble_eq_true h1) (by omega)
    .rw [hcalmD j oj hj,hfj] at h1;cases h1
    .have h2:=List.all_eq_true.1 h1 i (List.mem_range.2 hij)
     simp only [Bool.or_eq_true] at h2
     rcases h2 with h2|h2
     .rw [hcalmD i oi hi,hfi] at h2;cases h2
     .exact h2
  have hrep:∀i,(Array.replicate ops.size false).getD i false=false:=λi=>by
   rw [Array.getD_eq_getD_getElem?,Array.getElem?_replicate];split<;>rfl
  refine ztZ K (by rw [z1];exact hM) (by rw [z2,z3,z4];exact hQ) ops.size _ a w (by simp) (by simp) (λk o hk=>by rw [hrep] at hk;cases hk) ⟨Z,0,⟨λ_ _=>rfl,λi d _ h=>(by rw [hrep] at h;cases h),λ_ _=>rfl,rfl,rfl⟩,⟨Nat.zero_le _,λi o _ _=>⟨λh=>(by rw [hrep] at h;cases h),λh=>by omega⟩,zaK.refl (by rw [z2];exact hr)⟩⟩
theorem zrQ (hc:zcy P call) (hok:∀o,o∈ops.toList->zcx o.op=true) {W:Nat} (hWN:W<=ops.size) {F F':zab} {h h':zaa} (hev:zhV call P ops (zaX ops.toList []) W F h=some (F',h'))
  {Z:Nat->Option Loc} {a:Act} {w:World} (hr:Rel Z h w) (hF:FR Z F a.tmps) (hM:MR Z F.marks a.defers) {rd:Option Nat} {n:Nat} {Q:Exit->Act->World->Prop}
  (hQ:∀(Z':Nat->Option Loc) (a':Act) (w':World),FR Z' F' a'.tmps->MR Z' F'.marks a'.defers->zaK Z h w Z' h' w'->Q .normal a' w'):wpAnyIn (FNC rd) n P .any ops Q ops.size (Array.replicate ops.size false) a w:=by
 unfold zhV at hev
 cases hb:zsR ops (zbK (zfL ops) (zaX ops.toList []) W) W with
 |true=>rw [hb] at hev;exact zrO hc hok hWN hev hr hF hM hQ
 |false=>
  rw [hb] at hev
  simp only [cond_false] at hev
  cases hcw:zly ops W with
  |true=>rw [hcw] at hev;exact zrP hc hok hcw hev hr hF hM hQ
  |false=>rw [hcw] at hev;exact zuk hc hok hWN hev hr hF hM hQ
end
end
end Go.Ev

end

section

namespace Go.Ev
noncomputable section
open Go.RowKit
section
variable {P:Program} {Z:Nat->Option Loc} {w:World}
theorem zp7 {G:Msk} (hG:GOK P G) (hm:P.follows .mixedOrders=true) {run:Run} (hrun:zco P run) {id:Nat} {ops:Array Oper} {draw:Bool} (hok:∀o,o∈ops.toList->zcx o.op=true) {F F':zab} {h h':zaa} {e:AEx}
  (hev:zeE P G run ops draw F h=some (e,F',h')) {n:Nat} {rd':Option Nat} {a:Act} (hr:Rel Z h w) (hF:FR Z F a.tmps) (hM:MR Z F.marks a.defers):(Code.region id ops draw).wpIn (FNC rd') n P (QOK Z h w e F' h') a w:=by
 unfold zeE at hev
 split at hev
 .rename_i F1 h1 hb
  simp only [Option.some.injEq,Prod.mk.injEq] at hev
  obtain ⟨rfl,rfl,rfl⟩:=hev
  cases draw with
  |false=>
   simp only [cond_false] at hb
   refine wpIn_region ?_
   have:=znn (zhP hG hrun) hok (rd:=rd') (n:=n) (Q:=QOK Z h w .normal F1 h1) ops.toList 0 F F1 h h1 Z a w (by simp) hb hr hF hM λZ' a' w' h1 h2 h3=>⟨rfl,Z',h1,h2,h3⟩
   simpa using this
  |true=>
   simp only [cond_true] at hb
   exact wpIn_region_any hm (zrQ (zhP hG hrun) hok (zg6 _ _ _) hb (hr.drew _) hF hM λZ' a' w' h1 h2 h3=>⟨rfl,Z',h1,h2,h3.drew _ (Nat.le_succ _)⟩)
 .cases hev
theorem zsI {call:Call->TypeId->zab->zaa->Option (Value×zaa)} (hc:zcy P call) {ops:Array Oper} (hok:∀o,o∈ops.toList->zu2 o.op=true) {n:Nat} {Q:Exit->Act->World->Prop}:
  ∀(rest:List Oper) (k:Nat) (F F':zab) (H H':zaa) (Z:Nat->Option Loc) (a:Act) (w:World),ops.toList.drop k=rest->zk5 call P ops rest F H=some (F',H')->Rel Z H w->FR Z F a.tmps->MR Z F.marks a.defers->
   (∀Z' a' w',FR Z' F' a'.tmps->MR Z' F'.marks a'.defers->zaK Z H w Z' H' w'->Q .normal a' w')->wpOpsIn (FNC none) n P ops Q ((List.range ops.size).drop k) a w:=by
 intro rest
 induction rest with
 |nil=>
  intro k F F' H H' Z a w hk h hr hF hM hQ
  have hlen:ops.size<=k:=by
   have:=congrArg List.length hk;simp at this;omega
  rw [List.drop_eq_nil_of_le (by simpa using hlen)]
  simp only [zk5,Option.some.injEq,Prod.mk.injEq] at h
  obtain ⟨rfl,rfl⟩:=h
  exact hQ Z a w hF hM (.refl hr)
 |cons o rest ih=>
  intro k F F' H H' Z a w hk h hr hF hM hQ
  have hlt:k<ops.size:=by
   rcases Nat.lt_or_ge k ops.size with h|h
   .exact h
   .rw [List.drop_eq_nil_of_le (by simpa using h)] at hk;cases hk
  have hd:=List.drop_eq_getElem_cons (l:=ops.toList) (i:=k) (by simpa using hlt)
  rw [hd] at hk
  injection hk with ho hrest
  have hr2:(List.range ops.size).drop k=k::(List.range ops.size).drop (k+1):=by
   rw [List.drop_eq_getElem_cons (by simpa using hlt)];simp
  rw [hr2]
  have hoi:ops[k]? =some o:=by rw [Array.getElem?_eq_getElem hlt,<-ho];rfl
  simp only [wpOpsIn,hoi]
  rw [zhW hF]
  simp only [zk5] at h
  have hmem:o∈ops.toList:=by rw [<-ho];exact List.getElem_mem _
  have hdf:∀(a:Act) (v:Value),(a.put o.dst v).defers=a.defers:=λa v=>by cases o.dst<;>rfl
  cases hf:za6 F ops o with
  |true=>
   simp only [if_true]
   rw [hf] at h
   simp only [cond_true] at h
   have hokm:=hok o hmem
   split at h
   .rename_i c hdc
    split at h
    .rename_i m hda
     split at h
     .rename_i F1 hput
      rw [hdc] at hokm
      unfold zs5 at hda
      split at hda
      .rename_i f hcal
       split at hda
       .rename_i g first captured hfv
        simp only [Option.some.injEq] at hda
        have hop:∀x,x∈(Op.defer c).operands.toList->VR Z (zah F x) (a.eval x):=λx hx=>zeF hr.top.2.1 hF (List.all_eq_true.1 (show (Op.defer c).operands.toList.all zbr=true from hokm) x hx)
        have hfr:=hop f (by simp [Op.operands,Call.operands,hcal])
        rw [hfv] at hfr
        obtain ⟨fs',cs',hev',h1,h2⟩:=hfr.func_inv
        have hrun:(execOp a.eval o).run P w= .ok (.defer {target:= .fn (.func g) cs',args:=fs'++c.args.map a.eval}) w:=by
         simp only [execOp,hdc,resolve,hcal,hev']
         rfl
        have hAR:AR Z (⟨first.toList++(c.args.toList.map (zah F)++captured.toList)⟩:Array Value) (fs'++c.args.map a.eval++cs'):=by
         refine AR.ofL ?_
         have l1:=h1.toL
         have l2:LR Z (c.args.toList.map (zah F)) (c.args.toList.map a.eval):=⟨by simp,λj v v' hv hv'=>by
          rw [List.getElem?_map] at hv hv'
          cases hx:c.args.toList[j]? with
          |none=>rw [hx] at hv;cases hv
          |some y=>
           rw [hx] at hv hv'
           simp only [Option.map_some,Option.some.injEq] at hv hv'
           subst hv;subst hv'
           exact hop y (by
            have:=List.mem_of_getElem? hx
            simp only [Op.operands,Call.operands,hcal]
            simp
            exact .inr (by simpa using this))⟩
         have:=(l1.append l2).append h2.toL
         simpa [List.append_assoc] using this
        refine ⟨λf _=>trivial, ?_⟩
        show o.uponIn _ _ _ _ _ _ ((Oper.semAt none a.eval o).run P w)
        rw [Oper.semAt_none,hrun,Oper.uponIn_defer]
        have hF2:FR Z {F with marks:=m::F.marks} a.tmps:=hF
        obtain ⟨hF1,hm1⟩:=FR.put (a:={a with defers:={target:= .fn (.func g) cs',args:=fs'++c.args.map a.eval}::a.defers}) hF2 (.undef Z) hput
        refine ih (k+1) F1 F' H H' Z _ w hrest h hr hF1 ?_ hQ
        rw [hm1,hdf,<-hda]
        exact .fn hAR hM
       .cases hda
      .cases hda
     .cases h
    .cases h
   .rename_i hnd
    have hokB:zcx o.op=true:=by
     unfold zu2 at hokm
     split at hokm
     .rename_i c hc;exact absurd hc (hnd c)
     .exact hokm
    split at h
    .rename_i v h1 hop
     rw [za8] at h
     split at h
     .rename_i F1 hput
      refine zdb hc hop hokB hr (λx hx=>zeF hr.top.2.1 hF (zaI hokB x hx)) λZ' v' w' hv hp=> ?_
      obtain ⟨hF1,hm1⟩:=FR.put (hF.mono hp.ext) hv hput
      exact ih (k+1) F1 F' h1 H' Z' (a.put o.dst v') w' hrest h hp.rel hF1 (by rw [hm1,hdf];exact hM.mono hp.ext)
       λZ2 a2 w2 h1 h2 h3=>hQ Z2 a2 w2 h1 h2 (hp.trans h3)
     .cases h
    .cases h
  |false=>
   simp only [Bool.false_eq_true,if_false]
   rw [hf] at h
   simp only [cond_false] at h
   split at h
   .rename_i F1 hput
    obtain ⟨hF1,hm1⟩:=FR.put hF (.undef Z) hput
    exact ⟨λf _=>trivial,ih (k+1) F1 F' H H' Z (a.put o.dst undef) w hrest h hr hF1 (by rw [hm1,hdf];exact hM) hQ⟩
   .cases h
theorem zvn {G:Msk} (hG:GOK P G) (hm:P.follows .mixedOrders=true) {out run:Run} (hout:zco P out) (hrun:zco P run) {m:Nat} (hl:zi3 P run m):zco P (zb7 P G out run)/\zi3 P (zb7 P G out run) (m+1):=by
 have hloop:zi3 P (zb7 P G out run) (m+1):=by
  intro rd c F h e F' h' hev hc n Z rd' a w hr hF hM hd
  exact zuS hrun hl hc hev hr hF hM hd
 refine ⟨?_,hloop⟩
 intro rd c F h e F' h' hev hc n Z rd' a w hr hF hM hd
 cases c with
 |skip=>
  simp only [zb7,Option.some.injEq,Prod.mk.injEq] at hev
  obtain ⟨rfl,rfl,rfl⟩:=hev
  exact wpIn_skip ⟨rfl,Z,hF,hM,.refl hr⟩
 |label l=>
  simp only [zb7,Option.some.injEq,Prod.mk.injEq] at hev
  obtain ⟨rfl,rfl,rfl⟩:=hev
  exact wpIn_label ⟨rfl,Z,hF,hM,.refl hr⟩
 |exit id=>
  simp only [zb7,Option.some.injEq,Prod.mk.injEq] at hev
  obtain ⟨rfl,rfl,rfl⟩:=hev
  exact wpIn_exit ⟨rfl,Z,hF,hM,.refl hr⟩
 |ret=>
  simp only [zb7,Option.some.injEq,Prod.mk.injEq] at hev
  obtain ⟨rfl,rfl,rfl⟩:=hev
  exact wpIn_ret ⟨rfl,Z,hF,hM,.refl hr⟩
 |seq x y=>
  simp only [zaB,Bool.and_eq_true] at hc
  exact zwZ hrun hc.1 hc.2 hev hr hF hM hd
 |cond c x y=>
  simp only [zaB,Bool.and_eq_true] at hc
  exact zui hrun hc.1.1 hc.1.2 hc.2 hev hr hF hM hd
 |block id b=>exact zru hrun (show zaB b=true from hc) hev hr hF hM hd
 |loop b=>exact wpIn_loop_rounds (m+1) (hloop rd b F h e F' h' hev hc n Z rd' a w hr hF hM hd)
 |scope b=>exact zsC hrun (show zaB b=true from hc) hev hr hF hM hd
 |region id ops draw=>
  simp only [zb7] at hev
  simp only [zaB] at hc
  cases hh:zcZ ops with
  |false=>
   rw [hh] at hev hc
   exact zp7 hG hm hout (List.all_eq_true.1 hc) hev hr hF hM
  |true=>
   rw [hh] at hev hc
   simp only [cond_true] at hev hc
   unfold zoR at hev
   split at hev
   .cases rd' with
    |some l=>exact hd.elim
    |none=>
     split at hev
     .rename_i F1 h1 hst
      simp only [Option.some.injEq,Prod.mk.injEq] at hev
      obtain ⟨rfl,rfl,rfl⟩:=hev
      refine wpIn_region ?_
      have:=zsI (zhP hG hout) (List.all_eq_true.1 hc) (n:=n) (Q:=QOK Z h w .normal F1 h1) ops.toList 0 F F1 h h1 Z a w (by simp) hst hr hF hM λZ' a' w' h1 h2 h3=>⟨rfl,Z',h1,h2,h3⟩
      simpa using this
     .cases hev
   .cases hev
 |rangeFunc g params assign body=>
  simp only [zaB,Bool.and_eq_true] at hc
  exact zsq hG hout hev hc.1.1 hc.1.2 hc.2 hr hF hM hd
 |goto l=>simp [zb7] at hev
 |refuse x=>simp [zb7] at hev
theorem zoS {G:Msk} (hG:GOK P G) (hm:P.follows .mixedOrders=true) {out:Run} (hout:zco P out):∀k,zco P (ze5 P G out k)/\zi3 P (ze5 P G out k) k
 |0=>⟨λ_ _ _ _ _ _ _ h=>(by cases h),λ_ _ _ _ _ _ _ h=>(by cases h)⟩
 |k+1=>by
  obtain ⟨h1,h2⟩:=zoS hG hm hout k
  exact zvn hG hm hout h1 h2
theorem zup {G:Msk} (hG:GOK P G) (hm:P.follows .mixedOrders=true):∀d,zco P (ev P G d)
 |0=>λ_ _ _ _ _ _ _ h=>by cases h
 |d+1=>(zoS hG hm (zup hG hm d) 100000000000000000000).1
def zmf (P:Program) (G:Msk):Bool:=
 (List.range P.funcs.size).all λg=> !Nat.testBit G.bits g|| (match P.funcs[g]? with|some fn=>(match fn.body with|some b=> !(fn.name== "runtime.NumGoroutine")&&zaB b|none=>true)|none=>true)
theorem GOK.of2 {G:Msk} (h:zmf P G=true) (ho:∀g v,G.ora g=some v->flatR v=true/\∀n w,LaidG w->(∀w,(callFunc g #[]).run P w= .ok (.enter g #[]) w)/\CallsIn (FNC none) n P g #[] w (λe w'=>e= .returned v/\(∀b,b<w.heap.size->w'.heap[b]? =w.heap[b]?)/\w.heap.size<=w'.heap.size/\w'.os=w.os/\w'.tape=w.tape/\Out w w'))
  (ht:∀g as v,G.tab g as=some v->flatR v=true/\∀n w,LaidG w->(∀w,(callFunc g ⟨as⟩).run P w= .ok (.enter g ⟨as⟩) w)/\CallsIn (FNC none) n P g ⟨as⟩ w (λe w'=>e= .returned v/\(∀b,b<w.heap.size->w'.heap[b]? =w.heap[b]?)/\w.heap.size<=w'.heap.size/\w'.os=w.os/\w'.tape=w.tape/\Out w w')) (hs:∀g f,G.srt g=some f->zhL P g f)
  (hsc:∀g,G.srtC g=true->zgb P g:=by exact λ_ h=>absurd h Bool.false_ne_true):GOK P G:=by
 refine ⟨?_,ho,ht,hs,hsc⟩
 intro g fn body hg hf hb
 have hlt:g<P.funcs.size:=(Array.getElem?_eq_some_iff.1 hf).1
 have:=List.all_eq_true.1 h g (List.mem_range.2 hlt)
 simp only [hg,Bool.not_true,Bool.false_or,hf,hb,Bool.and_eq_true,Bool.not_eq_true'] at this
 exact this
theorem GOK.of' {G:Msk} (h:zmf P G=true) (ho:∀g v,G.ora g=some v->flatR v=true/\∀n w,LaidG w->(∀w,(callFunc g #[]).run P w= .ok (.enter g #[]) w)/\CallsIn (FNC none) n P g #[] w (λe w'=>e= .returned v/\(∀b,b<w.heap.size->w'.heap[b]? =w.heap[b]?)/\w.heap.size<=w'.heap.size/\w'.os=w.os/\w'.tape=w.tape/\Out w w')) (ht:G.tab=λ_ _=>none:=by rfl) (hs:G.srt=λ_=>none:=by rfl) (hsc:G.srtC=λ_=>false:=by rfl):GOK P G:=
 GOK.of2 h ho (λg as v h=>by rw [ht] at h;cases h) (λg f h=>by rw [hs] at h;cases h) (λg h=>by rw [hsc] at h;cases h)
theorem GOK.of {bits:Nat} {fast:Bool} (h:zmf P {bits:=bits,fast:=fast,ora:=λ_=>none}=true):GOK P {bits:=bits,fast:=fast,ora:=λ_=>none}:=GOK.of' h (λ_ _ h=>by cases h)
def zjo (P:Program) (G:Msk) (d:Nat) (g:FuncId) (args:List Value):Option Value:=
 cond (args.all flat) (match zci P G (ev P G d) g ⟨args⟩ GH with
  |some (v,h)=>cond (flatR v&&Nat.ble GH.next h.wlow) (some v) none
  |none=>none) none
end
theorem zp2 {P:Program} {G:Msk} {d:Nat} {g:FuncId} {v:Value} (hG:GOK P G) (hm:P.follows .mixedOrders=true) (h:zjo P G d g []=some v):flatR v=true/\∀n w,LaidG w->(∀w,(callFunc g #[]).run P w= .ok (.enter g #[]) w)/\CallsIn (FNC none) n P g #[] w (λe w'=>e= .returned v/\(∀b,b<w.heap.size->w'.heap[b]? =w.heap[b]?)/\w.heap.size<=w'.heap.size/\w'.os=w.os/\w'.tape=w.tape/\Out w w'):=by
 unfold zjo at h
 simp only [List.all_nil,cond_true] at h
 split at h
 .rename_i v0 H0 h0
  cases hv0:flatR v0&&Nat.ble GH.next H0.wlow with
  |false=>rw [hv0] at h;cases h
  |true=>
   rw [hv0] at h
   simp only [Bool.and_eq_true] at hv0
   obtain ⟨hv,hw⟩:=hv0
   simp only [cond_true,Option.some.injEq] at h
   subst h
   refine ⟨hv,λn w hl=> ?_⟩
   obtain ⟨c1,c2⟩:=zdH hG (zup hG hm d) h0 n (Rel.start hl) (args':= #[]) ⟨rfl,λi v v' h _=>by simp at h⟩
   refine ⟨c1,CallsIn.mono c2 λe w' he=> ?_⟩
   obtain ⟨Z',v',rfl,hv',hp⟩:=he
   obtain ⟨k1,k2⟩:=zaK.quiet (Rel.start hl) hp (Nat.le_of_ble_eq_true hw)
   have:=hv'.eqR hv
   subst this
   exact ⟨rfl,k1,hp.size,hp.os,hp.tape,hp.output⟩
 .cases h
end
end Go.Ev

end
