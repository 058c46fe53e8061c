/- Part of the proof. -/
import Derived.Test.YtdojhafbgoimeaaGreatDoorCoreG22

section
open Go.Proofs
namespace Go.Ev
set_option maxRecDepth 100000
set_option maxHeartbeats 4000000
theorem zx7:∀(x y:Int),zac (zbs (λ_=>none) (λ_=>none) zaC) 4 (114:FuncId) [V.int IntKind.i64 x,V.int IntKind.i64 y] (V.int IntKind.i64 (zdN x y))=(((x=x->False)->((y=y->False)->0=
zdN x y)/\(((y=y->False)->False)->(-1)=zdN x y))/\(((x=x->False)->False)->((y=y->False)->1=zdN x y)/\(((y=y->False)->False)->(x<y->(-1)=zdN x y)/\((x<y->False)->(y<x->1=zdN x
y)/\((y<x->False)->0=zdN x y))))):=by intros;kernel_rfl
theorem zxI:∀(x y:Int),zac (zbs cm0 (λ_=>none) zaC) 4 (177:FuncId) [V.int IntKind.i64 x,V.int IntKind.i64 y] (V.int IntKind.i64 (zdN y x))=(True/\zdN y x=zdN y x):=by intros;kernel_rfl
theorem zyt:∀(x y:List UInt8),zac (zbs (λ_=>none) (λ_=>none) zaC) 4 (185:FuncId) [V.str x,V.str y] (V.int IntKind.i64 (zhL x y))=(((x=x->False)->((y=y->False)->0=zhL x y)/\(((y=
y->False)->False)->(-1)=zhL x y))/\(((x=x->False)->False)->((y=y->False)->1=zhL x y)/\(((y=y->False)->False)->(sLt x y->(-1)=zhL x y)/\((sLt x y->False)->((sLt x y\/x=y->False)->1=
zhL x y)/\(((sLt x y\/x=y->False)->False)->0=zhL x y))))):=by intros;kernel_rfl
theorem zAI:∀(l:D) (s:List UInt8),zac (zbs (λ_=>none) (λ_=>none) zaC) 3 (45:FuncId) [V.dat (29:TypeId) l,V.str s] (V.int IntKind.i64 (znB l s))=((∃(x:Nat),(x<=l.len/\zbU l s
(l.len-x) x=idx l s)/\(0=(x:Int)/\True)/\True)/\∀(x:Nat),x<=l.len/\zbU l s (l.len-x) x=idx l s->l.len-x<LIM/\((x:Int)<(l.len:Int)->0<=(x:Int)/\(x:Int)<(l.len:Int)/\(s=sAt
l x->(x:Int)=znB l s)/\((s=sAt l x->False)->fits64 ((x:Int)+1)/\∃(y:Nat),(y<=l.len/\zbU l s (l.len-y) y=idx l s)/\l.len-y<l.len-x/\((x:Int)+1=(y:Int)/\True)/\True))/\(((x:
Int)<(l.len:Int)->False)->(-1)=znB l s)):=by intros;kernel_rfl
theorem zxP:∀(l:D) (s:List UInt8),zac (zbs (λ_=>none) (λ_=>none) zaC) 3 (202:FuncId) [V.dat (29:TypeId) l,V.str s] (V.int IntKind.i64 (↑(idx l s):Int))=((∃(x:Nat),(x<=l.len/\zbU
l s (l.len-x) x=idx l s)/\(0=(x:Int)/\True)/\True)/\∀(x:Nat),x<=l.len/\zbU l s (l.len-x) x=idx l s->l.len-x<LIM/\((x:Int)<(l.len:Int)->0<=(x:Int)/\(x:Int)<(l.len:Int)/\(sAt
l x=s->(x:Int)=(↑(idx l s):Int))/\((sAt l x=s->False)->fits64 ((x:Int)+1)/\∃(y:Nat),(y<=l.len/\zbU l s (l.len-y) y=idx l s)/\l.len-y<l.len-x/\((x:Int)+1=(y:Int)/\True)/\
True))/\(((x:Int)<(l.len:Int)->False)->(l.len:Int)=(↑(idx l s):Int))):=by intros;kernel_rfl
theorem zxV:∀(g:GD) (p:Int) (nm:D),zac (zbs cm0 (λ_=>none) zaC) 3 (215:FuncId) [pV g p,V.dpt (29:TypeId) nm] (V.int IntKind.i64 (↑(idx nm g.rk):Int))=(nm.len<=100/\(0<=znB nm g.rk->
znB nm g.rk=(↑(idx nm g.rk):Int))/\((0<=znB nm g.rk->False)->(nm.len:Int)=(↑(idx nm g.rk):Int))):=by intros;kernel_rfl
theorem zyc:∀(g:GD) (p:Int) (x:D),zac (zbs cm0 (λ_=>none) zaC) 3 (179:FuncId) [pV g p,V.dpt (69:TypeId) x] (V.prop (g.sd=cN x))=(g.sd=cN x↔g.sd=cN x):=by intros;kernel_rfl
theorem zxn:∀(g:GD) (p:Int),zac (zbs cm0 (λ_=>none) zaC) 3 (180:FuncId) [pV g p] (V.prop g.ho)=(g.ho↔g.ho):=by intros;kernel_rfl
theorem zyz:∀(g:GD) (p:Int),zac (zbs cm0 (λ_=>none) zaC) 3 (217:FuncId) [pV g p] (V.prop (g.si=0))=(g.si=0↔g.si=0):=by intros;kernel_rfl
theorem zys:∀(g:GD) (p:Int) (x:D),zac (zbs cm0 (λ_=>none) (zvl (cNm x))) 6 (181:FuncId) [pV g p,V.dpt (69:TypeId) x] (V.prop (zok g.tg (cNm x)))=((∃(x_1:Nat),(x_1<=g.tg.len/\∀(i:
Nat),i<x_1->zbk (cNm x) (sAt g.tg i)->False)/\(0=(x_1:Int)/\True)/\True)/\∀(x_1:Nat),(x_1<=g.tg.len/\∀(i:Nat),i<x_1->zbk (cNm x) (sAt g.tg i)->False)->g.tg.len-x_1<LIM/\((x_1:Int)<
(g.tg.len:Int)->0<=(x_1:Int)/\(x_1:Int)<(g.tg.len:Int)/\(cNm x).len<=100/\(zbk (cNm x) (sAt g.tg x_1)->(0<=(x_1:Int)↔zok g.tg (cNm x)))/\((zbk (cNm x) (sAt g.tg x_1)->False)->fits64 ((x_1:
Int)+1)/\∃(y:Nat),(y<=g.tg.len/\∀(i:Nat),i<y->zbk (cNm x) (sAt g.tg i)->False)/\g.tg.len-y<g.tg.len-x_1/\((x_1:Int)+1=(y:Int)/\True)/\True))/\(((x_1:Int)<(g.tg.len:Int)->False)
->(false=true↔zok g.tg (cNm x)))):=by intros;kernel_rfl
theorem zxw:∀(g:GD) (p:Int) (x:D),zac (zbs cm0 (λ_=>none) zaC) 3 (183:FuncId) [pV g p,V.dpt (69:TypeId) x] (V.prop (zbk (cNm x) g.ct))=((cNm x).len<=100/\(zbk (cNm x) g.ct↔zbk (cNm x)
g.ct)):=by intros;kernel_rfl
theorem zyg:∀(p:Int),zac (zbs cm0 (λ_=>none) zaC) 3 (187:FuncId) [V.int IntKind.i64 p] (V.int IntKind.i64 p)=(p=p):=by intros;kernel_rfl
theorem zyP:∀(p:Int) (x:D),zac (zbs cm0 (λ_=>none) zaC) 3 (188:FuncId) [V.int IntKind.i64 p,V.dpt (69:TypeId) x] (V.int IntKind.i64 (znT p (cN x)))=(fits64 (2*cN x)/\fits64 (2*cN x+1)
/\fits64 (p*(2*cN x+1))/\fits64 (p*(2*cN x+1)+cN x)/\((64:Int)=0->False)/\(p*(2*cN x+1)+cN x).tmod 64=znT p (cN x)):=by intros;kernel_rfl
theorem zyu:∀(p:Int),zac (zbs cm0 (λ_=>none) zaC) 3 (222:FuncId) [V.int IntKind.i64 p] (V.prop (inB p))=((0<=p->(p<64↔inB p))/\((0<=p->False)->(false=true↔inB p))):=by intros;kernel_rfl
theorem zxr:∀(a b:GD) (i j:Int) (r:D),zac (zbs cm0 cF1 zaC) 3 (216:FuncId) [pV a i,pV b j,V.dpt (227:TypeId) r] (V.int IntKind.i64 (zdN (zkZ r a) (zkZ r b)))=(okR r/\okR r/\True/\zdN
(zkZ r a) (zkZ r b)=zdN (zkZ r a) (zkZ r b)):=by intros;kernel_rfl
theorem zyB:∀(a b:GD) (i j:Int) (n la:D),zac (zbs cm0 cF1 zaC) 3 (220:FuncId) [pV a i,pV b j,V.dpt (184:TypeId) n,V.dpt (4:TypeId) la] (V.int IntKind.i64 (zk5 (zdK n a) (zdK n b) la.asProp))
=((okN n/\a.tg.len<=100)/\(okN n/\b.tg.len<=100)/\((zdK n a↔zdK n b)->0=zk5 (zdK n a) (zdK n b) la.asProp)/\(((zdK n a↔zdK n b)->False)->(((zdK n a↔la.asProp)->False)->(-1)=zk5 (zdK n a)
(zdK n b) la.asProp)/\((((zdK n a↔la.asProp)->False)->False)->1=zk5 (zdK n a) (zdK n b) la.asProp))):=by intros;kernel_rfl
theorem zyh:∀(a b:GD) (i j:Int),zac (zbs cm0 cF1 zaC) 3 (184:FuncId) [pV a i,pV b j] (V.int IntKind.i64 (zhL a.nm b.nm))=(True/\zhL a.nm b.nm=zhL a.nm b.nm):=by intros;kernel_rfl
theorem zxt:∀(a b:GD) (i j r:Int) (e k:D),zac (zbs cm0 cF1 zaC) 3 (223:FuncId) [pV a i,pV b j,V.dpt (181:TypeId) e,V.dpt (80:TypeId) k] (V.int IntKind.i64 r)=(e=D.fn (222:FuncId) [] []/\
(((inB i->False)->False)->e=D.fn (222:FuncId) [] []/\((inB j->False)->0=r)/\(((inB j->False)->False)->(okK k/\inB i)/\(okK k/\inB j)/\True/\zdN (zoK k i) (zoK k j)=r))/\((inB i->False)->0=
r)):=by intros;kernel_rfl
theorem zxO:∀(a b:GD) (i j:Int) (u c:D),zac (zbs cm0 cF2 zaC) 4 (218:FuncId) [pV a i,pV b j,V.dpt (173:TypeId) u,V.dpt (142:TypeId) c] (V.int IntKind.i64 (orZ (zby u a b i j) (zjr c a.si
b.si)))=((ztN u/\a.tg.len<=100/\b.tg.len<=100)/\okC c/\(0:Int)<=0/\0<(↑(2:Nat):Int)/\0+0< [D.int (zby u a b i j),D.int (zjr c a.si b.si)].length/\(((zai [D.int (zby u a b i j),D.int (zjr
c a.si b.si)] (0+0)).asInt=0->False)->(zai [D.int (zby u a b i j),D.int (zjr c a.si b.si)] (0+0)).asInt=orZ (zby u a b i j) (zjr c a.si b.si))/\((((zai [D.int (zby u a b i j),D.int (zjr c a.si
b.si)] (0+0)).asInt=0->False)->False)->0<=Int.ofNat 1/\Int.ofNat 1<(↑(2:Nat):Int)/\0+(Int.ofNat 1).toNat< [D.int (zby u a b i j),D.int (zjr c a.si b.si)].length/\(((zai [D.int (zby u a b i j),
D.int (zjr c a.si b.si)] (0+(Int.ofNat 1).toNat)).asInt=0->False)->(zai [D.int (zby u a b i j),D.int (zjr c a.si b.si)] (0+(Int.ofNat 1).toNat)).asInt=orZ (zby u a b i j) (zjr c a.si b.si))/\((((zai
[D.int (zby u a b i j),D.int (zjr c a.si b.si)] (0+(Int.ofNat 1).toNat)).asInt=0->False)->False)->0=orZ (zby u a b i j) (zjr c a.si b.si)))):=by intros;kernel_rfl
theorem zyD:∀(a b:GD) (i j:Int) (s t:D),zac (zbs cm0 cF3 zaC) 3 (174:FuncId) [pV a i,pV b j,V.dpt (9:TypeId) s,V.dpt (173:TypeId) t] (V.int IntKind.i64 (zmX s.asStr t a b i j))=(((s.asStr=
[]->False)->(((a.rk=s.asStr->False)->False)->((b.rk=s.asStr->False)->0=zmX s.asStr t a b i j)/\(((b.rk=s.asStr->False)->False)->(zug t/\a.tg.len<=100/\b.tg.len<=100)/\zdh t a b i j=zmX
s.asStr t a b i j))/\((a.rk=s.asStr->False)->0=zmX s.asStr t a b i j))/\(((s.asStr= []->False)->False)->(zug t/\a.tg.len<=100/\b.tg.len<=100)/\zdh t a b i j=zmX s.asStr t a b i j)):=by intros;kernel_rfl
theorem zxs:∀(k:Int) (a:List UInt8) (la:Prop) (nm:D) (n:Int),zac (zbs cm0 (λ_=>none) zaC) 5 (143:FuncId) [V.agg [V.int IntKind.u8 k,V.str a,V.prop la,V.dat (29:TypeId) nm,V.int
IntKind.i64 n]] (V.fnd (173:TypeId) (zbY k a la nm n))=((k=1->D.fn 216 [227] [D.fn 215 [29] [nm]]=zbY k a la nm n)/\((k=1->False)->(k=2->D.fn 218 [173,142] [D.fn 220 [184,4] [D.fn 217 [] [],D.bool
(true=true)],D.fn 114 [] []]=zbY k a la nm n)/\((k=2->False)->(k=3->D.fn 218 [173,142] [D.fn 220 [184,4] [D.fn 217 [] [],D.bool (true=true)],D.fn 177 [] []]=zbY k a la nm n)/\((k=3->False)->
(k=4->D.fn 220 [184,4] [D.fn 179 [69] [D.sct [D.int k,D.str a,D.bool la,nm,D.int n]],D.bool la]=zbY k a la nm n)/\((k=4->False)->(k=5->D.fn 220 [184,4] [D.fn 180 [] [],D.bool la]=zbY k a la nm
n)/\((k=5->False)->(k=6->D.fn 220 [184,4] [D.fn 181 [69] [D.sct [D.int k,D.str a,D.bool la,nm,D.int n]],D.bool la]=zbY k a la nm n)/\((k=6->False)->(k=7->D.fn 220 [184,4] [D.fn 183 [69] [D.sct
[D.int k,D.str a,D.bool la,nm,D.int n]],D.bool la]=zbY k a la nm n)/\((k=7->False)->(k=8->D.fn 184 [] []=zbY k a la nm n)/\((k=8->False)->(k=9->D.fn 223 [181,80] [D.fn 222 [] [],D.fn 187 []
[]]=zbY k a la nm n)/\((k=9->False)->D.fn 223 [181,80] [D.fn 222 [] [],D.fn 188 [69] [D.sct [D.int k,D.str a,D.bool la,nm,D.int n]]]=zbY k a la nm n)))))))))):=by intros;kernel_rfl
theorem zyy:∀(s:List UInt8) (t:D),zac (zbs cm0 (λ_=>none) zaC) 3 (142:FuncId) [V.str s,V.fnd (173:TypeId) t] (V.fnd (173:TypeId) (zh8 s t))=(D.fn 174 [9,173] [D.str s,t]=zh8 s t):=by intros;kernel_rfl
theorem zkl:∀(x y:List UInt8),Op.bytesLess x y=false->x≠y->Op.bytesLess y x=true
 | [],[],_,h=>absurd rfl h
 | [],b::y,h,_=>by simp [Op.bytesLess] at h
 |a::x,[],_,_=>rfl
 |a::x,b::y,h,hn=>by
  unfold Op.bytesLess at h⊢
  by_cases e:a=b
  .subst e
   have hn':x≠y:=λe=>hn (by rw [e])
   simp only [Bool.or_eq_false_iff,Bool.and_eq_false_iff,beq_self_eq_true,Bool.true_eq_false,false_or] at h
   simp [zkl x y h.2 hn']
  .simp only [Bool.or_eq_false_iff,decide_eq_false_iff_not] at h
   have h1:¬a.toNat<b.toNat:=λk=>h.1 (UInt8.lt_iff_toNat_lt.2 k)
   have h2:a.toNat≠b.toNat:=λk=>e (UInt8.toNat_inj.1 k)
   have h3:b<a:=UInt8.lt_iff_toNat_lt.2 (by omega)
   simp [h3]
theorem zjf {x y:Int} {p q:Prop} [Decidable p] [Decidable q] (h1:p↔x<y) (h2:q↔y<x):zdN x y=if p then-1 else if q then 1 else 0:=by
 unfold zdN
 by_cases a:x<y
 .rw [if_pos a,if_pos (h1.2 a)]
 .rw [if_neg a,if_neg (λk=>a (h1.1 k))]
  by_cases b:y<x
  .rw [if_pos b,if_pos (h2.2 b)]
  .rw [if_neg b,if_neg (λk=>b (h2.1 k))]
theorem zuj {x y:List UInt8} {p q:Prop} [Decidable p] [Decidable q] (h1:p↔sLt x y) (h2:q↔sLt y x):zhL x y=if p then-1 else if q then 1 else 0:=by
 unfold zhL
 by_cases a:sLt x y
 .rw [if_pos a,if_pos (h1.2 a)]
 .rw [if_neg a,if_neg (λk=>a (h1.1 k))]
  by_cases b:sLt y x
  .rw [if_pos b,if_pos (h2.2 b)]
  .rw [if_neg b,if_neg (λk=>b (h2.1 k))]
theorem zeq {l:D} {s:List UInt8} {x:Nat} (h:x<l.len) (hs:zbU l s (l.len-x) x=idx l s):(sAt l x=s->idx l s=x)/\(sAt l x≠s->zbU l s (l.len-(x+1)) (x+1)=idx l s):=by
 have e:l.len-x=(l.len-(x+1))+1:=by omega
 rw [e] at hs
 unfold zbU at hs
 constructor
 .intro k;rw [if_pos k] at hs;exact hs.symm
 .intro k;rw [if_neg k] at hs;exact hs
theorem zj9 {l:D} {s:List UInt8} {x:Nat} (h:x=l.len) (hs:zbU l s (l.len-x) x=idx l s):idx l s=l.len:=by
 subst h
 rw [Nat.sub_self] at hs
 exact hs.symm
theorem zm1 (l:D) (s:List UInt8):∀(f i:Nat),zbU l s f i<=i+f
 |0,i=>Nat.le_refl _
 |f+1,i=>by
  unfold zbU
  split
  .omega
  .have:=zm1 l s f (i+1);omega
theorem zwg (l:D) (s:List UInt8):idx l s<=l.len:=by have:=zm1 l s l.len 0;unfold idx;omega
theorem za5 {x n:Nat} (hx:x<=n) (h:(x:Int)<n->False):x=n:=by have h:¬((x:Int)<n):=h;omega
theorem zpD {a b:Nat} (h:a<=8796093022208):a-b<LIM:=by unfold LIM;omega
theorem zf7 {a b:Nat} (h:a<=100):a-b<LIM:=by unfold LIM;omega
theorem zz7 (x y:Int):zac (zbs (λ_=>none) (λ_=>none) zaC) 4 114 [.int .i64 x,.int .i64 y] (.int .i64 (zdN x y)):=by
 rw [zx7]
 exact ⟨λh=>absurd rfl h,λ_=>⟨λh=>absurd rfl h,λ_=>⟨λh=>by unfold zdN;rw [if_pos h],λh1=>⟨λh2=>by unfold zdN;rw [if_neg h1,if_pos h2],λh2=>by unfold zdN;rw [if_neg h1,if_neg h2]⟩⟩⟩⟩
theorem zzL (x y:Int):zac (zbs cm0 (λ_=>none) zaC) 4 177 [.int .i64 x,.int .i64 y] (.int .i64 (zdN y x)):=by
 rw [zxI];exact ⟨trivial,rfl⟩
theorem zAa (x y:List UInt8):zac (zbs (λ_=>none) (λ_=>none) zaC) 4 185 [.str x,.str y] (.int .i64 (zhL x y)):=by
 rw [zyt]
 refine ⟨λh=>absurd rfl h,λ_=>⟨λh=>absurd rfl h,λ_=>⟨λh=>by unfold zhL;rw [if_pos h],λh1=>⟨λh2=> ?_,λh2=> ?_⟩⟩⟩⟩
 .have h3:sLt y x:=⟨zkl x y (by cases hb:Op.bytesLess x y with|false=>rfl|true=>exact (h1 ⟨hb⟩).elim) (λe=>h2 (.inr e))⟩
  unfold zhL;rw [if_neg h1,if_pos h3]
 .rcases Classical.byContradiction h2 with h|h
  .exact (h1 h).elim
  .subst h;unfold zhL;rw [if_neg h1,if_neg h1]
theorem s45 (l:D) (s:List UInt8) (hl:l.len<=100):zac (zbs (λ_=>none) (λ_=>none) zaC) 3 45 [.dat 29 l,.str s] (.int .i64 (znB l s)):=by
 rw [zAI]
 refine ⟨⟨0,⟨Nat.zero_le _,rfl⟩,⟨rfl,trivial⟩,trivial⟩,λx hx=>⟨zf7 hl,λh=>⟨by omega,h,λe=> ?_,λe=>⟨by omega,x+1,⟨by omega,(zeq (by omega) hx.2).2 λk=>e k.symm⟩,by omega,⟨by omega,trivial⟩,trivial⟩⟩,λh=> ?_⟩⟩
 .have:=(zeq (by omega) hx.2).1 e.symm
  unfold znB;rw [this,if_pos (by omega)]
 .have:=zj9 (za5 hx.1 h) hx.2
  unfold znB;rw [this,if_neg (by omega)]
theorem zBh (l:D) (s:List UInt8) (hl:l.len<=100):zac (zbs (λ_=>none) (λ_=>none) zaC) 3 202 [.dat 29 l,.str s] (.int .i64 (idx l s)):=by
 rw [zxP]
 refine ⟨⟨0,⟨Nat.zero_le _,rfl⟩,⟨rfl,trivial⟩,trivial⟩,λx hx=>⟨zf7 hl,λh=>⟨by omega,h,λe=> ?_,λe=>⟨by omega,x+1,⟨by omega,(zeq (by omega) hx.2).2 e⟩,by omega,⟨by omega,trivial⟩,trivial⟩⟩,λh=> ?_⟩⟩
 .rw [(zeq (by omega) hx.2).1 e]
 .rw [zj9 (za5 hx.1 h) hx.2]
theorem zzt (g:GD) (p:Int) (nm:D) (hl:nm.len<=100):zac (zbs cm0 (λ_=>none) zaC) 3 215 [pV g p,.dpt 29 nm] (.int .i64 (idx nm g.rk)):=by
 rw [zxV]
 have:=zwg nm g.rk
 refine ⟨hl,λh=> ?_,λh=> ?_⟩
 .unfold znB at h⊢;split at h
  .rename_i k;rw [if_pos k]
  .omega
 .have h:¬0<=znB nm g.rk:=h
  unfold znB at h;split at h<;>omega
theorem zzH (g:GD) (p:Int) (x:D):zac (zbs cm0 (λ_=>none) zaC) 3 179 [pV g p,.dpt 69 x] (.prop (g.sd=cN x)):=by rw [zyc]
theorem zzV (g:GD) (p:Int):zac (zbs cm0 (λ_=>none) zaC) 3 180 [pV g p] (.prop g.ho):=by rw [zxn]
theorem zzT (g:GD) (p:Int):zac (zbs cm0 (λ_=>none) zaC) 3 217 [pV g p] (.prop (g.si=0)):=by rw [zyz]
theorem zzG (g:GD) (p:Int) (x:D) (h1:g.tg.len<=100) (h2:(cNm x).len<=100):zac (zbs cm0 (λ_=>none) (zvl (cNm x))) 6 181 [pV g p,.dpt 69 x] (.prop (zok g.tg (cNm x))):=by
 rw [zys]
 exact ⟨⟨0,⟨Nat.zero_le _,λi hi=>absurd hi (Nat.not_lt_zero _)⟩,⟨rfl,trivial⟩,trivial⟩,λy hy=>⟨zf7 h1,λh=>⟨by omega,h,h2,λk=>⟨λ_=>⟨y,by omega,k⟩,λ_=>by omega⟩,
  λk=>⟨by omega,y+1,⟨by omega,λi hi=>by
   rcases Nat.lt_or_ge i y with q|q
   .exact hy.2 i q
   .have:i=y:=by omega
    subst this;exact k⟩,by omega,⟨by omega,trivial⟩,trivial⟩⟩,
  λh=>⟨λe=>(by cases e),λe=>(by obtain ⟨i,a,b⟩:=e.out;have:=za5 hy.1 h;exact (hy.2 i (by omega) b).elim)⟩⟩⟩
theorem zz9 (g:GD) (p:Int) (x:D) (h2:(cNm x).len<=100):zac (zbs cm0 (λ_=>none) zaC) 3 183 [pV g p,.dpt 69 x] (.prop (zbk (cNm x) g.ct)):=by
 rw [zxw];exact ⟨h2,Iff.rfl⟩
theorem zAY (p:Int):zac (zbs cm0 (λ_=>none) zaC) 3 187 [.int .i64 p] (.int .i64 p):=by rw [zyg]
theorem zuF {p n:Int} (h:inB p) (h1:0<=n) (h2:n<=63):0<=p*(2*n+1)/\p*(2*n+1)<=63*127:=by
 obtain ⟨a,b⟩:=h.out
 exact ⟨Int.mul_nonneg a (by omega),Int.mul_le_mul (by omega) (by omega) (by omega) (by omega)⟩
theorem zzE (p:Int) (x:D) (h:inB p) (h1:0<=cN x) (h2:cN x<=63):zac (zbs cm0 (λ_=>none) zaC) 3 188 [.int .i64 p,.dpt 69 x] (.int .i64 (znT p (cN x))):=by
 rw [zyP]
 obtain ⟨a,b⟩:=zuF h h1 h2
 refine ⟨by omega,by omega,by omega,by omega,λe=>absurd e (by decide),rfl⟩
theorem zz1 (p:Int):zac (zbs cm0 (λ_=>none) zaC) 3 222 [.int .i64 p] (.prop (inB p)):=by
 rw [zyu]
 exact ⟨λh=>⟨λk=>⟨h,k⟩,λk=>k.out.2⟩,λh=>⟨λe=>(by cases e),λk=>(h k.out.1).elim⟩⟩
theorem zBe (a b:GD) (i j:Int) (r:D) (h:okR r):zac (zbs cm0 cF1 zaC) 3 216 [pV a i,pV b j,.dpt 227 r] (.int .i64 (zdN (zkZ r a) (zkZ r b))):=by
 rw [zxr];exact ⟨h,h,trivial,rfl⟩
theorem zAg (a b:GD) (i j:Int) (n la:D) (h:okN n) (ha:a.tg.len<=100) (hb:b.tg.len<=100):zac (zbs cm0 cF1 zaC) 3 220 [pV a i,pV b j,.dpt 184 n,.dpt 4 la] (.int .i64 (zk5 (zdK n a) (zdK n b) la.asProp)):=by
 rw [zyB]
 exact ⟨⟨h,ha⟩,⟨h,hb⟩,λk=>by unfold zk5;rw [if_pos k],λk=>⟨λk2=>by unfold zk5;rw [if_neg k,if_pos k2],λk2=>by unfold zk5;rw [if_neg k,if_neg (λq=>k2 q)]⟩⟩
theorem zzB (a b:GD) (i j:Int):zac (zbs cm0 cF1 zaC) 3 184 [pV a i,pV b j] (.int .i64 (zhL a.nm b.nm)):=by rw [zyh];exact ⟨trivial,rfl⟩
open Classical in
theorem zAV (a b:GD) (i j:Int) (e k:D) (he:e= .fn 222 [] []) (hk:okK k):zac (zbs cm0 cF1 zaC) 3 223 [pV a i,pV b j,.dpt 181 e,.dpt 80 k] (.int .i64 (if inB i/\inB j then zdN (zoK k i) (zoK k j) else 0)):=by
 rw [zxt]
 exact ⟨he,λh=>⟨he,λh2=>by rw [if_neg (λq=>h2 q.2)],λh2=>⟨⟨hk,byContradiction h⟩,⟨hk,byContradiction h2⟩,trivial,by rw [if_pos ⟨byContradiction h,byContradiction h2⟩]⟩⟩,λh=>by rw [if_neg (λq=>h q.1)]⟩
theorem zzM (a b:GD) (i j:Int) (u c:D) (hu:ztN u) (hc:okC c) (ha:a.tg.len<=100) (hb:b.tg.len<=100):zac (zbs cm0 cF2 zaC) 4 218 [pV a i,pV b j,.dpt 173 u,.dpt 142 c] (.int .i64 (orZ (zby u a b i j) (zjr c a.si b.si))):=by
 rw [zxO]
 refine ⟨⟨hu,ha,hb⟩,hc,by decide,by decide,by simp,λh=> ?_,λh=>⟨by decide,by decide,by simp,λh2=> ?_,λh2=> ?_⟩⟩
 .have h:¬zby u a b i j=0:=h
  unfold orZ;rw [if_pos h];rfl
 .have h:zby u a b i j=0:=Classical.byContradiction h
  unfold orZ;rw [if_neg (λk=>k h)];rfl
 .have h:zby u a b i j=0:=Classical.byContradiction h
  have h2:zjr c a.si b.si=0:=Classical.byContradiction h2
  unfold orZ;rw [if_neg (λk=>k h),h2]
theorem zBi (a b:GD) (i j:Int) (s t:D) (ht:zug t) (ha:a.tg.len<=100) (hb:b.tg.len<=100):zac (zbs cm0 cF3 zaC) 3 174 [pV a i,pV b j,.dpt 9 s,.dpt 173 t] (.int .i64 (zmX s.asStr t a b i j)):=by
 rw [zyD]
 exact ⟨λh1=>⟨λh2=>⟨λh3=>by unfold zmX;rw [if_pos ⟨h1,.inr h3⟩],λh3=>⟨⟨ht,ha,hb⟩,by unfold zmX;rw [if_neg (λq=>q.2.elim h2 h3)]⟩⟩,λh2=>by unfold zmX;rw [if_pos ⟨h1,.inl h2⟩]⟩,
  λh1=>⟨⟨ht,ha,hb⟩,by unfold zmX;rw [if_neg (λq=>h1 q.1)]⟩⟩
theorem zAR (k:Int) (a:List UInt8) (la:Prop) (nm:D) (n:Int):zac (zbs cm0 (λ_=>none) zaC) 5 143 [.agg [.int .u8 k,.str a,.prop la,.dat 29 nm,.int .i64 n]] (.fnd 173 (zbY k a la nm n)):=by
 rw [zxs]
 refine ⟨λh=>by unfold zbY;rw [if_pos h],λh1=>⟨λh=> ?_,λh2=>⟨λh=> ?_,λh3=>⟨λh=> ?_,λh4=>⟨λh=> ?_,λh5=>⟨λh=> ?_,λh6=>⟨λh=> ?_,λh7=>⟨λh=> ?_,λh8=>⟨λh=> ?_,λh9=> ?_⟩⟩⟩⟩⟩⟩⟩⟩⟩
 .unfold zbY;rw [if_neg h1,if_pos h];rfl
 .unfold zbY;rw [if_neg h1,if_neg h2,if_pos h];rfl
 .unfold zbY;rw [if_neg h1,if_neg h2,if_neg h3,if_pos h];rfl
 .unfold zbY;rw [if_neg h1,if_neg h2,if_neg h3,if_neg h4,if_pos h];rfl
 .unfold zbY;rw [if_neg h1,if_neg h2,if_neg h3,if_neg h4,if_neg h5,if_pos h];rfl
 .unfold zbY;rw [if_neg h1,if_neg h2,if_neg h3,if_neg h4,if_neg h5,if_neg h6,if_pos h];rfl
 .unfold zbY;rw [if_neg h1,if_neg h2,if_neg h3,if_neg h4,if_neg h5,if_neg h6,if_neg h7,if_pos h]
 .unfold zbY;rw [if_neg h1,if_neg h2,if_neg h3,if_neg h4,if_neg h5,if_neg h6,if_neg h7,if_neg h8,if_pos h];rfl
 .unfold zbY;rw [if_neg h1,if_neg h2,if_neg h3,if_neg h4,if_neg h5,if_neg h6,if_neg h7,if_neg h8,if_neg h9];rfl
theorem zBc (s:List UInt8) (t:D):zac (zbs cm0 (λ_=>none) zaC) 3 142 [.str s,.fnd 173 t] (.fnd 173 (zh8 s t)):=by rw [zyy];rfl
end Go.Ev

end

section
open Go.Proofs
namespace Go.Ev
set_option maxRecDepth 100000
set_option maxHeartbeats 4000000
theorem zdY (l:D) (n:Nat) (h:n<=l.len):(l.sub 0 n).len=n:=by
 cases l<;>simp [D.sub,D.len,D.asList] at h⊢ <;>omega
theorem zjQ (l:D) (n i:Nat) (h:i<n):el (l.sub 0 n) i=el l i:=by
 cases l<;>simp [D.sub,el,D.asList,zai,List.getElem?_take,h]
theorem zro (l:D) (n i:Nat) (h:i<n):sAt (l.sub 0 n) i=sAt l i:=congrArg D.asStr (zjQ l n i h)
theorem zrs (l:D) (x:Nat) (h:x<=l.len) (s:List UInt8):zbk (l.sub 0 x) s↔ ∃k,k<x/\sAt l k=s:=by
 constructor
 .rintro ⟨k,h1,h2⟩
  rw [zdY l x h] at h1
  rw [zro l x k h1] at h2
  exact ⟨k,h1,h2⟩
 .rintro ⟨k,h1,h2⟩
  exact ⟨k,by rw [zdY l x h];exact h1,by rw [zro l x k h1];exact h2⟩
theorem zxM:∀(l:D) (s:List UInt8),zac (ctx (λ_=>none) zaY) 3 (103:FuncId) [V.dat (29:TypeId) l,V.str s] (V.prop (zbk l s))=((∃(x:Nat),(x<=l.len/\∀(i:Nat),i<x->sAt l i=s->False)
/\(0=(x:Int)/\True)/\True)/\∀(x:Nat),(x<=l.len/\∀(i:Nat),i<x->sAt l i=s->False)->l.len-x<LIM/\((x:Int)<(l.len:Int)->0<=(x:Int)/\(x:Int)<(l.len:Int)/\(s=sAt l x->(0<=(x:
Int)↔zbk l s))/\((s=sAt l x->False)->fits64 ((x:Int)+1)/\∃(y:Nat),(y<=l.len/\∀(i:Nat),i<y->sAt l i=s->False)/\l.len-y<l.len-x/\((x:Int)+1=(y:Int)/\True)/\True))/\(((x:
Int)<(l.len:Int)->False)->(false=true↔zbk l s))):=by intros;kernel_rfl
theorem zxx:∀(l:D) (s:List UInt8),zac (ctx (λ_=>none) zaY) 3 (137:FuncId) [V.dat (29:TypeId) l,V.str s] (V.prop (zbk l s))=((∃(x:Nat),(x<=l.len/\∀(i:Nat),i<x->sAt l i=s->False)
/\(0=(x:Int)/\True)/\True)/\∀(x:Nat),(x<=l.len/\∀(i:Nat),i<x->sAt l i=s->False)->l.len-x<LIM/\((x:Int)<(l.len:Int)->0<=(x:Int)/\(x:Int)<(l.len:Int)/\(sAt l x=s->(true=
true↔zbk l s))/\((sAt l x=s->False)->fits64 ((x:Int)+1)/\∃(y:Nat),(y<=l.len/\∀(i:Nat),i<y->sAt l i=s->False)/\l.len-y<l.len-x/\((x:Int)+1=(y:Int)/\True)/\True))/\(((x:
Int)<(l.len:Int)->False)->(false=true↔zbk l s))):=by intros;kernel_rfl
theorem zx9:∀(s:List UInt8),zac (ctx (λ_=>none) zaY) 3 (136:FuncId) [V.str s] (V.prop (zaI s))=((((s.length:Int)<1->False)->(12<(s.length:Int)->(false=true↔zaI s))/\((12<
(s.length:Int)->False)->(∃(x:Nat),(x<=s.length/\∀(i:Nat),i<x->97<=zal s i/\zal s i<=122)/\(0=(x:Int)/\True)/\True)/\∀(x:Nat),(x<=s.length/\∀(i:Nat),i<x->97<=zal s i/\
zal s i<=122)->s.length-x<LIM/\((x:Int)<(s.length:Int)->0<=(x:Int)/\(x:Int)<(s.length:Int)/\((zal s x<97->False)->0<=(x:Int)/\(x:Int)<(s.length:Int)/\(122<zal s x->
(false=true↔zaI s))/\((122<zal s x->False)->fits64 ((x:Int)+1)/\∃(y:Nat),(y<=s.length/\∀(i:Nat),i<y->97<=zal s i/\zal s i<=122)/\s.length-y<s.length-x/\((x:Int)+1=(y
:Int)/\True)/\True))/\(zal s x<97->(false=true↔zaI s)))/\(((x:Int)<(s.length:Int)->False)->(true=true↔zaI s))))/\((s.length:Int)<1->(false=true↔zaI s))):=by intros;kernel_rfl
theorem zAM:∀(a b:D),zac (ctx (λ_=>none) zaY) 3 (81:FuncId) [V.dat (29:TypeId) a,V.dat (29:TypeId) b] (V.prop (eqS a b))=((((a.len:Int)=(b.len:Int)->False)->(false=true↔eqS a b))/\
((((a.len:Int)=(b.len:Int)->False)->False)->(∃(x:Nat),(x<=a.len/\∀(i:Nat),i<x->sAt a i=sAt b i)/\(0=(x:Int)/\True)/\True)/\∀(x:Nat),(x<=a.len/\∀(i:Nat),i<x->sAt a i=sAt b i)
->a.len-x<LIM/\((x:Int)<(a.len:Int)->0<=(x:Int)/\(x:Int)<(a.len:Int)/\0<=(x:Int)/\(x:Int)<(b.len:Int)/\((sAt a x=sAt b x->False)->(false=true↔eqS a b))/\(((sAt a x=sAt b x->
False)->False)->fits64 ((x:Int)+1)/\∃(y:Nat),(y<=a.len/\∀(i:Nat),i<y->sAt a i=sAt b i)/\a.len-y<a.len-x/\((x:Int)+1=(y:Int)/\True)/\True))/\(((x:Int)<(a.len:Int)->False)->
(true=true↔eqS a b)))):=by intros;kernel_rfl
theorem zxK:∀(k:Int) (a:List UInt8) (la:Prop) (nm:D) (n:Int),zac (ctx (λ_=>none) zaY) 3 (201:FuncId) [V.agg [V.int IntKind.u8 k,V.str a,V.prop la,V.dat (29:TypeId) nm,V.int IntKind.i64
n]] (V.prop (zay k a la nm.len n))=((k=1->(1<=(nm.len:Int)->((nm.len:Int)<=16->(n=0->((la->False)->(a= []↔zay k a la nm.len n))/\(((la->False)->False)->(false=true↔zay k a la nm.len
n)))/\((n=0->False)->(false=true↔zay k a la nm.len n)))/\(((nm.len:Int)<=16->False)->(false=true↔zay k a la nm.len n)))/\((1<=(nm.len:Int)->False)->(false=true↔zay k a la nm.len n)))/\
((k=1->False)->(k=2->((nm.len:Int)=0->(n=0->(la->False↔zay k a la nm.len n))/\((n=0->False)->(false=true↔zay k a la nm.len n)))/\(((nm.len:Int)=0->False)->(false=true↔zay k a
la nm.len n)))/\((k=2->False)->(k=3->((nm.len:Int)=0->(n=0->(la->False↔zay k a la nm.len n))/\((n=0->False)->(false=true↔zay k a la nm.len n)))/\(((nm.len:Int)=0->False)->(false=
true↔zay k a la nm.len n)))/\((k=3->False)->(k=8->((nm.len:Int)=0->(n=0->(la->False↔zay k a la nm.len n))/\((n=0->False)->(false=true↔zay k a la nm.len n)))/\(((nm.len:Int)=0->
False)->(false=true↔zay k a la nm.len n)))/\((k=8->False)->(k=9->((nm.len:Int)=0->(n=0->(la->False↔zay k a la nm.len n))/\((n=0->False)->(false=true↔zay k a la nm.len n)))/\
(((nm.len:Int)=0->False)->(false=true↔zay k a la nm.len n)))/\((k=9->False)->(k=4->((nm.len:Int)=0->(1<=n->(n<=2↔zay k a la nm.len n))/\((1<=n->False)->(false=true↔zay k a la
nm.len n)))/\(((nm.len:Int)=0->False)->(false=true↔zay k a la nm.len n)))/\((k=4->False)->(k=5->((nm.len:Int)=0->(n=0↔zay k a la nm.len n))/\(((nm.len:Int)=0->False)->(false=true
↔zay k a la nm.len n)))/\((k=5->False)->(k=6->(1<=(nm.len:Int)->((nm.len:Int)<=16->(n=0↔zay k a la nm.len n))/\(((nm.len:Int)<=16->False)->(false=true↔zay k a la nm.len n)))/\((1<=
(nm.len:Int)->False)->(false=true↔zay k a la nm.len n)))/\((k=6->False)->(k=7->(1<=(nm.len:Int)->((nm.len:Int)<=16->(n=0↔zay k a la nm.len n))/\(((nm.len:Int)<=16->False)->(false=
true↔zay k a la nm.len n)))/\((1<=(nm.len:Int)->False)->(false=true↔zay k a la nm.len n)))/\((k=7->False)->(k=10->((nm.len:Int)=0->(0<=n->(n<=63->(la->False↔zay k a la nm.len n))/\
((n<=63->False)->(false=true↔zay k a la nm.len n)))/\((0<=n->False)->(false=true↔zay k a la nm.len n)))/\(((nm.len:Int)=0->False)->(false=true↔zay k a la nm.len n)))/\((k=10->False)->
(false=true↔zay k a la nm.len n)))))))))))):=by intros;kernel_rfl
theorem zym:∀(l:D),zac (ctx cc1 zaY) 3 (169:FuncId) [V.dat (29:TypeId) l] (V.prop (zbD l))=((∃(x:Nat),(x<=l.len/\∀(i k:Nat),k<i->i<x->sAt l k=sAt l i->False)/\(0=(x:Int)/\
True)/\True)/\∀(x:Nat),(x<=l.len/\∀(i k:Nat),k<i->i<x->sAt l k=sAt l i->False)->l.len-x<LIM/\((x:Int)<(l.len:Int)->0<=(x:Int)/\(x:Int)<(l.len:Int)/\(0:Int)<=0/\0<=(x:
Int)/\(x:Int)<=(l.len:Int)/\(l.sub 0 x).len<=100/\(zbk (l.sub 0 x) (sAt l x)->(true=true↔zbD l))/\((zbk (l.sub 0 x) (sAt l x)->False)->fits64 ((x:Int)+1)/\∃(y:Nat),(y<=l.len/\∀(i k:
Nat),k<i->i<y->sAt l k=sAt l i->False)/\l.len-y<l.len-x/\((x:Int)+1=(y:Int)/\True)/\True))/\(((x:Int)<(l.len:Int)->False)->(false=true↔zbD l))):=by intros;kernel_rfl
theorem zyd:∀(c:D) (s:List UInt8),zac (ctx cc1 (zow s)) 6 (170:FuncId) [V.dat (22:TypeId) c,V.str s] (V.prop (zaO c c.len s))=((∃(x:Nat),(x<=c.len/\∀(k:Nat),k<x->cK (el c k)=1/\
zbk (cNm (el c k)) s->False)/\(0=(x:Int)/\True)/\True)/\∀(x:Nat),(x<=c.len/\∀(k:Nat),k<x->cK (el c k)=1/\zbk (cNm (el c k)) s->False)->c.len-x<LIM/\((x:Int)<(c.len:Int)->0<=(x:
Int)/\(x:Int)<(c.len:Int)/\(cK (el c x)=1->(cNm (el c x)).len<=100/\(zbk (cNm (el c x)) s->(0<=(x:Int)↔zaO c c.len s))/\((zbk (cNm (el c x)) s->False)->fits64 ((x:Int)+1)/\∃(y:Nat),(y
<=c.len/\∀(k:Nat),k<y->cK (el c k)=1/\zbk (cNm (el c k)) s->False)/\c.len-y<c.len-x/\((x:Int)+1=(y:Int)/\True)/\True))/\((cK (el c x)=1->False)->fits64 ((x:Int)+1)/\∃(y:Nat),
(y<=c.len/\∀(k:Nat),k<y->cK (el c k)=1/\zbk (cNm (el c k)) s->False)/\c.len-y<c.len-x/\((x:Int)+1=(y:Int)/\True)/\True))/\(((x:Int)<(c.len:Int)->False)->(false=true↔zaO c
c.len s))):=by intros;kernel_rfl
theorem zyo:∀(k:Int) (a:List UInt8) (la:Prop) (nm:D) (n k':Int) (a':List UInt8) (la':Prop) (nm':D) (n':Int),zac (ctx cc1 zaY) 3 (124:FuncId) [V.agg [V.int IntKind.u8 k,V.str a,V.prop la,
V.dat (29:TypeId) nm,V.int IntKind.i64 n],V.agg [V.int IntKind.u8 k',V.str a',V.prop la',V.dat (29:TypeId) nm',V.int IntKind.i64 n']] (V.prop (k=k'/\a=a'/\(la↔la')/\n=n'/\eqS nm nm'))=((k=k'->
(a=a'->((la↔la')->(n=n'->nm.len<=100/\(eqS nm nm'↔k=k'/\a=a'/\(la↔la')/\n=n'/\eqS nm nm'))/\((n=n'->False)->(false=true↔k=k'/\a=a'/\(la↔la')/\n=n'/\eqS nm nm')))/\(((la↔
la')->False)->(false=true↔k=k'/\a=a'/\(la↔la')/\n=n'/\eqS nm nm')))/\((a=a'->False)->(false=true↔k=k'/\a=a'/\(la↔la')/\n=n'/\eqS nm nm')))/\((k=k'->False)->(false=true↔k=
k'/\a=a'/\(la↔la')/\n=n'/\eqS nm nm'))):=by intros;kernel_rfl
theorem zyU {s:List UInt8} {x:Nat} (hx:x<s.length) (hn:¬(97<=zal s x/\zal s x<=122)):¬zaI s:=λh=>hn (h.out.2.2 x hx)
theorem zA0 (l:D) (s:List UInt8) (h:l.len<=100):zac (ctx (λ_=>none) zaY) 3 103 [.dat 29 l,.str s] (.prop (zbk l s)):=by
 rw [zxM]
 simp only [imp_false,Classical.not_not,true_and,and_true]
 refine ⟨⟨0,⟨by omega,λi hi=>by omega⟩,rfl⟩,λx ⟨hx,hinv⟩=>⟨by unfold LIM;omega,λhlt=>⟨by omega,hlt,λhe=>⟨λ_=>⟨x,by omega,he.symm⟩,λ_=>by omega⟩,λhn=>⟨by omega,x+1,⟨by omega,λi hi=> ?_⟩,by omega,by omega⟩⟩,λhge=>⟨λh=>by simp at h,λh=> ?_⟩⟩⟩
 .by_cases e:i=x
  .subst e;exact λh=>hn h.symm
  .exact hinv i (by omega)
 .obtain ⟨i,h1,h2⟩:=h.out;exact absurd h2 (hinv i (by omega))
theorem zz5 (l:D) (s:List UInt8) (h:l.len<=100):zac (ctx (λ_=>none) zaY) 3 137 [.dat 29 l,.str s] (.prop (zbk l s)):=by
 rw [zxx]
 simp only [imp_false,Classical.not_not,true_and,and_true]
 refine ⟨⟨0,⟨by omega,λi hi=>by omega⟩,rfl⟩,λx ⟨hx,hinv⟩=>⟨by unfold LIM;omega,λhlt=>⟨by omega,hlt,λhe=>⟨λ_=>⟨x,by omega,he⟩,λ_=>by first|rfl|trivial⟩,λhn=>⟨by omega,x+1,⟨by omega,λi hi=> ?_⟩,by omega,by omega⟩⟩,λhge=>⟨λh=>by simp at h,λh=> ?_⟩⟩⟩
 .by_cases e:i=x
  .subst e;exact hn
  .exact hinv i (by omega)
 .obtain ⟨i,h1,h2⟩:=h.out;exact absurd h2 (hinv i (by omega))
theorem zz6 (s:List UInt8):zac (ctx (λ_=>none) zaY) 3 136 [.str s] (.prop (zaI s)):=by
 rw [zx9]
 simp only [imp_false,Classical.not_not,true_and,and_true]
 have no:∀x,x<s.length->¬(97<=zal s x/\zal s x<=122)->(false=true↔zaI s):=λx hx hn=>⟨λh=>by simp at h,λh=>absurd (h.out.2.2 x hx) hn⟩
 have bad:¬(1<=s.length/\s.length<=12)->(false=true↔zaI s):=λhn=>⟨λh=>by simp at h,λh=>absurd ⟨h.out.1,h.out.2.1⟩ hn⟩
 refine ⟨λh1=>⟨λh2=>bad (by omega),λh2=>⟨⟨0,⟨by omega,λi hi=>by omega⟩,rfl⟩,λx ⟨hx,hinv⟩=>⟨by unfold LIM;omega,λhlt=>⟨by omega,by omega,λh3=>⟨by omega,by omega,λh4=>no x (by omega) (by omega),λh4=>⟨by omega,x+1,⟨by omega,λi hi=> ?_⟩,by omega,by omega⟩⟩,λh3=>no x (by omega) (by omega)⟩,λhge=>⟨λ_=>⟨by omega,by omega,λi hi=>hinv i (by omega)⟩,λ_=>by first|rfl|trivial⟩⟩⟩⟩,λh1=>bad (by omega)⟩
 by_cases e:i=x
 .subst e;exact ⟨by omega,by omega⟩
 .exact hinv i (by omega)
theorem s81 (a b:D) (h:a.len<=100):zac (ctx (λ_=>none) zaY) 3 81 [.dat 29 a,.dat 29 b] (.prop (eqS a b)):=by
 rw [zAM]
 simp only [imp_false,Classical.not_not,true_and,and_true]
 refine ⟨λhne=>⟨λh=>by simp at h,λh=>absurd (by rw [h.out.1]) hne⟩,λheq=>⟨⟨0,⟨by omega,λi hi=>by omega⟩,rfl⟩,λx ⟨hx,hinv⟩=>⟨by unfold LIM;omega,λhlt=>⟨by omega,hlt,by omega,by omega,λhn=>⟨λh=>by simp at h,λh=>absurd (h.out.2 x (by omega)) hn⟩,λhs=>⟨by omega,x+1,⟨by omega,λi hi=> ?_⟩,by omega,by omega⟩⟩,λhge=>⟨λ_=>⟨by omega,λi hi=>hinv i (by omega)⟩,λ_=>by first|rfl|trivial⟩⟩⟩⟩
 by_cases e:i=x
 .subst e;exact hs
 .exact hinv i (by omega)
theorem zma (k:Int) (a:List UInt8) (la:Prop) (m:Nat) (n:Int):zay k a la m n↔((k=1/\1<=m/\m<=16/\n=0/\¬la/\a= [])\/((k=2\/k=3\/k=8\/k=9)/\m=0/\n=0/\¬la)\/
  (k=4/\m=0/\1<=n/\n<=2)\/(k=5/\m=0/\n=0)\/((k=6\/k=7)/\1<=m/\m<=16/\n=0)\/(k=10/\m=0/\0<=n/\n<=63/\¬la)):=⟨λh=>h.out,λh=>⟨h⟩⟩
set_option maxHeartbeats 8000000 in
theorem zAW (k:Int) (a:List UInt8) (la:Prop) (nm:D) (n:Int):zac (ctx (λ_=>none) zaY) 3 201 [.agg [.int .u8 k,.str a,.prop la,.dat 29 nm,.int .i64 n]] (.prop (zay k a la nm.len n)):=by
 rw [zxK]
 simp only [zma,imp_false,Classical.not_not,Bool.false_eq_true,false_iff]
 generalize (a= [])=A at*
 by_cases hA:A<;>by_cases hla:la<;>simp only [hA,hla,not_true_eq_false,not_false_eq_true,true_implies,false_implies,true_and,and_true,and_false,false_and,true_iff,false_iff,or_false,false_or]<;>(repeat' (first|refine And.intro ?_ ?_|intro _))<;>omega
theorem zzS (l:D) (h:l.len<=100):zac (ctx cc1 zaY) 3 169 [.dat 29 l] (.prop (zbD l)):=by
 rw [zym]
 simp only [imp_false,Classical.not_not,true_and,and_true]
 refine ⟨⟨0,⟨by omega,λi k hk hi=>by omega⟩,rfl⟩,λx ⟨hx,hinv⟩=>⟨by unfold LIM;omega,λhlt=> ?_,λhge=>⟨λh=>by simp at h,λh=> ?_⟩⟩⟩
 .have hs:=zrs l x (by omega) (sAt l x)
  refine ⟨by omega,hlt,by omega,by omega,by omega,by rw [zdY l x (by omega)];omega,λhh=>⟨λ_=> ?_,λ_=>by first|rfl|trivial⟩,λhn=>⟨by omega,x+1,⟨by omega,λi k hk hi=> ?_⟩,by omega,by omega⟩⟩
  .obtain ⟨k,h1,h2⟩:=hs.1 hh;exact ⟨x,k,h1,by omega,h2⟩
  .by_cases e:i=x
   .subst e;exact λh=>hn (hs.2 ⟨k,hk,h⟩)
   .exact hinv i k hk (by omega)
 .obtain ⟨i,k,h1,h2,h3⟩:=h.out;exact absurd h3 (hinv i k h1 (by omega))
theorem zz0 (c:D) (s:List UInt8) (h:zan c):zac (ctx cc1 (zow s)) 6 170 [.dat 22 c,.str s] (.prop (zaO c c.len s)):=by
 have hlen:=h.out.1
 rw [zyd]
 simp only [imp_false,Classical.not_not,true_and,and_true]
 have go:∀x,x<c.len->(∀k,k<x->¬(cK (el c k)=1/\zbk (cNm (el c k)) s))->¬(cK (el c x)=1/\zbk (cNm (el c x)) s)->∃y,(y<=c.len/\∀k,k<y->¬(cK (el c k)=1/\zbk (cNm (el c k)) s))/\c.len-y<c.len-x/\(x:Int)+1=(y:Int):=λx hx hinv hn=>⟨x+1,⟨by omega,λk hk=>by
  by_cases e:k=x
  .subst e;exact hn
  .exact hinv k (by omega)⟩,by omega,by omega⟩
 refine ⟨⟨0,⟨by omega,λi hi=>by omega⟩,rfl⟩,λx ⟨hx,hinv⟩=>⟨by unfold LIM;omega,λhlt=>⟨by omega,hlt,λhk=>⟨h.out.2 x (by omega),λhh=>⟨λ_=>⟨x,by omega,hk,hh⟩,λ_=>by omega⟩,λhn=>⟨by omega,go x (by omega) hinv λh=>hn h.2⟩⟩,λhk=>⟨by omega,go x (by omega) hinv λh=>hk h.1⟩⟩,λhge=>⟨λh=>by simp at h,λh=> ?_⟩⟩⟩
 obtain ⟨k,h1,h2⟩:=h.out;exact absurd h2 (hinv k (by omega))
theorem zAX (k:Int) (a:List UInt8) (la:Prop) (nm:D) (n:Int) (k':Int) (a':List UInt8) (la':Prop) (nm':D) (n':Int) (h:nm.len<=100):zac (ctx cc1 zaY) 3 124 [.agg [.int .u8 k,.str a,.prop la,.dat 29 nm,.int .i64 n],.agg [.int .u8 k',.str a',.prop la',.dat 29 nm',.int .i64 n']] (.prop (k=k'/\a=a'/\(la↔la')/\n=n'/\eqS nm nm')):=by
 rw [zyo]
 repeat' (first|refine And.intro ?_ ?_|intro _)
 all_goals simp_all
end Go.Ev

end

section
open Go.Proofs
namespace Go.Ev
set_option maxRecDepth 100000
set_option maxHeartbeats 4000000
def zsW (s u:List UInt8):Prop:=(∃(x_1:Nat),(x_1<=u.length/\∀(i:Nat),i<x_1->(97:Int)<=zal u i/\zal u i<=(122:Int))/\(u=List.drop x_1 u/\True)/\zeI (26:Nat)=zeI (26:Nat)/\True)/\∀(x_1:Nat),
 (x_1<=u.length/\∀(i:Nat),i<x_1->(97:Int)<=zal u i/\zal u i<=(122:Int))->u.length-x_1<LIM/\((0:Int)<(↑(List.drop x_1 u).length:Int)->(0:Int)<=(0:Int)/\(0:Int)
 <(↑(List.drop x_1 u).length:Int)/\(0:Int)<=zal (List.drop x_1 u) (0:Nat)/\zal (List.drop x_1 u) (0:Nat)<(256:Int)/\(zal (List.drop x_1 u) (0:Nat)).toNat*1<(zeI (26:
 Nat)).length/\(((zai (zeI (26:Nat)) ((zal (List.drop x_1 u) (0:Nat)).toNat*1)).asProp->False)->(List.drop x_1 u= []↔zaI s))/\((((zai (zeI (26:Nat)) ((zal (List.drop x_1 u)
 (0:Nat)).toNat*1)).asProp->False)->False)->(0:Int)<=(1:Int)/\(1:Int)<=(↑(List.drop x_1 u).length:Int)/\(↑(List.drop x_1 u).length:Int)<=(↑(List.drop x_1 u).length:Int)/\∃(y:
 Nat),(y<=u.length/\∀(i:Nat),i<y->(97:Int)<=zal u i/\zal u i<=(122:Int))/\u.length-y<u.length-x_1/\(List.take ((List.drop x_1 u).length-Int.toNat (1:Int)) (List.drop
 (Int.toNat (1:Int)) (List.drop x_1 u))=List.drop y u/\True)/\zeI (26:Nat)=zeI (26:Nat)/\True))/\(((0:Int)<(↑(List.drop x_1 u).length:Int)->False)->(List.drop x_1 u= []↔zaI
 s))
theorem zy0:∀(s:List UInt8),zac (ctx cc0 zaY) 6 (102:FuncId) [V.str s] (V.prop (zaI s))=(((s= []->False)->((s.length:Int)<=12->((s= []->False)->(∃(x:Nat),x.le 26/\(0=(x:Int)/\True)
/\List.replicate 256 (D.bool False)=zeI x/\True)/\∀(x:Nat),x.le 26->26-x<LIM/\((x:Int)<26->0<=(x:Int)/\(x:Int)<26/\(128<=zal zlJ x->False/\False/\(([]:List UInt8)= []↔zaI s))
/\((128<=zal zlJ x->False)->0<=zal zlJ x/\zal zlJ x<256/\(zal zlJ x).toNat*1<(zeI x).length/\fits64 ((x:Int)+1)/\∃(y:Nat),y.le 26/\26-y<26-x/\((x:Int)+1=(y:Int)
/\True)/\(zeI x).set ((zal zlJ x).toNat*1) (D.bool (true=true))=zeI y/\True))/\(((x:Int)<26->False)->(∃(x_1:Nat),(x_1<=s.length/\∀(i:Nat),x_1<=i->i<s.length->97<=zal s i/\zal
s i<=122)/\(s=List.take x_1 s/\True)/\zeI x=zeI 26/\True)/\∀(x:Nat),(x<=s.length/\∀(i:Nat),x<=i->i<s.length->97<=zal s i/\zal s i<=122)->x<LIM/\(0<(↑(List.take x s).length:Int)
->fits64 ((↑(List.take x s).length:Int)-1)/\0<=(↑(List.take x s).length:Int)-1/\(↑(List.take x s).length:Int)-1<(↑(List.take x s).length:Int)/\0<=zal (List.take x s) ((↑(List.take x s).length:
Int)-1).toNat/\zal (List.take x s) ((↑(List.take x s).length:Int)-1).toNat<256/\(zal (List.take x s) ((↑(List.take x s).length:Int)-1).toNat).toNat*1<(zeI 26).length/\(((zai (zeI 26) ((zal
(List.take x s) ((↑(List.take x s).length:Int)-1).toNat).toNat*1)).asProp->False)->zsW s (List.take x s))/\((((zai (zeI 26) ((zal (List.take x s) ((↑(List.take x s).length:Int)-1).toNat).toNat*
1)).asProp->False)->False)->fits64 ((↑(List.take x s).length:Int)-1)/\(0:Int)<=0/\0<=(↑(List.take x s).length:Int)-1/\(↑(List.take x s).length:Int)-1<=(↑(List.take x s).length:Int)/\∃(y:Nat),
(y<=s.length/\∀(i:Nat),y<=i->i<s.length->97<=zal s i/\zal s i<=122)/\y<x/\(List.take ((↑(List.take x s).length:Int)-1).toNat (List.drop 0 (List.take x s))=List.take y s/\True)/\zeI 26=
zeI 26/\True))/\((0<(↑(List.take x s).length:Int)->False)->zsW s (List.take x s))))/\(s= []->(s= []↔zaI s)))/\(((s.length:Int)<=12->False)->(false=true↔zaI s)))/\(((s= []->False)->
False)->(false=true↔zaI s))):=by intros;kernel_rfl
theorem zyv:∀(k:Int) (a:List UInt8) (la:Prop) (nm:D) (n:Int),zac (ctx (λ_=>none) zaY) 3 (168:FuncId) [V.agg [V.int IntKind.u8 k,V.str a,V.prop la,V.dat (29:TypeId) nm,V.int IntKind.i64
n]] (V.prop (zay k a la nm.len n))=(((k<1->False)->(10<k->(false=true↔zay k a la nm.len n))/\((10<k->False)->0<=k/\k<(↑(11:Nat):Int)/\((((zai zck k.toNat).fld 4).asProp↔0<(nm.len:
Int))->((nm.len:Int)<=16->(((zai zck k.toNat).fld 1).asInt<=n->(n<=((zai zck k.toNat).fld 2).asInt->(((cNm (zai zck k.toNat)).asProp->False)->((la->False)->(((zai zck k.toNat).fld 5).asProp->
((a= []->False)->False↔zay k a la nm.len n))/\((((zai zck k.toNat).fld 5).asProp->False)->((!false)=true↔zay k a la nm.len n)))/\(((la->False)->False)->(false=true↔zay k a la nm.len n)))/\
((cNm (zai zck k.toNat)).asProp->(((zai zck k.toNat).fld 5).asProp->((a= []->False)->False↔zay k a la nm.len n))/\((((zai zck k.toNat).fld 5).asProp->False)->((!false)=true↔zay k a la nm.len
n))))/\((n<=((zai zck k.toNat).fld 2).asInt->False)->(false=true↔zay k a la nm.len n)))/\((((zai zck k.toNat).fld 1).asInt<=n->False)->(false=true↔zay k a la nm.len n)))/\(((nm.len:Int)<=
16->False)->(false=true↔zay k a la nm.len n)))/\(((((zai zck k.toNat).fld 4).asProp↔0<(nm.len:Int))->False)->(false=true↔zay k a la nm.len n))))/\(k<1->(false=true↔zay k a la nm.len
n))):=by intros;kernel_rfl
theorem zfr (x:Nat):(zeI x).length=256:=by unfold zeI;simp
theorem zot:List.replicate 256 (D.bool False)=zeI 0:=by
 unfold zeI
 have:(λk:Nat=>D.bool (97<=k/\k<97+0))=λ_=>D.bool False:=funext λk=>congrArg D.bool (propext ⟨λh=>by omega,λh=>h.elim⟩)
 rw [this,List.map_const',List.length_range]
theorem zmv (y:Nat) {i:Nat} (h:i<256):(zeI y)[i]? =some (D.bool (97<=i/\i<97+y)):=by
 unfold zeI;rw [List.getElem?_map,List.getElem?_range h];rfl
theorem zse (x:Nat) (hx:x<26):(zeI x).set (97+x) (D.bool True)=zeI (x+1):=by
 refine List.ext_getElem? λi=> ?_
 rw [List.getElem?_set]
 by_cases hi:i<256
 .rw [zmv x hi,zmv (x+1) hi]
  split
  .rw [if_pos (by rw [zfr];omega)]
   exact congrArg (λp=>some (D.bool p)) (propext ⟨λ_=>by omega,λ_=>trivial⟩)
  .exact congrArg (λp=>some (D.bool p)) (propext ⟨λ_=>by omega,λ_=>by omega⟩)
 .rw [if_neg (by omega),List.getElem?_eq_none (by rw [zfr];omega),List.getElem?_eq_none (by rw [zfr];omega)]
theorem zvE {n:Nat} (h:n<256):(zai (zeI 26) n).asProp=(97<=n/\n<97+26):=by
 unfold zai zeI
 rw [List.getElem?_map,List.getElem?_range h];rfl
theorem zvA:∀x:Nat,x<26->zal zlJ x=97+x:=by decide+kernel
theorem zli (s:List UInt8) (i:Nat):0<=zal s i/\zal s i<256:=by
 unfold zal
 have:=((s[i]?).getD 0).toNat_lt
 omega
theorem zkv (s:List UInt8) (x i:Nat) (h:i<x):zal (s.take x) i=zal s i:=by
 unfold zal;rw [List.getElem?_take_of_lt h]
theorem zp6 (s:List UInt8) (y:Nat):zal (s.drop y) 0=zal s y:=by
 unfold zal;rw [List.getElem?_drop];rfl
theorem zp1 {s:List UInt8} {i:Nat}:(zai (zeI 26) ((zal s i).toNat*1)).asProp↔(97<=zal s i/\zal s i<=122):=by
 have:=zli s i
 rw [zvE (by omega)]
 omega
theorem drop_nil {u:List UInt8} {y:Nat}:u.drop y= []↔u.length<=y:=List.drop_eq_nil_iff
theorem zpa {s u:List UInt8} (hl:u.length<=12) (h:(u= []/\zaI s)\/(0<u.length/\¬zaI s/\¬(97<=zal u (u.length-1)/\zal u (u.length-1)<=122))):zsW s u:=by
 have stop:∀y,y<=u.length->(∀i,i<y->97<=zal u i/\zal u i<=122)->(u.drop y= []↔zaI s):=λy hy hinv=>by
  rw [drop_nil]
  rcases h with ⟨h1,h2⟩| ⟨h1,h2,h3⟩
  .subst h1;exact ⟨λ_=>h2,λ_=>Nat.zero_le _⟩
  .exact ⟨λhh=>absurd (hinv _ (by omega)) h3,λhh=>absurd hh h2⟩
 unfold zsW
 simp only [imp_false,Classical.not_not,true_and,and_true,zp1,zfr]
 refine ⟨⟨0,⟨by omega,λi hi=>by omega⟩,rfl⟩,λx ⟨hx,hinv⟩=>⟨by unfold LIM;omega,λhlt=> ?_,λhge=>stop x hx hinv⟩⟩
 have hb:=zli (u.drop x) 0
 have hd:(u.drop x).length=u.length-x:=List.length_drop
 refine ⟨by omega,hlt,by omega,by omega,by omega,λhn=>stop x hx hinv,λhm=>⟨by omega,by omega,by omega,x+1,⟨by omega,λi hi=> ?_⟩,by omega, ?_⟩⟩
 .by_cases e:i=x
  .subst e;rw [zp6] at hm;exact hm
  .exact hinv i (by omega)
 .rw [List.drop_drop,List.take_of_length_le (by rw [List.length_drop,List.length_drop];simp;omega)]
  first|rfl| (congr 1;simp;omega)
theorem zAL (s:List UInt8):zac (ctx cc0 zaY) 6 102 [.str s] (.prop (zaI s)):=by
 rw [zy0]
 simp only [imp_false,Classical.not_not,and_true,zp1,zfr]
 have bad:¬(1<=s.length/\s.length<=12)->(false=true↔zaI s):=λhn=>⟨λh=>by simp at h,λh=>absurd ⟨h.out.1,h.out.2.1⟩ hn⟩
 refine ⟨λhne=>⟨λhl=>⟨λ_=>⟨⟨0,Nat.zero_le _,rfl,zot⟩,λx hx=> ?_⟩,λh=>absurd h hne⟩,λhl=>bad (by omega)⟩,λhe=>bad (by rw [he];simp)⟩
 have hx:x<=26:=hx
 have hpos:0<s.length:=List.length_pos_iff.2 hne
 refine ⟨by unfold LIM;omega,λhlt=> ?_,λhge=> ?_⟩
 .have hb:=zvA x (by omega)
  refine ⟨by omega,hlt,λh=>by omega,λ_=>⟨by omega,by omega,by omega,by omega,x+1,show x+1<=26 by omega,by omega,by omega, ?_⟩⟩
  rw [hb,show ((97:Int)+(x:Int)).toNat*1=97+x by omega]
  exact zse x (by omega)
 .have hx26:x=26:=by omega
  subst hx26
  refine ⟨⟨s.length,⟨Nat.le_refl _,λi h1 h2=>by omega⟩,(List.take_of_length_le (Nat.le_refl _)).symm,rfl⟩,λx ⟨hx,hinv⟩=> ?_⟩
  have ht:(s.take x).length=x:=List.length_take_of_le hx
  have hb:=zli (s.take x) (((s.take x).length:Int)-1).toNat
  rw [ht] at hb⊢
  have hlast:0<x->zal (s.take x) ((x:Int)-1).toNat=zal s (x-1):=λh=>by
   rw [show ((x:Int)-1).toNat=x-1 by omega,zkv s x (x-1) (by omega)]
  refine ⟨by unfold LIM;omega,λhlt=>⟨by omega,by omega,by omega,hb.1,hb.2,by omega,λhn=> ?_,λhm=>⟨by omega,by omega,by omega,by omega,x-1,⟨by omega,λi h1 h2=> ?_⟩,by omega, ?_⟩⟩,λhge=> ?_⟩
  .have hl:=hlast (by omega)
   rw [hl] at hn
   refine zpa (by omega) (.inr ⟨by omega,zyU (show x-1<s.length by omega) hn, ?_⟩)
   rw [ht,zkv s x (x-1) (by omega)];exact hn
  .by_cases e:i=x-1
   .subst e;rw [hlast (by omega)] at hm;exact hm
   .exact hinv i (by omega) h2
  .rw [List.drop_zero,List.take_take];congr 1;omega
  .have:x=0:=by omega
   subst this
   exact zpa (by simp) (.inl ⟨rfl,⟨by omega,by omega,λi hi=>hinv i (by omega) hi⟩⟩)
theorem fm4:∀k:Int,1<=k->k<=10->(((zai zck k.toNat).fld 4).asProp↔(k=1\/k=6\/k=7)):=λk h1 h2=>by
 have:k=1\/k=2\/k=3\/k=4\/k=5\/k=6\/k=7\/k=8\/k=9\/k=10:=by omega
 rcases this with rfl|rfl|rfl|rfl|rfl|rfl|rfl|rfl|rfl|rfl<;>first| (show (true=true↔_);simp;done)| (show (false=true↔_);simp;done)
theorem fm3:∀k:Int,1<=k->k<=10->((cNm (zai zck k.toNat)).asProp↔(k=4\/k=5\/k=6\/k=7)):=λk h1 h2=>by
 have:k=1\/k=2\/k=3\/k=4\/k=5\/k=6\/k=7\/k=8\/k=9\/k=10:=by omega
 rcases this with rfl|rfl|rfl|rfl|rfl|rfl|rfl|rfl|rfl|rfl<;>first| (show (true=true↔_);simp;done)| (show (false=true↔_);simp;done)
theorem fm5:∀k:Int,1<=k->k<=10->(((zai zck k.toNat).fld 5).asProp↔k=1):=λk h1 h2=>by
 have:k=1\/k=2\/k=3\/k=4\/k=5\/k=6\/k=7\/k=8\/k=9\/k=10:=by omega
 rcases this with rfl|rfl|rfl|rfl|rfl|rfl|rfl|rfl|rfl|rfl<;>first| (show (true=true↔_);simp;done)| (show (false=true↔_);simp;done)
theorem fm1:∀k:Int,1<=k->k<=10->((zai zck k.toNat).fld 1).asInt=if k=4 then 1 else 0:=λk h1 h2=>by
 have:k=1\/k=2\/k=3\/k=4\/k=5\/k=6\/k=7\/k=8\/k=9\/k=10:=by omega
 rcases this with rfl|rfl|rfl|rfl|rfl|rfl|rfl|rfl|rfl|rfl<;>rfl
theorem fm2:∀k:Int,1<=k->k<=10->((zai zck k.toNat).fld 2).asInt=if k=4 then 2 else if k=10 then 63 else 0:=λk h1 h2=>by
 have:k=1\/k=2\/k=3\/k=4\/k=5\/k=6\/k=7\/k=8\/k=9\/k=10:=by omega
 rcases this with rfl|rfl|rfl|rfl|rfl|rfl|rfl|rfl|rfl|rfl<;>rfl
set_option maxHeartbeats 8000000 in
theorem zAi (k:Int) (a:List UInt8) (la:Prop) (nm:D) (n:Int):zac (ctx (λ_=>none) zaY) 3 168 [.agg [.int .u8 k,.str a,.prop la,.dat 29 nm,.int .i64 n]] (.prop (zay k a la nm.len n)):=by
 rw [zyv]
 simp only [zma,imp_false,Classical.not_not,Bool.false_eq_true,false_iff,Bool.not_false]
 refine ⟨λh1=>⟨λh2=>by omega,λh2=>⟨by omega,by omega, ?_⟩⟩,λh1=>by omega⟩
 rw [fm1 k (by omega) (by omega),fm2 k (by omega) (by omega)]
 simp only [fm3 k (by omega) (by omega),fm4 k (by omega) (by omega),fm5 k (by omega) (by omega)]
 generalize (a= [])=A at*
 generalize nm.len=m
 have hk:k=1\/k=2\/k=3\/k=4\/k=5\/k=6\/k=7\/k=8\/k=9\/k=10:=by omega
 clear h1 h2
 rcases hk with rfl|rfl|rfl|rfl|rfl|rfl|rfl|rfl|rfl|rfl<;>by_cases hA:A<;>by_cases hla:la<;>simp [hA,hla]<;>omega
end Go.Ev

end
