/- Part of the proof. -/
import Derived.Test.YtdojhafbgoimeaaGreatDoorCoreG24
import Derived.Test.YtdojhafbgoimeaaGreatDoorProg
import Derived.Test.YtdojhafbgoimeaaGreatDoorCoreG0
import Derived.Test.YtdojhafbgoimeaaGreatDoorCoreG2

section
open Go.Proofs
namespace Go.Ev
noncomputable section
set_option maxRecDepth 100000
set_option maxHeartbeats 4000000
theorem zxw:∀(c:D),zae (ctx cn0 zbm) 5 (93:FuncId) [V.dat (22:TypeId) c] (V.dat (127:TypeId) (D.list (zaW c c.len)))=(0<=(c.len:Int)/\(c.len:Int)<=(c.len:Int)/\(c.len:Int)<=16777216/\
8*c.len<=281474976710656/\(∃(x:Nat),x.le c.len/\(0=(x:Int)/\True)/\List.replicate c.len D.nil=zaW c x++List.replicate (c.len-x) D.nil/\True)/\∀(x:Nat),x.le c.len->c.len-x<LIM/\((x:
Int)<(c.len:Int)->0<=(x:Int)/\(x:Int)<(c.len:Int)/\True/\True/\0<=(x:Int)/\(x:Int)<(c.len:Int)/\x<(zaW c x++List.replicate (c.len-x) D.nil).length/\fits64 ((x:Int)+1)/\∃(y:
Nat),y.le c.len/\c.len-y<c.len-x/\((x:Int)+1=(y:Int)/\True)/\(zaW c x++List.replicate (c.len-x) D.nil).set x (zgY (cA (el c x)) (zbM (cK (el c x)) (cA (el c x)) (cL (el c x)) (cNm (el c x))
(cN (el c x))))=zaW c y++List.replicate (c.len-y) D.nil/\True)/\(((x:Int)<(c.len:Int)->False)->0+c.len<=(zaW c x++List.replicate (c.len-x) D.nil).length/\D.list (List.take c.len (zaW c x
++List.replicate (c.len-x) D.nil))=D.list (zaW c c.len))):=by intros;kernel_rfl
theorem zxv:∀(ts:D) (a b:GD) (i j:Int) (f:Nat->Int),zae (zbi cm0 cF4 (zoK f)) 3 (92:FuncId) [V.dat (127:TypeId) ts,pV a i,pV b j] (V.tup [V.int IntKind.i64 (zbL f ts.len 0).fst,V.int
IntKind.i64 (zbL f ts.len 0).snd])=((∃(x:Nat),(x<=ts.len/\zbL f (ts.len-x) x=zbL f ts.len 0)/\(0=(x:Int)/\True)/\True)/\∀(x:Nat),x<=ts.len/\zbL f (ts.len-x) x=zbL f ts.len 0->ts.len-
x<LIM/\((x:Int)<(ts.len:Int)->0<=(x:Int)/\(x:Int)<(ts.len:Int)/\(okA (el ts x)/\a.tg.len<=100/\b.tg.len<=100)/\((zlf (el ts x) a b i j=0->False)->(x:Int)=(zbL f ts.len 0).fst/\zlf
(el ts x) a b i j=(zbL f ts.len 0).snd/\True)/\(((zlf (el ts x) a b i j=0->False)->False)->fits64 ((x:Int)+1)/\∃(y:Nat),(y<=ts.len/\zbL f (ts.len-y) y=zbL f ts.len 0)/\ts.len-y<ts.len-x
/\((x:Int)+1=(y:Int)/\True)/\True))/\(((x:Int)<(ts.len:Int)->False)->(-1)=(zbL f ts.len 0).fst/\0=(zbL f ts.len 0).snd/\True)):=by intros;kernel_rfl
theorem zxu:∀(c:D),zae (ctx cc4 zbm) 4 (91:FuncId) [V.dat (22:TypeId) c] (V.prop ((zbl c).snd=0))=(zaE c/\((zbl c).snd=0↔(zbl c).snd=0)):=by intros;kernel_rfl
theorem zxq:∀(c:D),zae (ctx cc4 zbm) 4 (63:FuncId) [V.dat (22:TypeId) c] (V.prop ((zbl c).snd=0))=(zaE c/\((zbl c).snd=0↔(zbl c).snd=0)):=by intros;kernel_rfl
theorem zvt:∀(k:Int) (s:List UInt8) (la:Prop) (nm:D) (n:Int) (g:GD),zae (ctx cc1 (zok nm g.tg)) 4 (205:FuncId) [V.agg [V.int IntKind.u8 k,V.str s,V.prop la,V.dat (29:TypeId) nm,V.int
IntKind.i64 n],gV g] (V.prop (naP k nm n g))=((k=4->(g.sd=n↔naP k nm n g))/\((k=4->False)->(k=5->(g.ho↔naP k nm n g))/\((k=5->False)->(k=7->nm.len<=100/\(zbn nm g.ct↔naP k nm n g))/\((k
=7->False)->(∃(x:Nat),(x<=g.tg.len/\∀(i:Nat),i<x->zbn nm (sAt g.tg i)->False)/\(0=(x:Int)/\True)/\True)/\∀(x:Nat),(x<=g.tg.len/\∀(i:Nat),i<x->zbn nm (sAt g.tg i)->False)->
g.tg.len-x<LIM/\((x:Int)<(g.tg.len:Int)->0<=(x:Int)/\(x:Int)<(g.tg.len:Int)/\nm.len<=100/\(zbn nm (sAt g.tg x)->(true=true↔naP k nm n g))/\((zbn nm (sAt g.tg x)->False)->fits64 ((x:
Int)+1)/\∃(y:Nat),(y<=g.tg.len/\∀(i:Nat),i<y->zbn nm (sAt g.tg i)->False)/\g.tg.len-y<g.tg.len-x/\((x:Int)+1=(y:Int)/\True)/\True))/\(((x:Int)<(g.tg.len:Int)->False)->(false=
true↔naP k nm n g)))))):=by intros;kernel_rfl
theorem zvc:∀(k:Int) (s:List UInt8) (la:Prop) (nm:D) (n:Int) (a b:GD) (i j:Int),zae (ctx cn1 zbm) 4 (156:FuncId) [V.agg [V.int IntKind.u8 k,V.str s,V.prop la,V.dat (29:TypeId) nm,V.int
IntKind.i64 n],gV a,gV b,V.int IntKind.i64 i,V.int IntKind.i64 j] (V.prop (zdd k la nm n a b i j))=((k=1->nm.len<=100/\nm.len<=100/\((↑(idx nm a.rk):Int)<(↑(idx nm b.rk):Int)↔zdd k la nm n a b i
j))/\((k=1->False)->(k=2->((a.si=0->False)->((b.si=0->False)->(a.si<b.si↔zdd k la nm n a b i j))/\(b.si=0->(true=true↔zdd k la nm n a b i j)))/\(((a.si=0->False)->False)->(false=true
↔zdd k la nm n a b i j)))/\((k=2->False)->(k=3->((a.si=0->False)->((b.si=0->False)->(b.si<a.si↔zdd k la nm n a b i j))/\(b.si=0->(true=true↔zdd k la nm n a b i j)))/\(((a.si=0->False)
->False)->(false=true↔zdd k la nm n a b i j)))/\((k=3->False)->(k=8->(sLt a.nm b.nm↔zdd k la nm n a b i j))/\((k=8->False)->(k=9->(0<=i->(i<=63->(0<=j->(j<=63->(i<j↔zdd k la nm n a b
i j))/\((j<=63->False)->(false=true↔zdd k la nm n a b i j)))/\((0<=j->False)->(false=true↔zdd k la nm n a b i j)))/\((i<=63->False)->(false=true↔zdd k la nm n a b i j)))/\((0<=i->False)->
(false=true↔zdd k la nm n a b i j)))/\((k=9->False)->(k=10->(0<=i->(i<=63->(0<=j->(j<=63->fits64 (n+n)/\fits64 (n+n+1)/\fits64 (i*(n+n+1))/\fits64 (i*(n+n+1)+n)/\((64:Int)=
0->False)/\fits64 (n+n)/\fits64 (n+n+1)/\fits64 (j*(n+n+1))/\fits64 (j*(n+n+1)+n)/\((64:Int)=0->False)/\((i*(n+n+1)+n).tmod 64<(j*(n+n+1)+n).tmod 64↔zdd k la nm n a b
i j))/\((j<=63->False)->(false=true↔zdd k la nm n a b i j)))/\((0<=j->False)->(false=true↔zdd k la nm n a b i j)))/\((i<=63->False)->(false=true↔zdd k la nm n a b i j)))/\((0<=i->False)->
(false=true↔zdd k la nm n a b i j)))/\((k=10->False)->(la->(nm.len<=100/\a.tg.len<=100)/\((naP k nm n a->False)->(nm.len<=100/\b.tg.len<=100)/\(naP k nm n b↔zdd k la nm n a b i j))/\(((naP k nm n
a->False)->False)->(false=true↔zdd k la nm n a b i j)))/\((la->False)->(nm.len<=100/\a.tg.len<=100)/\(naP k nm n a->(nm.len<=100/\b.tg.len<=100)/\(naP k nm n b->False↔zdd k la nm n a b i j))/\
((naP k nm n a->False)->(false=true↔zdd k la nm n a b i j)))))))))):=by intros;kernel_rfl
theorem zxk:∀(c:D) (a b:GD) (i j:Int),zae (ctx cn1 zbm) 4 (31:FuncId) [V.dat (22:TypeId) c,gV a,gV b,V.int IntKind.i64 i,V.int IntKind.i64 j] (V.tup [V.int IntKind.i64 (zcd c a b i j).fst,V.int
IntKind.i64 (zcd c a b i j).snd])=(zaE c/\(((zbl c).snd=0->False)->0=(zcd c a b i j).fst/\0=(zcd c a b i j).snd/\True)/\((((zbl c).snd=0->False)->False)->c.len<=100/\(((zaW c c.len).length
<=100/\∀(k:Nat),k<(zaW c c.len).length->okA (el (D.list (zaW c c.len)) k))/\a.tg.len<=100/\b.tg.len<=100)/\(zbL (λ(k:Nat)=>zlf (el (D.list (zaW c c.len)) k) a b i j) (zaW c c.len).length
0).fst=(zcd c a b i j).fst/\(zbL (λ(k:Nat)=>zlf (el (D.list (zaW c c.len)) k) a b i j) (zaW c c.len).length 0).snd=(zcd c a b i j).snd/\True)):=by intros;kernel_rfl
theorem zxl:∀(c:D) (a b:GD) (i j:Int),zae (ctx cn2 zbm) 4 (32:FuncId) [V.dat (22:TypeId) c,gV a,gV b,V.int IntKind.i64 i,V.int IntKind.i64 j] (V.int IntKind.i64 (zcd c a b i j).snd)=((zaE c
/\a.tg.len<=100/\b.tg.len<=100)/\(zcd c a b i j).snd=(zcd c a b i j).snd):=by intros;kernel_rfl
theorem zva:∀(l:D),zae (ctx (λ_=>none) zbm) 4 (153:FuncId) [V.dat (29:TypeId) l] (V.dat (29:TypeId) (zhv l))=(((∃(x:Nat),x=0/\((0:Int)=0/\True/\True)/\True)\/∃(x:Nat),(0<x
/\x<=l.len)/\(0=(x:Int)/\False/\True)/\False/\True)/\(∀(x:Nat),x=0->l.len-x<LIM/\(0<(l.len:Int)->(0:Int)<=0/\0<(l.len:Int)/\0+1<= [D.str (sAt l 0)].length/\(1:Nat)<=
8796093022208/\fits64 (0+1)/\((∃(y:Nat),y=0/\l.len-y<l.len-x/\((0:Int)+1=0/\False/\True)/\True)\/∃(y:Nat),(0<y/\y<=l.len)/\l.len-y<l.len-x/\(0+1=(y:Int)/\((0:Nat)=0
/\1=y/\True)/\True)/\List.take 1 [D.str (sAt l 0)]=zcx l y/\True))/\((0<(l.len:Int)->False)->D.nil=zhv l))/\∀(x:Nat),0<x/\x<=l.len->l.len-x<LIM/\((x:Int)<(l.len:Int)->0<=(x:
Int)/\(x:Int)<(l.len:Int)/\0+1<= [D.str (sAt l x)].length/\0+x<=(zcx l x).length/\x+1<=8796093022208/\fits64 ((x:Int)+1)/\((∃(y:Nat),y=0/\l.len-y<l.len-x/\((x:Int)+1=0/\
False/\True)/\True)\/∃(y:Nat),(0<y/\y<=l.len)/\l.len-y<l.len-x/\((x:Int)+1=(y:Int)/\((0:Nat)=0/\x+1=y/\True)/\True)/\List.take x (zcx l x)++List.take 1 [D.str (sAt l x)]=
zcx l y/\True))/\(((x:Int)<(l.len:Int)->False)->0+x<=(zcx l x).length/\D.list (List.take x (zcx l x))=zhv l)):=by intros;kernel_rfl
theorem zu1:∀(g:GD),zae (ctx cn1 zbm) 4 (116:FuncId) [gV g] (gV (zgP g))=(g.tg.len<=8796093022208/\g.nm=(zgP g).nm/\g.rk=(zgP g).rk/\g.ct=(zgP g).ct/\g.si=(zgP g).si/\g.sd=
(zgP g).sd/\g.di=(zgP g).di/\(g.ho↔g.ho)/\(g.ac↔g.ac)/\zhv g.tg=(zgP g).tg/\True):=by intros;kernel_rfl
theorem zvd:∀(a b:D),zae (ctx cc1 zbm) 4 (157:FuncId) [V.dat (29:TypeId) a,V.dat (29:TypeId) b] (V.prop (eqS a b))=((((a.len:Int)=(b.len:Int)->False)->(false=true↔eqS a b))/\((((a.len:
Int)=(b.len:Int)->False)->False)->(∃(x:Nat),(x<=a.len/\∀(i:Nat),i<x->sAt a i=sAt b i)/\(0=(x:Int)/\True)/\True)/\∀(x:Nat),(x<=a.len/\∀(i:Nat),i<x->sAt a i=sAt b i)->a.len-x
<LIM/\((x:Int)<(a.len:Int)->0<=(x:Int)/\(x:Int)<(a.len:Int)/\0<=(x:Int)/\(x:Int)<(b.len:Int)/\((sAt a x=sAt b x->False)->(false=true↔eqS a b))/\(((sAt a x=sAt b x->False)->
False)->fits64 ((x:Int)+1)/\∃(y:Nat),(y<=a.len/\∀(i:Nat),i<y->sAt a i=sAt b i)/\a.len-y<a.len-x/\((x:Int)+1=(y:Int)/\True)/\True))/\(((x:Int)<(a.len:Int)->False)->(true=
true↔eqS a b)))):=by intros;kernel_rfl
theorem zu4:∀(a b:GD),zae (ctx cn1 zbm) 4 (125:FuncId) [gV a,gV b] (V.prop (zfx a b))=((a.nm=b.nm->(a.rk=b.rk->(a.ct=b.ct->(a.si=b.si->(a.sd=b.sd->(a.di=b.di->((a.ho↔b.ho)->((a.ac
↔b.ac)->a.tg.len<=8796093022208/\(eqS a.tg b.tg↔zfx a b))/\(((a.ac↔b.ac)->False)->(false=true↔zfx a b)))/\(((a.ho↔b.ho)->False)->(false=true↔zfx a b)))/\((a.di=b.di->False)->(false=
true↔zfx a b)))/\((a.sd=b.sd->False)->(false=true↔zfx a b)))/\((a.si=b.si->False)->(false=true↔zfx a b)))/\((a.ct=b.ct->False)->(false=true↔zfx a b)))/\((a.rk=b.rk->False)->
(false=true↔zfx a b)))/\((a.nm=b.nm->False)->(false=true↔zfx a b))):=by intros;kernel_rfl
theorem zxo:∀(g:GD),zae (ctx (λ_=>none) zbm) 6 (58:FuncId) [gV g] (V.prop ¬zq3 (gD g))=(((40<max (max (g.nm.length:Int) (g.rk.length:Int)) (g.ct.length:Int)->False)->((10<(g.tg.len:
Int)->False)->(∃(x:Nat),(x<=g.tg.len/\∀(i:Nat),i<x->(sAt g.tg i).length<=40)/\(0=(x:Int)/\True)/\True)/\∀(x:Nat),(x<=g.tg.len/\∀(i:Nat),i<x->(sAt g.tg i).length<=40)->g.tg.len-x<
LIM/\((x:Int)<(g.tg.len:Int)->0<=(x:Int)/\(x:Int)<(g.tg.len:Int)/\(40<(↑(sAt g.tg x).length:Int)->(0<=(x:Int)↔zq3 (gD g)->False))/\((40<(↑(sAt g.tg x).length:Int)->False)->fits64 ((x
:Int)+1)/\∃(y:Nat),(y<=g.tg.len/\∀(i:Nat),i<y->(sAt g.tg i).length<=40)/\g.tg.len-y<g.tg.len-x/\((x:Int)+1=(y:Int)/\True)/\True))/\(((x:Int)<(g.tg.len:Int)->False)->(false=
true↔zq3 (gD g)->False)))/\(10<(g.tg.len:Int)->(true=true↔zq3 (gD g)->False)))/\(40<max (max (g.nm.length:Int) (g.rk.length:Int)) (g.ct.length:Int)->(true=true↔zq3 (gD g)->False))):=by intros;kernel_rfl
theorem nf {p:Prop} (h:p->False):(false=true↔p):=⟨λe=>(by cases e),λq=>(h q).elim⟩
theorem nt {p:Prop} (h:p):(true=true↔p):=⟨λ_=>h,λ_=>rfl⟩
theorem s93 (c:D) (h:c.len<=100):zae (ctx cn0 zbm) 5 93 [.dat 22 c] (.dat 127 (.list (zaW c c.len))):=by
 rw [zxw]
 refine ⟨by omega,Int.le_refl _,by omega,by omega,⟨0,Nat.zero_le _,⟨rfl,trivial⟩,rfl,trivial⟩,λx hx=>⟨zgj h,λk=>⟨by omega,k,trivial,trivial,by omega,k, ?_,by omega,x+1, ?_,by omega,⟨by omega,trivial⟩,zpg (by omega),trivial⟩,λk=> ?_⟩⟩
 .rw [List.length_append,zbD,List.length_replicate];omega
 .show x+1<=c.len;omega
 .have e:=zgK hx k
  subst e
  rw [Nat.sub_self,List.replicate_zero,List.append_nil,zbD]
  exact ⟨by omega,by rw [List.take_of_length_le (by rw [zbD];exact Nat.le_refl _)]⟩
theorem s92 (ts:D) (a b:GD) (i j:Int) (h:ts.len<=100) (ho:∀k,k<ts.len->okA (el ts k)) (ha:a.tg.len<=100) (hb:b.tg.len<=100):
  zae (zbi cm0 cF4 (zoK (λk=>zlf (el ts k) a b i j))) 3 92 [.dat 127 ts,pV a i,pV b j] (.tup [.int .i64 (zbL (λk=>zlf (el ts k) a b i j) ts.len 0).1,.int .i64 (zbL (λk=>zlf (el ts k) a b i j) ts.len 0).2]):=by
 rw [zxv]
 refine ⟨⟨0,⟨Nat.zero_le _,rfl⟩,⟨rfl,trivial⟩,trivial⟩,λx hx=>⟨zgj h,λk=>⟨by omega,k,⟨ho x (by omega),ha,hb⟩,λe=> ?_,λe=>⟨by omega,x+1,⟨by omega,(zlp (by omega) hx.2).2 (Classical.byContradiction e)⟩,by omega,⟨by omega,trivial⟩,trivial⟩⟩,λk=> ?_⟩⟩
 .rw [(zlp (by omega) hx.2).1 e];exact ⟨rfl,rfl,trivial⟩
 .rw [zsF (zgK hx.1 k) hx.2];exact ⟨rfl,rfl,trivial⟩
theorem s91 (c:D) (h:zaE c):zae (ctx cc4 zbm) 4 91 [.dat 22 c] (.prop ((zbl c).2=0)):=by rw [zxu];exact ⟨h,Iff.rfl⟩
theorem s63 (c:D) (h:zaE c):zae (ctx cc4 zbm) 4 63 [.dat 22 c] (.prop ((zbl c).2=0)):=by rw [zxq];exact ⟨h,Iff.rfl⟩
theorem zww (k:Int) (s:List UInt8) (la:Prop) (nm:D) (n:Int) (g:GD) (h1:nm.len<=100) (h2:g.tg.len<=100):zae (ctx cc1 (zok nm g.tg)) 4 205 [.agg [.int .u8 k,.str s,.prop la,.dat 29 nm,.int .i64 n],gV g] (.prop (naP k nm n g)):=by
 rw [zvt]
 refine ⟨λh=>by rw [zcZ,h];simp,λh4=>⟨λh=>by rw [zcZ,h];simp,λh5=>⟨λh=>⟨h1,by rw [zcZ,h];simp⟩,λh7=>⟨⟨0,⟨Nat.zero_le _,λi hi=>absurd hi (Nat.not_lt_zero _)⟩,⟨rfl,trivial⟩,trivial⟩,λx hx=>⟨zgj h2,
  λq=>⟨by omega,q,h1,λe=>nt (zcZ.2 (.inr (.inr (.inr ⟨⟨h4,h5,h7⟩,⟨x,by omega,e⟩⟩)))),λe=>⟨by omega,x+1,⟨by omega,λi hi=> ?_⟩,by omega,⟨by omega,trivial⟩,trivial⟩⟩,λq=>nf λe=> ?_⟩⟩⟩⟩⟩
 .rcases Nat.lt_or_ge i x with w|w
  .exact hx.2 i w
  .have:i=x:=by omega
   subst this;exact e
 .rcases zcZ.1 e with w|w|w|w
  .exact h4 w.1
  .exact h5 w.1
  .exact h7 w.1
  .obtain ⟨i,u,v⟩:=w.2.out
   have:=zgK hx.1 q
   exact hx.2 i (by omega) v
theorem zkZ {p n:Int} (h:0<=p) (h':p<=63) (h1:0<=n) (h2:n<=63):0<=p*(n+n+1)/\p*(n+n+1)<=63*127:=
 ⟨Int.mul_nonneg h (by omega),Int.mul_le_mul (by omega) (by omega) (by omega) (by omega)⟩
theorem zwf (k:Int) (s:List UInt8) (la:Prop) (nm:D) (n:Int) (a b:GD) (i j:Int) (h1:nm.len<=100) (ha:a.tg.len<=100) (hb:b.tg.len<=100) (hn:k=10->0<=n/\n<=63):
  zae (ctx cn1 zbm) 4 156 [.agg [.int .u8 k,.str s,.prop la,.dat 29 nm,.int .i64 n],gV a,gV b,.int .i64 i,.int .i64 j] (.prop (zdd k la nm n a b i j)):=by
 rw [zvc]
 refine ⟨λh=>⟨h1,h1,by rw [zai,h];simp⟩,λk1=>⟨λh=>⟨λx=>⟨λy=> ?_,λy=>nt ?_⟩,λx=>nf λq=> ?_⟩,λk2=>⟨λh=>⟨λx=>⟨λy=> ?_,λy=>nt ?_⟩,λx=>nf λq=> ?_⟩,λk3=>⟨λh=>by rw [zai,h];simp,
  λk8=>⟨λh=>⟨λx=>⟨λy=>⟨λz=>⟨λw=> ?_,λw=>nf λq=> ?_⟩,λz=>nf λq=> ?_⟩,λy=>nf λq=> ?_⟩,λx=>nf λq=> ?_⟩,
  λk9=>⟨λh=>⟨λx=>⟨λy=>⟨λz=>⟨λw=> ?_,λw=>nf λq=> ?_⟩,λz=>nf λq=> ?_⟩,λy=>nf λq=> ?_⟩,λx=>nf λq=> ?_⟩,
  λk10=>⟨λh=>⟨⟨h1,ha⟩,λx=>⟨⟨h1,hb⟩, ?_⟩,λx=>nf λq=> ?_⟩,λh=>⟨⟨h1,ha⟩,λx=>⟨⟨h1,hb⟩, ?_⟩,λx=>nf λq=> ?_⟩⟩⟩⟩⟩⟩⟩⟩
 .have x:¬a.si=0:=x
  have y:¬b.si=0:=y
  rw [zai,h];simp [x,y]
 .have x:¬a.si=0:=x
  rw [zai,h];simp [x,y]
 .have x:a.si=0:=Classical.byContradiction x
  rw [zai,h] at q;simp [x] at q
 .have x:¬a.si=0:=x
  have y:¬b.si=0:=y
  rw [zai,h];simp [x,y]
 .have x:¬a.si=0:=x
  rw [zai,h];simp [x,y]
 .have x:a.si=0:=Classical.byContradiction x
  rw [zai,h] at q;simp [x] at q
 .rw [zai,h];simp [zcG,x,y,z,w]
 .rw [zai,h] at q;simp [zcG] at q;exact w q.2.1.2
 .rw [zai,h] at q;simp [zcG] at q;exact z q.2.1.1
 .rw [zai,h] at q;simp [zcG] at q;exact y q.1.2
 .rw [zai,h] at q;simp [zcG] at q;exact x q.1.1
 .obtain ⟨n0,n1⟩:=hn h
  obtain ⟨i0,i1⟩:=zkZ x y n0 n1
  obtain ⟨j0,j1⟩:=zkZ z w n0 n1
  refine ⟨by omega,by omega,by omega,by omega,λe=>absurd e (by decide),by omega,by omega,by omega,by omega,λe=>absurd e (by decide), ?_⟩
  rw [zq8,zq8,zai,h];simp [zcG,x,y,z,w]
 .rw [zai,h] at q;simp [zcG] at q;exact w q.2.1.2
 .rw [zai,h] at q;simp [zcG] at q;exact z q.2.1.1
 .rw [zai,h] at q;simp [zcG] at q;exact y q.1.2
 .rw [zai,h] at q;simp [zcG] at q;exact x q.1.1
 .have x:¬naP k nm n a:=x
  have k1:¬k=1:=k1
  have k2:¬k=2:=k2
  have k3:¬k=3:=k3
  have k8:¬k=8:=k8
  have k9:¬k=9:=k9
  have k10:¬k=10:=k10
  rw [zai];simp [h,x,k1,k2,k3,k8,k9,k10]
 .have x:naP k nm n a:=Classical.byContradiction x
  have k1:¬k=1:=k1
  have k2:¬k=2:=k2
  have k3:¬k=3:=k3
  have k8:¬k=8:=k8
  have k9:¬k=9:=k9
  have k10:¬k=10:=k10
  rw [zai] at q;simp [h,x,k1,k2,k3,k8,k9,k10] at q
 .have h:¬la:=h
  have k1:¬k=1:=k1
  have k2:¬k=2:=k2
  have k3:¬k=3:=k3
  have k8:¬k=8:=k8
  have k9:¬k=9:=k9
  have k10:¬k=10:=k10
  rw [zai];simp [h,x,k1,k2,k3,k8,k9,k10]
 .have h:¬la:=h
  have x:¬naP k nm n a:=x
  have k1:¬k=1:=k1
  have k2:¬k=2:=k2
  have k3:¬k=3:=k3
  have k8:¬k=8:=k8
  have k9:¬k=9:=k9
  have k10:¬k=10:=k10
  rw [zai] at q;simp [h,x,k1,k2,k3,k8,k9,k10] at q
theorem s31 (c:D) (a b:GD) (i j:Int) (hs:zaE c) (ha:a.tg.len<=100) (hb:b.tg.len<=100):zae (ctx cn1 zbm) 4 31 [.dat 22 c,gV a,gV b,.int .i64 i,.int .i64 j] (.tup [.int .i64 (zcd c a b i j).1,.int .i64 (zcd c a b i j).2]):=by
 have hlen:=hs.out.1
 rw [zxk]
 refine ⟨hs,λh=>by unfold zcd;rw [if_neg h];exact ⟨rfl,rfl,trivial⟩,λh=> ?_⟩
 have h:(zbl c).2=0:=Classical.byContradiction h
 have key:zbL (λk=>zlf (el (.list (zaW c c.len)) k) a b i j) (zaW c c.len).length 0=zcd c a b i j:=by
  unfold zcd
  rw [if_pos h,zbD]
  exact zhg (λk hk=>by rw [zlD hk,ztK h hk]) _ _ (by omega)
 exact ⟨hlen,⟨⟨by rw [zbD];exact hlen,λk hk=>by rw [zbD] at hk;rw [zlD hk];exact zqt hs h hk⟩,ha,hb⟩,by rw [key],by rw [key],trivial⟩
theorem s32 (c:D) (a b:GD) (i j:Int) (hs:zaE c) (ha:a.tg.len<=100) (hb:b.tg.len<=100):zae (ctx cn2 zbm) 4 32 [.dat 22 c,gV a,gV b,.int .i64 i,.int .i64 j] (.int .i64 (zcd c a b i j).2):=by
 rw [zxl];exact ⟨⟨hs,ha,hb⟩,rfl⟩
theorem zcL (l:D) (n:Nat):(zcx l n).length=n:=by simp [zcx]
theorem zjE (l:D) (n:Nat):zcx l (n+1)=zcx l n++ [.str (sAt l n)]:=by unfold zcx;rw [List.range_succ,List.map_append];rfl
theorem zwd (l:D) (hl:l.len<=8796093022208):zae (ctx (λ_=>none) zbm) 4 153 [.dat 29 l] (.dat 29 (zhv l)):=by
 rw [zva]
 refine ⟨.inl ⟨0,rfl,⟨rfl,trivial,trivial⟩,trivial⟩,λx hx=>⟨zoj hl,λh=>⟨by omega,h,by simp,by decide,by omega,.inr ⟨1,⟨by omega,by omega⟩,by omega,⟨by omega,⟨rfl,rfl,trivial⟩,trivial⟩,rfl,trivial⟩⟩,λh=> ?_⟩,
  λx hx=>⟨zoj hl,λh=>⟨by omega,h,by simp,by rw [zcL];omega,by omega,by omega,.inr ⟨x+1,⟨by omega,by omega⟩,by omega,⟨by omega,⟨rfl,rfl,trivial⟩,trivial⟩, ?_,trivial⟩⟩,λh=>⟨by rw [zcL];omega, ?_⟩⟩⟩
 .have h:¬(0:Int)<l.len:=h
  have:l.len=0:=by omega
  unfold zhv;rw [this];rfl
 .rw [zjE,List.take_of_length_le (by rw [zcL];exact Nat.le_refl _)];rfl
 .have e:=zgK hx.2 h
  subst e
  rw [List.take_of_length_le (by rw [zcL];exact Nat.le_refl _)]
  unfold zhv
  cases hc:zcx l l.len with
  |nil=>have:=zcL l l.len;rw [hc] at this;simp at this;omega
  |cons d r=>rfl
theorem zv4 (g:GD) (h:g.tg.len<=8796093022208):zae (ctx cn1 zbm) 4 116 [gV g] (gV (zgP g)):=by
 rw [zu1];exact ⟨h,rfl,rfl,rfl,rfl,rfl,rfl,Iff.rfl,Iff.rfl,rfl,trivial⟩
theorem zwg (a b:D) (h:a.len<=8796093022208):zae (ctx cc1 zbm) 4 157 [.dat 29 a,.dat 29 b] (.prop (eqS a b)):=by
 rw [zvd]
 refine ⟨λq=>nf λe=>q (by rw [e.out.1]),λq=> ?_⟩
 have q:a.len=b.len:=by have:=Classical.byContradiction q;omega
 refine ⟨⟨0,⟨Nat.zero_le _,λi hi=>absurd hi (Nat.not_lt_zero _)⟩,⟨rfl,trivial⟩,trivial⟩,λx hx=>⟨zoj h,λk=>⟨by omega,k,by omega,by omega,λe=>nf λw=>e (w.out.2 x (by omega)),λe=>⟨by omega,x+1,⟨by omega,λi hi=> ?_⟩,by omega,⟨by omega,trivial⟩,trivial⟩⟩,λk=>nt ⟨q,λi hi=>hx.2 i (by rw [zgK hx.1 k];exact hi)⟩⟩⟩
 rcases Nat.lt_or_ge i x with w|w
 .exact hx.2 i w
 .have:i=x:=by omega
  subst this;exact Classical.byContradiction e
theorem zv7 (a b:GD) (h:a.tg.len<=8796093022208):zae (ctx cn1 zbm) 4 125 [gV a,gV b] (.prop (zfx a b)):=by
 rw [zu4]
 exact ⟨λe1=>⟨λe2=>⟨λe3=>⟨λe4=>⟨λe5=>⟨λe6=>⟨λe7=>⟨λe8=>⟨h,⟨λq=>⟨e1,e2,e3,e4,e5,e6,e7,e8,q⟩,λq=>q.out.2.2.2.2.2.2.2.2⟩⟩,λw=>nf λq=>w q.out.2.2.2.2.2.2.2.1⟩,λw=>nf λq=>w q.out.2.2.2.2.2.2.1⟩,λw=>nf λq=>w q.out.2.2.2.2.2.1⟩,
  λw=>nf λq=>w q.out.2.2.2.2.1⟩,λw=>nf λq=>w q.out.2.2.2.1⟩,λw=>nf λq=>w q.out.2.2.1⟩,λw=>nf λq=>w q.out.2.1⟩,λw=>nf λq=>w q.out.1⟩
theorem s58 (g:GD):zae (ctx (λ_=>none) zbm) 6 58 [gV g] (.prop (¬zq3 (gD g))):=by
 rw [zxo]
 refine ⟨λh1=>⟨λh2=> ?_,λh2=>nt λq=> ?_⟩,λh1=>nt λq=> ?_⟩
 .have h1:¬(40:Int)<max (max (↑g.nm.length) (↑g.rk.length)) (↑g.ct.length):=h1
  have h2:¬(10:Int)<g.tg.len:=h2
  refine ⟨⟨0,⟨Nat.zero_le _,λi hi=>absurd hi (Nat.not_lt_zero _)⟩,⟨rfl,trivial⟩,trivial⟩,λx hx=>⟨zgj (by omega),λk=>⟨by omega,k,λe=>⟨λ_ q=> ?_,λ_=>by omega⟩,λe=>⟨by omega,x+1,⟨by omega,λi hi=> ?_⟩,by omega,⟨by omega,trivial⟩,trivial⟩⟩,λk=>⟨λe=>(by cases e),λq=>(q ⟨?_, ?_,⟨λi hi=> ?_⟩⟩).elim⟩⟩⟩
  .have:=q.out.2.2.out x (by show x<g.tg.len;omega)
   have this:(sAt g.tg x).length<=40:=this
   omega
  .rcases Nat.lt_or_ge i x with w|w
   .exact hx.2 i w
   .have:i=x:=by omega
    subst this
    have e:¬(40:Int)<(sAt g.tg i).length:=e
    omega
  .show max (max (g.nm.length:Int) g.rk.length) g.ct.length<=40;omega
  .show g.tg.len<=10;omega
  .exact hx.2 i (by rw [zgK hx.1 k];exact hi)
 .have:g.tg.len<=10:=q.out.2.1
  omega
 .have:max (max (g.nm.length:Int) g.rk.length) g.ct.length<=40:=q.out.1
  omega
end
end Go.Ev

end

section
open Go.Proofs
namespace Go.Ev
noncomputable section
def I (n:Nat):Value:= .int .i64 (Int.ofNat n)
def U (n:Nat):Value:= .int .u8 (Int.ofNat n)
def Bw1:ABk:=ABk.cells [.string ⟨#[]⟩,I 0,I 0,.bool false,.bool false,.bool false,.string ⟨#[114,97,110,107]⟩,I 0,I 0,.bool false,.bool true,.bool true,.string ⟨#[101,108,100,101,114]⟩,I 0,I 0,.bool false,.bool false,.bool false,.string ⟨#[121,111,117,116,104]⟩,I 0,I 0,.bool false,.bool false,.bool false,.string ⟨#[115,105,100,101]⟩,I 1,I 2,.bool true,.bool false,.bool false,.string ⟨#[104,111,115,116]⟩,I 0,I 0,.bool true,.bool false,.bool false,.string ⟨#[116,111,110,103,117,101]⟩,I 0,I 0,.bool true,.bool true,.bool false,.string ⟨#[99,111,117,114,116]⟩,I 0,I 0,.bool true,.bool true,.bool false,.string ⟨#[110,97,109,101]⟩,I 0,I 0,.bool false,.bool false,.bool false,.string ⟨#[108,105,115,116]⟩,I 0,I 0,.bool false,.bool false,.bool false,.string ⟨#[108,111,116]⟩,I 0,I 63,.bool false,.bool false,.bool false] 196 0 none true
def Bw2:ABk:=ABk.cells [.int .u64 (Int.ofNat 1),.int .u64 (Int.ofNat 10),.int .u64 (Int.ofNat 100),.int .u64 (Int.ofNat 1000),.int .u64 (Int.ofNat 10000),.int .u64 (Int.ofNat 100000),.int .u64 (Int.ofNat 1000000),.int .u64 (Int.ofNat 10000000),.int .u64 (Int.ofNat 100000000),.int .u64 (Int.ofNat 1000000000),.int .u64 (Int.ofNat 10000000000),.int .u64 (Int.ofNat 100000000000),.int .u64 (Int.ofNat 1000000000000),.int .u64 (Int.ofNat 10000000000000),.int .u64 (Int.ofNat 100000000000000),.int .u64 (Int.ofNat 1000000000000000),.int .u64 (Int.ofNat 10000000000000000),.int .u64 (Int.ofNat 100000000000000000),.int .u64 (Int.ofNat 1000000000000000000),.int .u64 (Int.ofNat 10000000000000000000)] 270 0 none true
def Bw3:ABk:=ABk.cells [.string ⟨#[97,100,97]⟩,.string ⟨#[99,111,117,110,116]⟩,.string ⟨#[]⟩,I 0,I 2,.string ⟨#[]⟩,.bool false,.bool false,.slice none 0 0,.string ⟨#[98,101,97]⟩,.string ⟨#[100,117,107,101]⟩,.string ⟨#[]⟩,I 1700,I 0,.string ⟨#[]⟩,.bool false,.bool false,.slice none 0 0,.string ⟨#[99,121,114]⟩,.string ⟨#[100,117,107,101]⟩,.string ⟨#[]⟩,I 1650,I 0,.string ⟨#[]⟩,.bool false,.bool false,.slice none 0 0,.string ⟨#[100,97,110]⟩,.string ⟨#[]⟩,.string ⟨#[]⟩,I 0,I 1,.string ⟨#[]⟩,.bool false,.bool false,.slice none 0 0,.string ⟨#[101,118,97]⟩,.string ⟨#[99,111,117,110,116]⟩,.string ⟨#[]⟩,I 0,I 1,.string ⟨#[]⟩,.bool false,.bool false,.slice none 0 0] 53 9 none false
def Bw4:ABk:=ABk.cells [U 1,.string ⟨#[]⟩,.bool false,.slice (some ⟨9,0,none⟩) 2 2,I 0,U 2,.string ⟨#[100,117,107,101]⟩,.bool false,.slice none 0 0,I 0,U 4,.string ⟨#[]⟩,.bool false,.slice none 0 0,I 1,U 8,.string ⟨#[]⟩,.bool false,.slice none 0 0,I 0] 69 5 none false
def Bw5:ABk:=ABk.cells [.string ⟨#[100,117,107,101]⟩,.string ⟨#[99,111,117,110,116]⟩] 9 1 none false
def Bw6:ABk:=ABk.cells [U 1,.string ⟨#[]⟩,.bool false,.slice (some ⟨231,0,none⟩) 2 18446744073709551616,I 0,U 2,.string ⟨#[100,117,107,101]⟩,.bool false,.slice none 0 0,I 0,U 4,.string ⟨#[]⟩,.bool false,.slice none 0 0,I 1,U 8,.string ⟨#[]⟩,.bool false,.slice none 0 0,I 0] 69 5 (some 240) false
def Bw7:ABk:=ABk.cells [I 2,I 1,I 0,I 3,I 2] 3 1 none false
def Bw8:ABk:=ABk.cells [I 2,I 1,I 4,I 0,I 3] 3 1 (some 96) false
def Bw9:ABk:=ABk.cells [U 1,.string ⟨#[]⟩,.bool false,.slice (some ⟨231,0,none⟩) 2 18446744073709551616,I 0,U 2,.string ⟨#[100,117,107,101]⟩,.bool false,.slice none 0 0,I 0,U 4,.string ⟨#[]⟩,.bool false,.slice none 0 0,I 1] 69 5 (some 243) false
def zsW:ABk:=ABk.cells [I 2,I 1,I 4,I 0] 3 1 (some 97) false
def zue:ABk:=ABk.cells [I 2,I 1,I 4,I 0,I 3] 3 1 none false
def zuf:ABk:=ABk.cells [I 0,I 1,I 2] 3 1 (some 148) false
def zug:ABk:=ABk.cells [I 0,I 1] 3 1 (some 150) false
def zuh:ABk:=ABk.cells [I 0,I 1,I 2] 3 1 none false
def sL (b o n c:Nat):Value:= .slice (some ⟨b,o,none⟩) n c
def tN {α:Type} (x:α):T α:=T.leaf.node (some x) T.leaf
def tE {α:Type}:T α:=T.leaf
def zmE:Value:= .tuple {toList:= [sL 97 0 5 18446744073709551616,I 0]}
def zkw:Value:= .tuple {toList:= [sL 10 0 4 4,sL 11 0 5 5]}
def zpr:Value:= .tuple {toList:= [.slice none 0 0,I 32]}
def zqT:Value:= .tuple {toList:= [I 2,I 1]}
def ztY:Value:= .tuple {toList:= [sL 243 0 4 18446744073709551616,I 0,I 0]}
def s0:zab×zaa:=(⟨105,tN (.bool false),[]⟩,⟨tE.node (some Bw1) (tE.node none (tN Bw2)),9,9⟩)
def s1:zab×zaa:=(⟨105,((((tN (sL 11 0 5 5)).node none tE).node none tE).node (some (sL 10 0 4 4)) (tE.node none (tN zkw))).node (some (.bool false)) ((tE.node none (tN zkw)).node (some (sL 11
0 5 5)) (tE.node none (tN (sL 10 0 4 4)))),[]⟩,⟨((tE.node none (tN Bw3)).node none ((tN Bw5).node none tE)).node (some Bw1) (tE.node none ((tN Bw4).node (some Bw2) tE)),12,9⟩)
def s2:zab×zaa:=(⟨105,((((tN (sL 11 0 5 5)).node none tE).node (some (sL 97 0 5 18446744073709551616)) ((tN zmE).node none tE)).node (some (sL 10 0 4 4)) (((tN (sL 10 0 4 4)).node none tE).node
none ((tN (I 0)).node (some zkw) tE))).node (some (.bool false)) ((((tN zmE).node none tE).node (some (I 0)) ((tN (sL 97 0 5 18446744073709551616)).node (some zkw) tE)).node (some (sL 11 0 5 5)) (((tN (sL 11 0 5
5)).node none tE).node none (tN (sL 10 0 4 4)))),[]⟩,⟨((tE.node none (tN Bw3)).node none ((((tE.node none (tN Bw8)).node none tE).node (some Bw5) tE).node none tE)).node (some Bw1) (((((tE.node none (tN zsW)).node
none tE).node none tE).node none tE).node none ((tN Bw4).node (some Bw2) tE)),98,9⟩)
def s3:zab×zaa:=(⟨105,((((tN (sL 11 0 5 5)).node none (tN (sL 10 0 4 4))).node (some (sL 97 0 5 18446744073709551616)) ((tN zmE).node none (tN (.slice none 0 0)))).node (some (sL 10 0 4 4))
(((tN (sL 10 0 4 4)).node none (tN (sL 11 0 5 5))).node (some (.slice none 0 0)) ((tN (I 0)).node (some zkw) tE))).node (some (.bool false)) ((((tN zmE).node none (tN (sL 10 0 2 4))).node (some (I 0)) ((tN (sL 97 0 5
18446744073709551616)).node (some zkw) (tN (I 32)))).node (some (sL 11 0 5 5)) (((tN (sL 11 0 5 5)).node none (tN zpr)).node (some (I 32)) ((tN zpr).node (some (sL 10 0 4 4)) tE))),[]⟩,⟨((tE.node none (tN Bw3)).node
none ((((tE.node none (tN Bw8)).node none tE).node (some Bw5) tE).node none tE)).node (some Bw1) (((((tE.node none (tN zsW)).node none tE).node none tE).node none tE).node none ((tN Bw4).node (some Bw2) tE)),98,9⟩)
def s4:zab×zaa:=(⟨105,(((((tN (sL 11 0 5 5)).node (some (sL 11 0 5 5)) tE).node (some (I 2)) ((tN (I 1)).node (some (sL 10 0 4 4)) tE)).node (some (sL 97 0 5 18446744073709551616)) (((tN
(.pointer (some ⟨11,36,none⟩))).node (some zmE) tE).node none (tN (.slice none 0 0)))).node (some (sL 10 0 4 4)) ((((tN (.agg {toList:= [.string ⟨#[97,100,97]⟩,.string ⟨#[99,111,117,110,116]⟩,.string ⟨#[]⟩,
I 0,I 2,.string ⟨#[]⟩,.bool false,.bool false,.slice none 0 0]})).node (some (sL 10 0 4 4)) tE).node none (tN (sL 11 0 5 5))).node (some (.slice none 0 0)) (((tN zqT).node (some (I 0)) tE).node (some zkw) (tN
zqT)))).node (some (.bool false)) (((((tN (.pointer (some ⟨11,0,none⟩))).node (some zmE) tE).node (some (I 1)) (tN (sL 10 0 2 4))).node (some (I 0)) (((tN (.agg {toList:= [.string ⟨#[101,118,97]⟩,.string ⟨#[99,
111,117,110,116]⟩,.string ⟨#[]⟩,I 0,I 1,.string ⟨#[]⟩,.bool false,.bool false,.slice none 0 0]})).node (some (sL 97 0 5 18446744073709551616)) tE).node (some zkw) (tN (I 32)))).node (some (sL 11 0 5 5))
((((tN (sL 11 0 5 5)).node (some (sL 11 0 5 5)) tE).node none (tN zpr)).node (some (I 32)) (((tN (I 2)).node (some zpr) tE).node (some (sL 10 0 4 4)) (tN (sL 10 0 4 4))))),[]⟩,⟨((tE.node none (tN Bw3)).node none
((((tE.node none (tN Bw8)).node none tE).node (some Bw5) tE).node none tE)).node (some Bw1) (((((tE.node none (tN zsW)).node none tE).node none tE).node none tE).node none ((tN Bw4).node (some Bw2) tE)),98,9⟩)
def s5:zab×zaa:=(⟨105,((((((tN (sL 150 0 3 18446744073709551616)).node (some (sL 11 0 5 5)) tE).node (some (sL 11 0 5 5)) (tN (.bool false))).node (some (I 2)) (((tN (sL 11 0 5 5)).node (some (I
1)) tE).node (some (sL 10 0 4 4)) (tN (.bool false)))).node (some (sL 97 0 5 18446744073709551616)) ((((tN (.bool false)).node (some (.pointer (some ⟨11,36,none⟩))) tE).node (some zmE) (tN (.bool false))).node none
(((tN (.bool false)).node (some (sL 97 0 5 18446744073709551616)) tE).node (some (.slice none 0 0)) (tN (.bool false))))).node (some (sL 10 0 4 4)) (((((tN (.bool true)).node (some (.agg {toList:= [.string ⟨#[97,100,
97]⟩,.string ⟨#[99,111,117,110,116]⟩,.string ⟨#[]⟩,I 0,I 2,.string ⟨#[]⟩,.bool false,.bool false,.slice none 0 0]})) tE).node (some (sL 10 0 4 4)) (tN (I 32))).node none (((tN (sL 222 0 5 5)).node (some
(.bool false)) tE).node (some (sL 11 0 5 5)) (tN (I 1)))).node (some (.slice none 0 0)) ((((tN (sL 10 0 4 4)).node (some zqT) tE).node (some (I 0)) (tN (I 2))).node (some zkw) ((tN (.bool true)).node (some zqT) (tN
(sL 10 0 4 4)))))).node (some (.bool false)) ((((((tN (sL 151 0 3 3)).node (some (.pointer (some ⟨11,0,none⟩))) tE).node (some zmE) (tN (.bool false))).node (some (I 1)) (((tN (sL 152 0 5 5)).node (some (I 0))
tE).node (some (sL 10 0 2 4)) (tN (.bool false)))).node (some (I 0)) ((((tN (.bool false)).node (some (.agg {toList:= [.string ⟨#[101,118,97]⟩,.string ⟨#[99,111,117,110,116]⟩,.string ⟨#[]⟩,I 0,I 1,.string
⟨#[]⟩,.bool false,.bool false,.slice none 0 0]})) tE).node (some (sL 97 0 5 18446744073709551616)) (tN (.bool false))).node (some zkw) (((tN (.bool false)).node (some (sL 98 0 5 5)) tE).node (some (I 32)) (tN (.bool
false))))).node (some (sL 11 0 5 5)) (((((tN (.bool false)).node (some (sL 11 0 5 5)) tE).node (some (sL 11 0 5 5)) (tN (.bool false))).node none (((tN (.bool true)).node (some (.bool false)) tE).node (some zpr) (tN
(.bool false)))).node (some (I 32)) ((((tN (sL 10 0 2 4)).node (some (I 2)) tE).node (some zpr) (tN (.bool false))).node (some (sL 10 0 4 4)) ((tN (.bool false)).node (some (sL 10 0 4 4)) (tN (sL 11 0 5 5)))))),[]⟩,
⟨(((tE.node none (tE.node none (((tN zuh).node none tE).node none tE))).node none (tN Bw3)).node none ((((tE.node none (tN Bw8)).node none tE).node (some Bw5) tE).node none tE)).node (some Bw1) (((((tE.node none (tN
zsW)).node none tE).node none (tE.node none (((tN Bw7).node none tE).node none tE))).node none ((tE.node none (((tN zug).node none tE).node none tE)).node none tE)).node none ((((tE.node none (tN zue)).node none
tE).node (some Bw4) tE).node (some Bw2) ((tE.node none (((tN zuf).node none tE).node none tE)).node none (tE.node none ((tE.node none (tN Bw7)).node none tE))))),223,9⟩)
def s7:zab×zaa:=(⟨105,((((((tN (sL 150 0 3 18446744073709551616)).node (some (sL 11 0 5 5)) tE).node (some (sL 11 0 5 5)) ((tN (sL 243 0 4 18446744073709551616)).node (some (.bool false))
tE)).node (some (I 2)) (((tN (sL 11 0 5 5)).node (some (I 1)) tE).node (some (sL 10 0 4 4)) (tN (.bool false)))).node (some (sL 97 0 5 18446744073709551616)) ((((tN (.bool false)).node (some (.pointer (some ⟨11,36,
none⟩))) tE).node (some zmE) (tN (.bool false))).node (some (I 0)) (((tN (.bool false)).node (some (sL 97 0 5 18446744073709551616)) tE).node (some (.slice none 0 0)) (tN (.bool false))))).node (some (sL 10 0 4 4))
(((((tN (.bool true)).node (some (.agg {toList:= [.string ⟨#[97,100,97]⟩,.string ⟨#[99,111,117,110,116]⟩,.string ⟨#[]⟩,I 0,I 2,.string ⟨#[]⟩,.bool false,.bool false,.slice none 0 0]})) tE).node (some (sL
10 0 4 4)) ((tN (I 0)).node (some (I 32)) tE)).node (some (sL 243 0 4 18446744073709551616)) (((tN (sL 222 0 5 5)).node (some (.bool false)) tE).node (some (sL 11 0 5 5)) (tN (I 1)))).node (some (.slice none 0 0)) ((((tN
(sL 10 0 4 4)).node (some zqT) tE).node (some (I 0)) (tN (I 2))).node (some zkw) (((tN ztY).node (some (.bool true)) tE).node (some zqT) (tN (sL 10 0 4 4)))))).node (some (.bool false)) ((((((tN (sL 151 0 3 3)).node
(some (.pointer (some ⟨11,0,none⟩))) tE).node (some zmE) ((tN (I 0)).node (some (.bool false)) tE)).node (some (I 1)) (((tN (sL 152 0 5 5)).node (some (I 0)) tE).node (some (sL 10 0 2 4)) (tN (.bool false)))).node
(some (I 0)) ((((tN (.bool false)).node (some (.agg {toList:= [.string ⟨#[101,118,97]⟩,.string ⟨#[99,111,117,110,116]⟩,.string ⟨#[]⟩,I 0,I 1,.string ⟨#[]⟩,.bool false,.bool false,.slice none 0 0]}))
tE).node (some (sL 97 0 5 18446744073709551616)) (tN (.bool false))).node (some zkw) (((tN (.bool false)).node (some (sL 98 0 5 5)) tE).node (some (I 32)) (tN (.bool false))))).node (some (sL 11 0 5 5)) (((((tN (.bool
false)).node (some (sL 11 0 5 5)) tE).node (some (sL 11 0 5 5)) (tN (.bool false))).node (some (I 0)) (((tN (.bool true)).node (some (.bool false)) tE).node (some zpr) (tN (.bool false)))).node (some (I 32)) ((((tN (sL
10 0 2 4)).node (some (I 2)) tE).node (some zpr) (tN (.bool false))).node (some (sL 10 0 4 4)) (((tN ztY).node (some (.bool false)) tE).node (some (sL 10 0 4 4)) (tN (sL 11 0 5 5)))))),[]⟩,⟨(((tE.node none ((tE.node
none (tE.node none (tN Bw5))).node none (((tN zuh).node none tE).node none tE))).node none ((tE.node none (tE.node none (tE.node none (tN Bw6)))).node (some Bw3) tE)).node none ((((tE.node none (tN Bw8)).node none
tE).node (some Bw5) tE).node none tE)).node (some Bw1) (((((tE.node none (tN zsW)).node none (tE.node none (tE.node none (tN Bw9)))).node none (tE.node none (((tN Bw7).node none tE).node none tE))).node none ((tE.node
none (((tN zug).node none tE).node none tE)).node none tE)).node none ((((tE.node none (tN zue)).node none tE).node (some Bw4) tE).node (some Bw2) ((tE.node none (((tN zuf).node none tE).node none tE)).node none
(tE.node none ((tE.node none (tN Bw7)).node none tE))))),244,9⟩)
def s8:zab×zaa:=(⟨105,((((((tN (sL 150 0 3 18446744073709551616)).node (some (sL 11 0 5 5)) (tN (sL 10 5 3 3))).node (some (sL 11 0 5 5)) ((tN (sL 243 0 4 18446744073709551616)).node (some
(.bool false)) tE)).node (some (I 2)) (((tN (sL 11 0 5 5)).node (some (I 1)) (tN (.bool true))).node (some (sL 10 0 4 4)) ((tN (.bool true)).node (some (.bool false)) tE))).node (some (sL 97 0 5 18446744073709551616))
((((tN (.bool false)).node (some (.pointer (some ⟨11,36,none⟩))) (tN (.bool true))).node (some zmE) ((tN (.bool true)).node (some (.bool false)) tE)).node (some (I 0)) (((tN (.bool false)).node (some (sL 97 0 5
18446744073709551616)) tE).node (some (.slice none 0 0)) ((tN (.bool true)).node (some (.bool false)) tE)))).node (some (sL 10 0 4 4)) (((((tN (.bool true)).node (some (.agg {toList:= [.string ⟨#[97,100,97]⟩,.string
⟨#[99,111,117,110,116]⟩,.string ⟨#[]⟩,I 0,I 2,.string ⟨#[]⟩,.bool false,.bool false,.slice none 0 0]})) (tN (.bool true))).node (some (sL 10 0 4 4)) ((tN (I 0)).node (some (I 32)) tE)).node (some (sL 243 0 4
18446744073709551616)) (((tN (sL 222 0 5 5)).node (some (.bool false)) tE).node (some (sL 11 0 5 5)) ((tN (sL 243 0 4 18446744073709551616)).node (some (I 1)) tE))).node (some (.slice none 0 0)) ((((tN (sL 10 0 4
4)).node (some zqT) (tN (sL 245 0 5 5))).node (some (I 0)) ((tN (I 0)).node (some (I 2)) tE)).node (some zkw) (((tN ztY).node (some (.bool true)) tE).node (some zqT) ((tN (.bool true)).node (some (sL 10 0 4 4))
tE))))).node (some (.bool true)) ((((((tN (sL 151 0 3 3)).node (some (.pointer (some ⟨11,0,none⟩))) (tN (.string ⟨#[]⟩))).node (some zmE) ((tN (I 0)).node (some (.bool false)) tE)).node (some (I 1)) (((tN (sL 152 0 5
5)).node (some (I 0)) (tN (.bool true))).node (some (sL 10 0 2 4)) ((tN (.bool true)).node (some (.bool false)) tE))).node (some (I 0)) ((((tN (.bool false)).node (some (.agg {toList:= [.string ⟨#[101,118,97]⟩,
.string ⟨#[99,111,117,110,116]⟩,.string ⟨#[]⟩,I 0,I 1,.string ⟨#[]⟩,.bool false,.bool false,.slice none 0 0]})) (tN (sL 244 0 5 5))).node (some (sL 97 0 5 18446744073709551616)) ((tN (.bool true)).node (some
(.bool false)) tE)).node (some zkw) (((tN (.bool false)).node (some (sL 98 0 5 5)) tE).node (some (I 32)) ((tN (.bool true)).node (some (.bool false)) tE)))).node (some (sL 11 0 5 5)) (((((tN (.bool false)).node (some
(sL 11 0 5 5)) (tN (.bool true))).node (some (sL 11 0 5 5)) ((tN (I 0)).node (some (.bool false)) tE)).node (some (I 0)) (((tN (.bool true)).node (some (.bool false)) tE).node (some zpr) ((tN (sL 10 0 4 4)).node (some
(.bool false)) tE))).node (some (I 32)) ((((tN (sL 10 0 2 4)).node (some (I 2)) (tN (I 4))).node (some zpr) ((tN (.bool true)).node (some (.bool false)) tE)).node (some (sL 10 0 4 4)) (((tN ztY).node (some (.bool
false)) tE).node (some (sL 10 0 4 4)) ((tN (sL 10 0 4 4)).node (some (sL 11 0 5 5)) tE))))),[]⟩,⟨(((tE.node none ((tE.node none (tE.node none (tN Bw5))).node none (((tN zuh).node none tE).node none tE))).node none
((tE.node none (tE.node none (tE.node none (tN Bw6)))).node (some Bw3) tE)).node none ((((tE.node none (tN Bw8)).node none tE).node (some Bw5) tE).node none ((tE.node none (tE.node none (tE.node none (tN (ABk.cells [I 0,
I 1,I 2,I 3,I 4] 3 1 none false))))).node none tE))).node (some Bw1) (((((tE.node none (tN zsW)).node none (tE.node none (tE.node none (tN Bw9)))).node none (tE.node none (((tN Bw7).node none tE).node none tE))).node
none ((tE.node none (((tN zug).node none tE).node none (tE.node none (tN Bw7)))).node none tE)).node none ((((tE.node none (tN zue)).node none tE).node (some Bw4) tE).node (some Bw2) ((tE.node none (((tN zuf).node
none tE).node none tE)).node none (tE.node none ((tE.node none (tN Bw7)).node none tE))))),246,9⟩)
end
end Go.Ev

end

section
open Go.Proofs
namespace Go.Ev
noncomputable section
def GB:Nat:=65185151242703554760590262029100101153646988597309960020356494379340201592426774597868716031
def GA:Msk:={bits:=GB,fast:=true,ora:=λ_=>none}
def OUT:Run:=ev Tryz.prog GA 99
theorem zp6:(Tryz.prog.funcs[18]?).isSome=true:=by kernel_rfl
def fn9:Func:=(Tryz.prog.funcs[18]?).get zp6
def zir:Code:=match fn9.body with|some b=>b|none=> .skip
def hdC:Code->Code| .seq a _=>a|c=>c
def tlC:Code->Code| .seq _ b=>b|_=> .skip
def F0:zab:=frameOf 105 ⟨[]⟩
def h0:zaa:={GH with wlow:=GH.next}
def b1:Code:=tlC zir
def b2:Code:=tlC b1
def b3:Code:=tlC b2
def b4:Code:=tlC b3
def b5:Code:=tlC b4
def b6:Code:=tlC b5
def b7:Code:=tlC b6
def b8:Code:=tlC b7
theorem d0:zir= .seq (hdC zir) b1:=by kernel_rfl
theorem d1:b1= .seq (hdC b1) b2:=by kernel_rfl
theorem d2:b2= .seq (hdC b2) b3:=by kernel_rfl
theorem d3:b3= .seq (hdC b3) b4:=by kernel_rfl
theorem d4:b4= .seq (hdC b4) b5:=by kernel_rfl
theorem d5:b5= .seq (hdC b5) b6:=by kernel_rfl
theorem d6:b6= .seq (hdC b6) b7:=by kernel_rfl
theorem d7:b7= .seq (hdC b7) b8:=by kernel_rfl
theorem a0:zeO Tryz.prog GA OUT 99999999999999999999 none (hdC zir) F0 h0=some (.normal,s0.1,s0.2):=by kernel_rfl
theorem a1:zeO Tryz.prog GA OUT 99999999999999999998 none (hdC b1) s0.1 s0.2=some (.normal,s1.1,s1.2):=by kernel_rfl
theorem a2:zeO Tryz.prog GA OUT 99999999999999999997 none (hdC b2) s1.1 s1.2=some (.normal,s2.1,s2.2):=by kernel_rfl
theorem a3:zeO Tryz.prog GA OUT 99999999999999999996 none (hdC b3) s2.1 s2.2=some (.normal,s3.1,s3.2):=by kernel_rfl
theorem a4:zeO Tryz.prog GA OUT 99999999999999999995 none (hdC b4) s3.1 s3.2=some (.normal,s4.1,s4.2):=by kernel_rfl
end
end Go.Ev

end

section
open Go.Proofs
namespace Go.Ev
noncomputable section
theorem a5:zeO Tryz.prog GA OUT 99999999999999999994 none (hdC b5) s4.1 s4.2=some (.normal,s5.1,s5.2):=by kernel_rfl
theorem a6:zeO Tryz.prog GA OUT 99999999999999999993 none (hdC b6) s5.1 s5.2=some (.normal,s7.1,s7.2):=by kernel_rfl
theorem a7:zeO Tryz.prog GA OUT 99999999999999999992 none (hdC b7) s7.1 s7.2=some (.normal,s8.1,s8.2):=by kernel_rfl
theorem a8:zeO Tryz.prog GA OUT 99999999999999999992 none b8 s8.1 s8.2=some (.ret,s8.1,s8.2):=by kernel_rfl
end
end Go.Ev

end
