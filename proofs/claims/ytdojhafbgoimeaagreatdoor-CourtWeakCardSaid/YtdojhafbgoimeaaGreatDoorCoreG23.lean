/- Part of the proof. -/
import Derived.Test.YtdojhafbgoimeaaGreatDoorCoreG22

section
open Go.Proofs
namespace Go.Ev
set_option maxRecDepth 100000
set_option maxHeartbeats 4000000
theorem za7 (l:D) (n:Nat) (h:n<=l.len):(l.sub 0 n).len=n:=by
 cases l<;>simp [D.sub,D.len,D.asList] at h⊢ <;>omega
theorem zcR (l:D) (n i:Nat) (h:i<n):el (l.sub 0 n) i=el l i:=by
 cases l<;>simp [D.sub,el,D.asList,zas,List.getElem?_take,h]
theorem zoT (l:D) (n i:Nat) (h:i<n):sAt (l.sub 0 n) i=sAt l i:=congrArg D.asStr (zcR l n i h)
theorem zoS (l:D) (x:Nat) (h:x<=l.len) (s:List UInt8):zbn (l.sub 0 x) s↔ ∃k,k<x/\sAt l k=s:=by
 constructor
 .rintro ⟨k,h1,h2⟩
  rw [za7 l x h] at h1
  rw [zoT l x k h1] at h2
  exact ⟨k,h1,h2⟩
 .rintro ⟨k,h1,h2⟩
  exact ⟨k,by rw [za7 l x h];exact h1,by rw [zoT l x k h1];exact h2⟩
theorem zuZ:∀(l:D) (s:List UInt8),zae (ctx (λ_=>none) zaR) 3 (103:FuncId) [V.dat (29:TypeId) l,V.str s] (V.prop (zbn l s))=((∃(x:Nat),(x<=l.len/\∀(i:Nat),i<x->sAt l i=s->False)
/\(0=(x:Int)/\True)/\True)/\∀(x:Nat),(x<=l.len/\∀(i:Nat),i<x->sAt l i=s->False)->l.len-x<LIM/\((x:Int)<(l.len:Int)->0<=(x:Int)/\(x:Int)<(l.len:Int)/\(s=sAt l x->(0<=(x:
Int)↔zbn l s))/\((s=sAt l x->False)->fits64 ((x:Int)+1)/\∃(y:Nat),(y<=l.len/\∀(i:Nat),i<y->sAt l i=s->False)/\l.len-y<l.len-x/\((x:Int)+1=(y:Int)/\True)/\True))/\(((x:
Int)<(l.len:Int)->False)->(false=true↔zbn l s))):=by intros;kernel_rfl
theorem zu7:∀(l:D) (s:List UInt8),zae (ctx (λ_=>none) zaR) 3 (137:FuncId) [V.dat (29:TypeId) l,V.str s] (V.prop (zbn l s))=((∃(x:Nat),(x<=l.len/\∀(i:Nat),i<x->sAt l i=s->False)
/\(0=(x:Int)/\True)/\True)/\∀(x:Nat),(x<=l.len/\∀(i:Nat),i<x->sAt l i=s->False)->l.len-x<LIM/\((x:Int)<(l.len:Int)->0<=(x:Int)/\(x:Int)<(l.len:Int)/\(sAt l x=s->(true=
true↔zbn l s))/\((sAt l x=s->False)->fits64 ((x:Int)+1)/\∃(y:Nat),(y<=l.len/\∀(i:Nat),i<y->sAt l i=s->False)/\l.len-y<l.len-x/\((x:Int)+1=(y:Int)/\True)/\True))/\(((x:
Int)<(l.len:Int)->False)->(false=true↔zbn l s))):=by intros;kernel_rfl
theorem zu6:∀(s:List UInt8),zae (ctx (λ_=>none) zaR) 3 (136:FuncId) [V.str s] (V.prop (zaB s))=((((s.length:Int)<1->False)->(12<(s.length:Int)->(false=true↔zaB s))/\((12<
(s.length:Int)->False)->(∃(x:Nat),(x<=s.length/\∀(i:Nat),i<x->97<=zak s i/\zak s i<=122)/\(0=(x:Int)/\True)/\True)/\∀(x:Nat),(x<=s.length/\∀(i:Nat),i<x->97<=zak s i/\
zak s i<=122)->s.length-x<LIM/\((x:Int)<(s.length:Int)->0<=(x:Int)/\(x:Int)<(s.length:Int)/\((zak s x<97->False)->0<=(x:Int)/\(x:Int)<(s.length:Int)/\(122<zak s x->
(false=true↔zaB s))/\((122<zak s x->False)->fits64 ((x:Int)+1)/\∃(y:Nat),(y<=s.length/\∀(i:Nat),i<y->97<=zak s i/\zak s i<=122)/\s.length-y<s.length-x/\((x:Int)+1=(y
:Int)/\True)/\True))/\(zak s x<97->(false=true↔zaB s)))/\(((x:Int)<(s.length:Int)->False)->(true=true↔zaB s))))/\((s.length:Int)<1->(false=true↔zaB s))):=by intros;kernel_rfl
theorem zxs:∀(a b:D),zae (ctx (λ_=>none) zaR) 3 (81:FuncId) [V.dat (29:TypeId) a,V.dat (29:TypeId) b] (V.prop (eqS a b))=((((a.len:Int)=(b.len:Int)->False)->(false=true↔eqS a b))/\
((((a.len:Int)=(b.len:Int)->False)->False)->(∃(x:Nat),(x<=a.len/\∀(i:Nat),i<x->sAt a i=sAt b i)/\(0=(x:Int)/\True)/\True)/\∀(x:Nat),(x<=a.len/\∀(i:Nat),i<x->sAt a i=sAt b i)
->a.len-x<LIM/\((x:Int)<(a.len:Int)->0<=(x:Int)/\(x:Int)<(a.len:Int)/\0<=(x:Int)/\(x:Int)<(b.len:Int)/\((sAt a x=sAt b x->False)->(false=true↔eqS a b))/\(((sAt a x=sAt b x->
False)->False)->fits64 ((x:Int)+1)/\∃(y:Nat),(y<=a.len/\∀(i:Nat),i<y->sAt a i=sAt b i)/\a.len-y<a.len-x/\((x:Int)+1=(y:Int)/\True)/\True))/\(((x:Int)<(a.len:Int)->False)->
(true=true↔eqS a b)))):=by intros;kernel_rfl
theorem zvr:∀(k:Int) (a:List UInt8) (la:Prop) (nm:D) (n:Int),zae (ctx (λ_=>none) zaR) 3 (201:FuncId) [V.agg [V.int IntKind.u8 k,V.str a,V.prop la,V.dat (29:TypeId) nm,V.int IntKind.i64
n]] (V.prop (zax k a la nm.len n))=((k=1->(1<=(nm.len:Int)->((nm.len:Int)<=16->(n=0->((la->False)->(a= []↔zax k a la nm.len n))/\(((la->False)->False)->(false=true↔zax k a la nm.len
n)))/\((n=0->False)->(false=true↔zax k a la nm.len n)))/\(((nm.len:Int)<=16->False)->(false=true↔zax k a la nm.len n)))/\((1<=(nm.len:Int)->False)->(false=true↔zax k a la nm.len n)))/\
((k=1->False)->(k=2->((nm.len:Int)=0->(n=0->(la->False↔zax k a la nm.len n))/\((n=0->False)->(false=true↔zax k a la nm.len n)))/\(((nm.len:Int)=0->False)->(false=true↔zax k a
la nm.len n)))/\((k=2->False)->(k=3->((nm.len:Int)=0->(n=0->(la->False↔zax k a la nm.len n))/\((n=0->False)->(false=true↔zax k a la nm.len n)))/\(((nm.len:Int)=0->False)->(false=
true↔zax k a la nm.len n)))/\((k=3->False)->(k=8->((nm.len:Int)=0->(n=0->(la->False↔zax k a la nm.len n))/\((n=0->False)->(false=true↔zax k a la nm.len n)))/\(((nm.len:Int)=0->
False)->(false=true↔zax k a la nm.len n)))/\((k=8->False)->(k=9->((nm.len:Int)=0->(n=0->(la->False↔zax k a la nm.len n))/\((n=0->False)->(false=true↔zax k a la nm.len n)))/\
(((nm.len:Int)=0->False)->(false=true↔zax k a la nm.len n)))/\((k=9->False)->(k=4->((nm.len:Int)=0->(1<=n->(n<=2↔zax k a la nm.len n))/\((1<=n->False)->(false=true↔zax k a la
nm.len n)))/\(((nm.len:Int)=0->False)->(false=true↔zax k a la nm.len n)))/\((k=4->False)->(k=5->((nm.len:Int)=0->(n=0↔zax k a la nm.len n))/\(((nm.len:Int)=0->False)->(false=true
↔zax k a la nm.len n)))/\((k=5->False)->(k=6->(1<=(nm.len:Int)->((nm.len:Int)<=16->(n=0↔zax k a la nm.len n))/\(((nm.len:Int)<=16->False)->(false=true↔zax k a la nm.len n)))/\((1<=
(nm.len:Int)->False)->(false=true↔zax k a la nm.len n)))/\((k=6->False)->(k=7->(1<=(nm.len:Int)->((nm.len:Int)<=16->(n=0↔zax k a la nm.len n))/\(((nm.len:Int)<=16->False)->(false=
true↔zax k a la nm.len n)))/\((1<=(nm.len:Int)->False)->(false=true↔zax k a la nm.len n)))/\((k=7->False)->(k=10->((nm.len:Int)=0->(0<=n->(n<=63->(la->False↔zax k a la nm.len n))/\
((n<=63->False)->(false=true↔zax k a la nm.len n)))/\((0<=n->False)->(false=true↔zax k a la nm.len n)))/\(((nm.len:Int)=0->False)->(false=true↔zax k a la nm.len n)))/\((k=10->False)->
(false=true↔zax k a la nm.len n)))))))))))):=by intros;kernel_rfl
theorem zvf:∀(l:D),zae (ctx cc1 zaR) 3 (169:FuncId) [V.dat (29:TypeId) l] (V.prop (zbc l))=((∃(x:Nat),(x<=l.len/\∀(i k:Nat),k<i->i<x->sAt l k=sAt l i->False)/\(0=(x:Int)/\
True)/\True)/\∀(x:Nat),(x<=l.len/\∀(i k:Nat),k<i->i<x->sAt l k=sAt l i->False)->l.len-x<LIM/\((x:Int)<(l.len:Int)->0<=(x:Int)/\(x:Int)<(l.len:Int)/\(0:Int)<=0/\0<=(x:
Int)/\(x:Int)<=(l.len:Int)/\(l.sub 0 x).len<=100/\(zbn (l.sub 0 x) (sAt l x)->(true=true↔zbc l))/\((zbn (l.sub 0 x) (sAt l x)->False)->fits64 ((x:Int)+1)/\∃(y:Nat),(y<=l.len/\∀(i k:
Nat),k<i->i<y->sAt l k=sAt l i->False)/\l.len-y<l.len-x/\((x:Int)+1=(y:Int)/\True)/\True))/\(((x:Int)<(l.len:Int)->False)->(false=true↔zbc l))):=by intros;kernel_rfl
theorem zvg:∀(c:D) (s:List UInt8),zae (ctx cc1 (zoe s)) 6 (170:FuncId) [V.dat (22:TypeId) c,V.str s] (V.prop (zaJ c c.len s))=((∃(x:Nat),(x<=c.len/\∀(k:Nat),k<x->cK (el c k)=1/\
zbn (cNm (el c k)) s->False)/\(0=(x:Int)/\True)/\True)/\∀(x:Nat),(x<=c.len/\∀(k:Nat),k<x->cK (el c k)=1/\zbn (cNm (el c k)) s->False)->c.len-x<LIM/\((x:Int)<(c.len:Int)->0<=(x:
Int)/\(x:Int)<(c.len:Int)/\(cK (el c x)=1->(cNm (el c x)).len<=100/\(zbn (cNm (el c x)) s->(0<=(x:Int)↔zaJ c c.len s))/\((zbn (cNm (el c x)) s->False)->fits64 ((x:Int)+1)/\∃(y:Nat),(y
<=c.len/\∀(k:Nat),k<y->cK (el c k)=1/\zbn (cNm (el c k)) s->False)/\c.len-y<c.len-x/\((x:Int)+1=(y:Int)/\True)/\True))/\((cK (el c x)=1->False)->fits64 ((x:Int)+1)/\∃(y:Nat),
(y<=c.len/\∀(k:Nat),k<y->cK (el c k)=1/\zbn (cNm (el c k)) s->False)/\c.len-y<c.len-x/\((x:Int)+1=(y:Int)/\True)/\True))/\(((x:Int)<(c.len:Int)->False)->(false=true↔zaJ c
c.len s))):=by intros;kernel_rfl
theorem zu3:∀(k:Int) (a:List UInt8) (la:Prop) (nm:D) (n k':Int) (a':List UInt8) (la':Prop) (nm':D) (n':Int),zae (ctx cc1 zaR) 3 (124:FuncId) [V.agg [V.int IntKind.u8 k,V.str a,V.prop la,
V.dat (29:TypeId) nm,V.int IntKind.i64 n],V.agg [V.int IntKind.u8 k',V.str a',V.prop la',V.dat (29:TypeId) nm',V.int IntKind.i64 n']] (V.prop (k=k'/\a=a'/\(la↔la')/\n=n'/\eqS nm nm'))=((k=k'->
(a=a'->((la↔la')->(n=n'->nm.len<=100/\(eqS nm nm'↔k=k'/\a=a'/\(la↔la')/\n=n'/\eqS nm nm'))/\((n=n'->False)->(false=true↔k=k'/\a=a'/\(la↔la')/\n=n'/\eqS nm nm')))/\(((la↔
la')->False)->(false=true↔k=k'/\a=a'/\(la↔la')/\n=n'/\eqS nm nm')))/\((a=a'->False)->(false=true↔k=k'/\a=a'/\(la↔la')/\n=n'/\eqS nm nm')))/\((k=k'->False)->(false=true↔k=
k'/\a=a'/\(la↔la')/\n=n'/\eqS nm nm'))):=by intros;kernel_rfl
theorem zuR {s:List UInt8} {x:Nat} (hx:x<s.length) (hn:¬(97<=zak s x/\zak s x<=122)):¬zaB s:=λh=>hn (h.out.2.2 x hx)
theorem zv2 (l:D) (s:List UInt8) (h:l.len<=100):zae (ctx (λ_=>none) zaR) 3 103 [.dat 29 l,.str s] (.prop (zbn l s)):=by
 rw [zuZ]
 simp only [imp_false,Classical.not_not,true_and,and_true]
 refine ⟨⟨0,⟨by omega,λi hi=>by omega⟩,rfl⟩,λx ⟨hx,hinv⟩=>⟨by unfold LIM;omega,λhlt=>⟨by omega,hlt,λhe=>⟨λ_=>⟨x,by omega,he.symm⟩,λ_=>by omega⟩,λhn=>⟨by omega,x+1,⟨by omega,λi hi=> ?_⟩,by omega,by omega⟩⟩,λhge=>⟨λh=>by simp at h,λh=> ?_⟩⟩⟩
 .by_cases e:i=x
  .subst e;exact λh=>hn h.symm
  .exact hinv i (by omega)
 .obtain ⟨i,h1,h2⟩:=h.out;exact absurd h2 (hinv i (by omega))
theorem zwa (l:D) (s:List UInt8) (h:l.len<=100):zae (ctx (λ_=>none) zaR) 3 137 [.dat 29 l,.str s] (.prop (zbn l s)):=by
 rw [zu7]
 simp only [imp_false,Classical.not_not,true_and,and_true]
 refine ⟨⟨0,⟨by omega,λi hi=>by omega⟩,rfl⟩,λx ⟨hx,hinv⟩=>⟨by unfold LIM;omega,λhlt=>⟨by omega,hlt,λhe=>⟨λ_=>⟨x,by omega,he⟩,λ_=>by first|rfl|trivial⟩,λhn=>⟨by omega,x+1,⟨by omega,λi hi=> ?_⟩,by omega,by omega⟩⟩,λhge=>⟨λh=>by simp at h,λh=> ?_⟩⟩⟩
 .by_cases e:i=x
  .subst e;exact hn
  .exact hinv i (by omega)
 .obtain ⟨i,h1,h2⟩:=h.out;exact absurd h2 (hinv i (by omega))
theorem zv9 (s:List UInt8):zae (ctx (λ_=>none) zaR) 3 136 [.str s] (.prop (zaB s)):=by
 rw [zu6]
 simp only [imp_false,Classical.not_not,true_and,and_true]
 have no:∀x,x<s.length->¬(97<=zak s x/\zak s x<=122)->(false=true↔zaB s):=λx hx hn=>⟨λh=>by simp at h,λh=>absurd (h.out.2.2 x hx) hn⟩
 have bad:¬(1<=s.length/\s.length<=12)->(false=true↔zaB s):=λhn=>⟨λh=>by simp at h,λh=>absurd ⟨h.out.1,h.out.2.1⟩ hn⟩
 refine ⟨λh1=>⟨λh2=>bad (by omega),λh2=>⟨⟨0,⟨by omega,λi hi=>by omega⟩,rfl⟩,λx ⟨hx,hinv⟩=>⟨by unfold LIM;omega,λhlt=>⟨by omega,by omega,λh3=>⟨by omega,by omega,λh4=>no x (by omega) (by omega),λh4=>⟨by omega,x+1,⟨by omega,λi hi=> ?_⟩,by omega,by omega⟩⟩,λh3=>no x (by omega) (by omega)⟩,λhge=>⟨λ_=>⟨by omega,by omega,λi hi=>hinv i (by omega)⟩,λ_=>by first|rfl|trivial⟩⟩⟩⟩,λh1=>bad (by omega)⟩
 by_cases e:i=x
 .subst e;exact ⟨by omega,by omega⟩
 .exact hinv i (by omega)
theorem s81 (a b:D) (h:a.len<=100):zae (ctx (λ_=>none) zaR) 3 81 [.dat 29 a,.dat 29 b] (.prop (eqS a b)):=by
 rw [zxs]
 simp only [imp_false,Classical.not_not,true_and,and_true]
 refine ⟨λhne=>⟨λh=>by simp at h,λh=>absurd (by rw [h.out.1]) hne⟩,λheq=>⟨⟨0,⟨by omega,λi hi=>by omega⟩,rfl⟩,λx ⟨hx,hinv⟩=>⟨by unfold LIM;omega,λhlt=>⟨by omega,hlt,by omega,by omega,λhn=>⟨λh=>by simp at h,λh=>absurd (h.out.2 x (by omega)) hn⟩,λhs=>⟨by omega,x+1,⟨by omega,λi hi=> ?_⟩,by omega,by omega⟩⟩,λhge=>⟨λ_=>⟨by omega,λi hi=>hinv i (by omega)⟩,λ_=>by first|rfl|trivial⟩⟩⟩⟩
 by_cases e:i=x
 .subst e;exact hs
 .exact hinv i (by omega)
theorem zkT (k:Int) (a:List UInt8) (la:Prop) (m:Nat) (n:Int):zax k a la m n↔((k=1/\1<=m/\m<=16/\n=0/\¬la/\a= [])\/((k=2\/k=3\/k=8\/k=9)/\m=0/\n=0/\¬la)\/
  (k=4/\m=0/\1<=n/\n<=2)\/(k=5/\m=0/\n=0)\/((k=6\/k=7)/\1<=m/\m<=16/\n=0)\/(k=10/\m=0/\0<=n/\n<=63/\¬la)):=⟨λh=>h.out,λh=>⟨h⟩⟩
set_option maxHeartbeats 8000000 in
theorem zwu (k:Int) (a:List UInt8) (la:Prop) (nm:D) (n:Int):zae (ctx (λ_=>none) zaR) 3 201 [.agg [.int .u8 k,.str a,.prop la,.dat 29 nm,.int .i64 n]] (.prop (zax k a la nm.len n)):=by
 rw [zvr]
 simp only [zkT,imp_false,Classical.not_not,Bool.false_eq_true,false_iff]
 generalize (a= [])=A at*
 by_cases hA:A<;>by_cases hla:la<;>simp only [hA,hla,not_true_eq_false,not_false_eq_true,true_implies,false_implies,true_and,and_true,and_false,false_and,true_iff,false_iff,or_false,false_or]<;>(repeat' (first|refine And.intro ?_ ?_|intro _))<;>omega
theorem zwi (l:D) (h:l.len<=100):zae (ctx cc1 zaR) 3 169 [.dat 29 l] (.prop (zbc l)):=by
 rw [zvf]
 simp only [imp_false,Classical.not_not,true_and,and_true]
 refine ⟨⟨0,⟨by omega,λi k hk hi=>by omega⟩,rfl⟩,λx ⟨hx,hinv⟩=>⟨by unfold LIM;omega,λhlt=> ?_,λhge=>⟨λh=>by simp at h,λh=> ?_⟩⟩⟩
 .have hs:=zoS l x (by omega) (sAt l x)
  refine ⟨by omega,hlt,by omega,by omega,by omega,by rw [za7 l x (by omega)];omega,λhh=>⟨λ_=> ?_,λ_=>by first|rfl|trivial⟩,λhn=>⟨by omega,x+1,⟨by omega,λi k hk hi=> ?_⟩,by omega,by omega⟩⟩
  .obtain ⟨k,h1,h2⟩:=hs.1 hh;exact ⟨x,k,h1,by omega,h2⟩
  .by_cases e:i=x
   .subst e;exact λh=>hn (hs.2 ⟨k,hk,h⟩)
   .exact hinv i k hk (by omega)
 .obtain ⟨i,k,h1,h2,h3⟩:=h.out;exact absurd h3 (hinv i k h1 (by omega))
theorem zwj (c:D) (s:List UInt8) (h:zaE c):zae (ctx cc1 (zoe s)) 6 170 [.dat 22 c,.str s] (.prop (zaJ c c.len s)):=by
 have hlen:=h.out.1
 rw [zvg]
 simp only [imp_false,Classical.not_not,true_and,and_true]
 have go:∀x,x<c.len->(∀k,k<x->¬(cK (el c k)=1/\zbn (cNm (el c k)) s))->¬(cK (el c x)=1/\zbn (cNm (el c x)) s)->∃y,(y<=c.len/\∀k,k<y->¬(cK (el c k)=1/\zbn (cNm (el c k)) s))/\c.len-y<c.len-x/\(x:Int)+1=(y:Int):=λx hx hinv hn=>⟨x+1,⟨by omega,λk hk=>by
  by_cases e:k=x
  .subst e;exact hn
  .exact hinv k (by omega)⟩,by omega,by omega⟩
 refine ⟨⟨0,⟨by omega,λi hi=>by omega⟩,rfl⟩,λx ⟨hx,hinv⟩=>⟨by unfold LIM;omega,λhlt=>⟨by omega,hlt,λhk=>⟨h.out.2 x (by omega),λhh=>⟨λ_=>⟨x,by omega,hk,hh⟩,λ_=>by omega⟩,λhn=>⟨by omega,go x (by omega) hinv λh=>hn h.2⟩⟩,λhk=>⟨by omega,go x (by omega) hinv λh=>hk h.1⟩⟩,λhge=>⟨λh=>by simp at h,λh=> ?_⟩⟩⟩
 obtain ⟨k,h1,h2⟩:=h.out;exact absurd h2 (hinv k (by omega))
theorem zv6 (k:Int) (a:List UInt8) (la:Prop) (nm:D) (n:Int) (k':Int) (a':List UInt8) (la':Prop) (nm':D) (n':Int) (h:nm.len<=100):zae (ctx cc1 zaR) 3 124 [.agg [.int .u8 k,.str a,.prop la,.dat 29 nm,.int .i64 n],.agg [.int .u8 k',.str a',.prop la',.dat 29 nm',.int .i64 n']] (.prop (k=k'/\a=a'/\(la↔la')/\n=n'/\eqS nm nm')):=by
 rw [zu3]
 repeat' (first|refine And.intro ?_ ?_|intro _)
 all_goals simp_all
end Go.Ev

end

section
open Go.Proofs
namespace Go.Ev
set_option maxRecDepth 100000
set_option maxHeartbeats 4000000
def zqe (s u:List UInt8):Prop:=(∃(x_1:Nat),(x_1<=u.length/\∀(i:Nat),i<x_1->(97:Int)<=zak u i/\zak u i<=(122:Int))/\(u=List.drop x_1 u/\True)/\zd1 (26:Nat)=zd1 (26:Nat)/\True)/\∀(x_1:Nat),
(x_1<=u.length/\∀(i:Nat),i<x_1->(97:Int)<=zak u i/\zak u i<=(122:Int))->u.length-x_1<LIM/\((0:Int)<(↑(List.drop x_1 u).length:Int)->(0:Int)<=(0:Int)/\(0:Int)
<(↑(List.drop x_1 u).length:Int)/\(0:Int)<=zak (List.drop x_1 u) (0:Nat)/\zak (List.drop x_1 u) (0:Nat)<(256:Int)/\(zak (List.drop x_1 u) (0:Nat)).toNat*1<(zd1 (26:
Nat)).length/\(((zas (zd1 (26:Nat)) ((zak (List.drop x_1 u) (0:Nat)).toNat*1)).asProp->False)->(List.drop x_1 u= []↔zaB s))/\((((zas (zd1 (26:Nat)) ((zak (List.drop x_1 u)
(0:Nat)).toNat*1)).asProp->False)->False)->(0:Int)<=(1:Int)/\(1:Int)<=(↑(List.drop x_1 u).length:Int)/\(↑(List.drop x_1 u).length:Int)<=(↑(List.drop x_1 u).length:Int)/\∃(y:
Nat),(y<=u.length/\∀(i:Nat),i<y->(97:Int)<=zak u i/\zak u i<=(122:Int))/\u.length-y<u.length-x_1/\(List.take ((List.drop x_1 u).length-Int.toNat (1:Int)) (List.drop
(Int.toNat (1:Int)) (List.drop x_1 u))=List.drop y u/\True)/\zd1 (26:Nat)=zd1 (26:Nat)/\True))/\(((0:Int)<(↑(List.drop x_1 u).length:Int)->False)->(List.drop x_1 u= []↔zaB
s))
theorem zuY:∀(s:List UInt8),zae (ctx cc0 zaR) 6 (102:FuncId) [V.str s] (V.prop (zaB s))=(((s= []->False)->((s.length:Int)<=12->((s= []->False)->(∃(x:Nat),x.le 26/\(0=(x:Int)/\True)
/\List.replicate 256 (D.bool False)=zd1 x/\True)/\∀(x:Nat),x.le 26->26-x<LIM/\((x:Int)<26->0<=(x:Int)/\(x:Int)<26/\(128<=zak zjO x->False/\False/\(([]:List UInt8)= []↔zaB s))
/\((128<=zak zjO x->False)->0<=zak zjO x/\zak zjO x<256/\(zak zjO x).toNat*1<(zd1 x).length/\fits64 ((x:Int)+1)/\∃(y:Nat),y.le 26/\26-y<26-x/\((x:Int)+1=(y:Int)
/\True)/\(zd1 x).set ((zak zjO x).toNat*1) (D.bool (true=true))=zd1 y/\True))/\(((x:Int)<26->False)->(∃(x_1:Nat),(x_1<=s.length/\∀(i:Nat),x_1<=i->i<s.length->97<=zak s i/\zak
s i<=122)/\(s=List.take x_1 s/\True)/\zd1 x=zd1 26/\True)/\∀(x:Nat),(x<=s.length/\∀(i:Nat),x<=i->i<s.length->97<=zak s i/\zak s i<=122)->x<LIM/\(0<(↑(List.take x s).length:Int)
->fits64 ((↑(List.take x s).length:Int)-1)/\0<=(↑(List.take x s).length:Int)-1/\(↑(List.take x s).length:Int)-1<(↑(List.take x s).length:Int)/\0<=zak (List.take x s) ((↑(List.take x s).length:
Int)-1).toNat/\zak (List.take x s) ((↑(List.take x s).length:Int)-1).toNat<256/\(zak (List.take x s) ((↑(List.take x s).length:Int)-1).toNat).toNat*1<(zd1 26).length/\(((zas (zd1 26) ((zak
(List.take x s) ((↑(List.take x s).length:Int)-1).toNat).toNat*1)).asProp->False)->zqe s (List.take x s))/\((((zas (zd1 26) ((zak (List.take x s) ((↑(List.take x s).length:Int)-1).toNat).toNat*
1)).asProp->False)->False)->fits64 ((↑(List.take x s).length:Int)-1)/\(0:Int)<=0/\0<=(↑(List.take x s).length:Int)-1/\(↑(List.take x s).length:Int)-1<=(↑(List.take x s).length:Int)/\∃(y:Nat),
(y<=s.length/\∀(i:Nat),y<=i->i<s.length->97<=zak s i/\zak s i<=122)/\y<x/\(List.take ((↑(List.take x s).length:Int)-1).toNat (List.drop 0 (List.take x s))=List.take y s/\True)/\zd1 26=
zd1 26/\True))/\((0<(↑(List.take x s).length:Int)->False)->zqe s (List.take x s))))/\(s= []->(s= []↔zaB s)))/\(((s.length:Int)<=12->False)->(false=true↔zaB s)))/\(((s= []->False)->
False)->(false=true↔zaB s))):=by intros;kernel_rfl
theorem zve:∀(k:Int) (a:List UInt8) (la:Prop) (nm:D) (n:Int),zae (ctx (λ_=>none) zaR) 3 (168:FuncId) [V.agg [V.int IntKind.u8 k,V.str a,V.prop la,V.dat (29:TypeId) nm,V.int IntKind.i64
n]] (V.prop (zax k a la nm.len n))=(((k<1->False)->(10<k->(false=true↔zax k a la nm.len n))/\((10<k->False)->0<=k/\k<(↑(11:Nat):Int)/\((((zas zb3 k.toNat).fld 4).asProp↔0<(nm.len:
Int))->((nm.len:Int)<=16->(((zas zb3 k.toNat).fld 1).asInt<=n->(n<=((zas zb3 k.toNat).fld 2).asInt->(((cNm (zas zb3 k.toNat)).asProp->False)->((la->False)->(((zas zb3 k.toNat).fld 5).asProp->
((a= []->False)->False↔zax k a la nm.len n))/\((((zas zb3 k.toNat).fld 5).asProp->False)->((!false)=true↔zax k a la nm.len n)))/\(((la->False)->False)->(false=true↔zax k a la nm.len n)))/\
((cNm (zas zb3 k.toNat)).asProp->(((zas zb3 k.toNat).fld 5).asProp->((a= []->False)->False↔zax k a la nm.len n))/\((((zas zb3 k.toNat).fld 5).asProp->False)->((!false)=true↔zax k a la nm.len
n))))/\((n<=((zas zb3 k.toNat).fld 2).asInt->False)->(false=true↔zax k a la nm.len n)))/\((((zas zb3 k.toNat).fld 1).asInt<=n->False)->(false=true↔zax k a la nm.len n)))/\(((nm.len:Int)<=
16->False)->(false=true↔zax k a la nm.len n)))/\(((((zas zb3 k.toNat).fld 4).asProp↔0<(nm.len:Int))->False)->(false=true↔zax k a la nm.len n))))/\(k<1->(false=true↔zax k a la nm.len
n))):=by intros;kernel_rfl
theorem zeE (x:Nat):(zd1 x).length=256:=by unfold zd1;simp
theorem zoL:List.replicate 256 (D.bool False)=zd1 0:=by
 unfold zd1
 have:(λk:Nat=>D.bool (97<=k/\k<97+0))=λ_=>D.bool False:=funext λk=>congrArg D.bool (propext ⟨λh=>by omega,λh=>h.elim⟩)
 rw [this,List.map_const',List.length_range]
theorem zlq (y:Nat) {i:Nat} (h:i<256):(zd1 y)[i]? =some (D.bool (97<=i/\i<97+y)):=by
 unfold zd1;rw [List.getElem?_map,List.getElem?_range h];rfl
theorem zqB (x:Nat) (hx:x<26):(zd1 x).set (97+x) (D.bool True)=zd1 (x+1):=by
 refine List.ext_getElem? λi=> ?_
 rw [List.getElem?_set]
 by_cases hi:i<256
 .rw [zlq x hi,zlq (x+1) hi]
  split
  .rw [if_pos (by rw [zeE];omega)]
   exact congrArg (λp=>some (D.bool p)) (propext ⟨λ_=>by omega,λ_=>trivial⟩)
  .exact congrArg (λp=>some (D.bool p)) (propext ⟨λ_=>by omega,λ_=>by omega⟩)
 .rw [if_neg (by omega),List.getElem?_eq_none (by rw [zeE];omega),List.getElem?_eq_none (by rw [zeE];omega)]
theorem zsH {n:Nat} (h:n<256):(zas (zd1 26) n).asProp=(97<=n/\n<97+26):=by
 unfold zas zd1
 rw [List.getElem?_map,List.getElem?_range h];rfl
theorem zsl:∀x:Nat,x<26->zak zjO x=97+x:=by decide+kernel
theorem zjB (s:List UInt8) (i:Nat):0<=zak s i/\zak s i<256:=by
 unfold zak
 have:=((s[i]?).getD 0).toNat_lt
 omega
theorem zis (s:List UInt8) (x i:Nat) (h:i<x):zak (s.take x) i=zak s i:=by
 unfold zak;rw [List.getElem?_take_of_lt h]
theorem zmY (s:List UInt8) (y:Nat):zak (s.drop y) 0=zak s y:=by
 unfold zak;rw [List.getElem?_drop];rfl
theorem zog {s:List UInt8} {i:Nat}:(zas (zd1 26) ((zak s i).toNat*1)).asProp↔(97<=zak s i/\zak s i<=122):=by
 have:=zjB s i
 rw [zsH (by omega)]
 omega
theorem drop_nil {u:List UInt8} {y:Nat}:u.drop y= []↔u.length<=y:=List.drop_eq_nil_iff
theorem zob {s u:List UInt8} (hl:u.length<=12) (h:(u= []/\zaB s)\/(0<u.length/\¬zaB s/\¬(97<=zak u (u.length-1)/\zak u (u.length-1)<=122))):zqe s u:=by
 have stop:∀y,y<=u.length->(∀i,i<y->97<=zak u i/\zak u i<=122)->(u.drop y= []↔zaB s):=λy hy hinv=>by
  rw [drop_nil]
  rcases h with ⟨h1,h2⟩| ⟨h1,h2,h3⟩
  .subst h1;exact ⟨λ_=>h2,λ_=>Nat.zero_le _⟩
  .exact ⟨λhh=>absurd (hinv _ (by omega)) h3,λhh=>absurd hh h2⟩
 unfold zqe
 simp only [imp_false,Classical.not_not,true_and,and_true,zog,zeE]
 refine ⟨⟨0,⟨by omega,λi hi=>by omega⟩,rfl⟩,λx ⟨hx,hinv⟩=>⟨by unfold LIM;omega,λhlt=> ?_,λhge=>stop x hx hinv⟩⟩
 have hb:=zjB (u.drop x) 0
 have hd:(u.drop x).length=u.length-x:=List.length_drop
 refine ⟨by omega,hlt,by omega,by omega,by omega,λhn=>stop x hx hinv,λhm=>⟨by omega,by omega,by omega,x+1,⟨by omega,λi hi=> ?_⟩,by omega, ?_⟩⟩
 .by_cases e:i=x
  .subst e;rw [zmY] at hm;exact hm
  .exact hinv i (by omega)
 .rw [List.drop_drop,List.take_of_length_le (by rw [List.length_drop,List.length_drop];simp;omega)]
  first|rfl| (congr 1;simp;omega)
theorem zv1 (s:List UInt8):zae (ctx cc0 zaR) 6 102 [.str s] (.prop (zaB s)):=by
 rw [zuY]
 simp only [imp_false,Classical.not_not,and_true,zog,zeE]
 have bad:¬(1<=s.length/\s.length<=12)->(false=true↔zaB s):=λhn=>⟨λh=>by simp at h,λh=>absurd ⟨h.out.1,h.out.2.1⟩ hn⟩
 refine ⟨λhne=>⟨λhl=>⟨λ_=>⟨⟨0,Nat.zero_le _,rfl,zoL⟩,λx hx=> ?_⟩,λh=>absurd h hne⟩,λhl=>bad (by omega)⟩,λhe=>bad (by rw [he];simp)⟩
 have hx:x<=26:=hx
 have hpos:0<s.length:=List.length_pos_iff.2 hne
 refine ⟨by unfold LIM;omega,λhlt=> ?_,λhge=> ?_⟩
 .have hb:=zsl x (by omega)
  refine ⟨by omega,hlt,λh=>by omega,λ_=>⟨by omega,by omega,by omega,by omega,x+1,show x+1<=26 by omega,by omega,by omega, ?_⟩⟩
  rw [hb,show ((97:Int)+(x:Int)).toNat*1=97+x by omega]
  exact zqB x (by omega)
 .have hx26:x=26:=by omega
  subst hx26
  refine ⟨⟨s.length,⟨Nat.le_refl _,λi h1 h2=>by omega⟩,(List.take_of_length_le (Nat.le_refl _)).symm,rfl⟩,λx ⟨hx,hinv⟩=> ?_⟩
  have ht:(s.take x).length=x:=List.length_take_of_le hx
  have hb:=zjB (s.take x) (((s.take x).length:Int)-1).toNat
  rw [ht] at hb⊢
  have hlast:0<x->zak (s.take x) ((x:Int)-1).toNat=zak s (x-1):=λh=>by
   rw [show ((x:Int)-1).toNat=x-1 by omega,zis s x (x-1) (by omega)]
  refine ⟨by unfold LIM;omega,λhlt=>⟨by omega,by omega,by omega,hb.1,hb.2,by omega,λhn=> ?_,λhm=>⟨by omega,by omega,by omega,by omega,x-1,⟨by omega,λi h1 h2=> ?_⟩,by omega, ?_⟩⟩,λhge=> ?_⟩
  .have hl:=hlast (by omega)
   rw [hl] at hn
   refine zob (by omega) (.inr ⟨by omega,zuR (show x-1<s.length by omega) hn, ?_⟩)
   rw [ht,zis s x (x-1) (by omega)];exact hn
  .by_cases e:i=x-1
   .subst e;rw [hlast (by omega)] at hm;exact hm
   .exact hinv i (by omega) h2
  .rw [List.drop_zero,List.take_take];congr 1;omega
  .have:x=0:=by omega
   subst this
   exact zob (by simp) (.inl ⟨rfl,⟨by omega,by omega,λi hi=>hinv i (by omega) hi⟩⟩)
theorem fm4:∀k:Int,1<=k->k<=10->(((zas zb3 k.toNat).fld 4).asProp↔(k=1\/k=6\/k=7)):=λk h1 h2=>by
 have:k=1\/k=2\/k=3\/k=4\/k=5\/k=6\/k=7\/k=8\/k=9\/k=10:=by omega
 rcases this with rfl|rfl|rfl|rfl|rfl|rfl|rfl|rfl|rfl|rfl<;>first| (show (true=true↔_);simp;done)| (show (false=true↔_);simp;done)
theorem fm3:∀k:Int,1<=k->k<=10->((cNm (zas zb3 k.toNat)).asProp↔(k=4\/k=5\/k=6\/k=7)):=λk h1 h2=>by
 have:k=1\/k=2\/k=3\/k=4\/k=5\/k=6\/k=7\/k=8\/k=9\/k=10:=by omega
 rcases this with rfl|rfl|rfl|rfl|rfl|rfl|rfl|rfl|rfl|rfl<;>first| (show (true=true↔_);simp;done)| (show (false=true↔_);simp;done)
theorem fm5:∀k:Int,1<=k->k<=10->(((zas zb3 k.toNat).fld 5).asProp↔k=1):=λk h1 h2=>by
 have:k=1\/k=2\/k=3\/k=4\/k=5\/k=6\/k=7\/k=8\/k=9\/k=10:=by omega
 rcases this with rfl|rfl|rfl|rfl|rfl|rfl|rfl|rfl|rfl|rfl<;>first| (show (true=true↔_);simp;done)| (show (false=true↔_);simp;done)
theorem fm1:∀k:Int,1<=k->k<=10->((zas zb3 k.toNat).fld 1).asInt=if k=4 then 1 else 0:=λk h1 h2=>by
 have:k=1\/k=2\/k=3\/k=4\/k=5\/k=6\/k=7\/k=8\/k=9\/k=10:=by omega
 rcases this with rfl|rfl|rfl|rfl|rfl|rfl|rfl|rfl|rfl|rfl<;>rfl
theorem fm2:∀k:Int,1<=k->k<=10->((zas zb3 k.toNat).fld 2).asInt=if k=4 then 2 else if k=10 then 63 else 0:=λk h1 h2=>by
 have:k=1\/k=2\/k=3\/k=4\/k=5\/k=6\/k=7\/k=8\/k=9\/k=10:=by omega
 rcases this with rfl|rfl|rfl|rfl|rfl|rfl|rfl|rfl|rfl|rfl<;>rfl
set_option maxHeartbeats 8000000 in
theorem zwh (k:Int) (a:List UInt8) (la:Prop) (nm:D) (n:Int):zae (ctx (λ_=>none) zaR) 3 168 [.agg [.int .u8 k,.str a,.prop la,.dat 29 nm,.int .i64 n]] (.prop (zax k a la nm.len n)):=by
 rw [zve]
 simp only [zkT,imp_false,Classical.not_not,Bool.false_eq_true,false_iff,Bool.not_false]
 refine ⟨λh1=>⟨λh2=>by omega,λh2=>⟨by omega,by omega, ?_⟩⟩,λh1=>by omega⟩
 rw [fm1 k (by omega) (by omega),fm2 k (by omega) (by omega)]
 simp only [fm3 k (by omega) (by omega),fm4 k (by omega) (by omega),fm5 k (by omega) (by omega)]
 generalize (a= [])=A at*
 generalize nm.len=m
 have hk:k=1\/k=2\/k=3\/k=4\/k=5\/k=6\/k=7\/k=8\/k=9\/k=10:=by omega
 clear h1 h2
 rcases hk with rfl|rfl|rfl|rfl|rfl|rfl|rfl|rfl|rfl|rfl<;>by_cases hA:A<;>by_cases hla:la<;>simp [hA,hla]<;>omega
end Go.Ev

end
